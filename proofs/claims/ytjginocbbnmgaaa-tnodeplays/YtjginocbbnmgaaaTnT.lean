/-
  SEAT Ytjginocbbnmgaaa: shrink.
-/
import Derived.Test.YtjginocbbnmgaaaTnS
namespace Go.Proofs.Ytjginocbbnmgaaa
open Go.RowKit
set_option linter.unusedVariables false
variable {bx : Nat}

/-- A height that is that of the greatest key. -/
structure Fit (h : Nat) (M : Mp) : Prop where
  zero : h = 0 → ∀ k, M k = none
  more : 0 < h → ∃ k, (M k).isSome = true ∧ (h = 1 ∨ spn (h - 1) ≤ k)
theorem row_alone (l : Nat) (bs : List (Option Nat)) (h : bs.length = 16) : rowOf (l + 1) bs = alone (rowOf (l + 1) bs) ↔ ∀ i, 1 ≤ i → i < 16 → bs.getD i none = none := by
  have hg : ∀ j, j < 16 → (rowOf (l + 1) bs).getD j none = bs.getD j none := fun j hj => by
    unfold rowOf
    rw [if_neg (by omega), List.getD_eq_getElem?_getD, List.getElem?_append_left (by omega), List.getD_eq_getElem?_getD]
  have hg2 : ∀ j, 16 ≤ j → j < 32 → (rowOf (l + 1) bs).getD j none = none := fun j hj hj2 => by
    unfold rowOf
    rw [if_neg (by omega), List.getD_eq_getElem?_getD, List.getElem?_append_right (by omega), List.getElem?_replicate]
    split <;> rfl
  have ha : ∀ j, (alone (rowOf (l + 1) bs)).getD j none = if j = 0 then (rowOf (l + 1) bs).getD 0 none else none := fun j => by
    cases j with
    | zero => rfl
    | succ j =>
      show (List.replicate 31 none).getD j none = none
      rw [List.getD_eq_getElem?_getD, List.getElem?_replicate]
      split <;> rfl
  constructor
  · intro e i hi hi2
    rw [← hg i hi2, e, ha, if_neg (by omega)]
  · intro q
    have hl1 := rowOf_len (l + 1) h
    refine List.ext_getElem (by rw [hl1]; simp [alone]) (fun i h1 h2 => ?_)
    have e1 : (rowOf (l + 1) bs).getD i none = (rowOf (l + 1) bs)[i] := by rw [List.getD_eq_getElem?_getD, List.getElem?_eq_getElem h1]; rfl
    have e2 : (alone (rowOf (l + 1) bs)).getD i none = (alone (rowOf (l + 1) bs))[i] := by rw [List.getD_eq_getElem?_getD, List.getElem?_eq_getElem h2]; rfl
    rw [← e1, ← e2, ha]
    by_cases h0 : i = 0
    · rw [if_pos h0, h0]
    · rw [if_neg h0]
      by_cases h16 : i < 16
      · rw [hg i h16]; exact q i (by omega) h16
      · exact hg2 i (by omega) (by omega)
/-- The top of a tree of two levels and more: what leadsToFirstAlone tells of it. -/
theorem top_row {H : Nat → Option Obj} {l g : Nat} {M : Mp} (h : NodeOn H (l + 1) (some g) M) (hout : ∀ k, spn (l + 2) ≤ k → M k = none) : ∃ row b0, row.length = 32 ∧ H g = some (.cells (U96 row) 96 (0, 0)) ∧ row.getD 0 none = b0 ∧
    (row = alone row → (∃ g1, b0 = some g1) ∧ NodeOn H l b0 M ∧ ∀ k, spn (l + 1) ≤ k → M k = none) ∧ (row ≠ alone row → ∃ k, (M k).isSome = true ∧ spn (l + 1) ≤ k) := by
  have hf := h.full
  obtain ⟨bs, h1, h2, h3, h4⟩ := h
  rw [row1 l] at h2
  have h0 : (rowOf (l + 1) bs).getD 0 none = bs.getD 0 none := by
    unfold rowOf
    rw [if_neg (by omega), List.getD_eq_getElem?_getD, List.getElem?_append_left (by omega), List.getD_eq_getElem?_getD]
  refine ⟨rowOf (l + 1) bs, bs.getD 0 none, rowOf_len _ h1, h2, h0, fun e => ?_, fun e => ?_⟩
  · have q := (row_alone l bs h1).1 e
    have hhigh : ∀ k, spn (l + 1) ≤ k → M k = none := fun k hk => by
      by_cases hk2 : spn (l + 2) ≤ k
      · exact hout k hk2
      · obtain ⟨p1, p2, p3⟩ := split_key (spn_pos (l + 1)) (show k < 16 * spn (l + 1) from Nat.lt_of_lt_of_eq (Nat.lt_of_not_le hk2) (spn_succ (l + 1)))
        have hge : 1 ≤ k / spn (l + 1) := (Nat.le_div_iff_mul_le (spn_pos _)).2 (by omega)
        have h9 := h3 _ p1
        rw [q _ hge p1] at h9
        rw [p3]
        exact (NodeOn.isVoid h9) _ p2
    have hlow : NodeOn H l (bs.getD 0 none) M := NodeOn.congr (fun k hk => by unfold sub; rw [Nat.zero_mul, Nat.zero_add]) (h3 0 (by omega))
    refine ⟨?_, hlow, hhigh⟩
    cases hb : bs.getD 0 none with
    | some g1 => exact ⟨g1, rfl⟩
    | none =>
      rw [hb] at hlow
      refine absurd (fun k hk => ?_) hf
      by_cases hk2 : spn (l + 1) ≤ k
      · exact hhigh k hk2
      · exact (NodeOn.isVoid hlow) k (by omega)
  · have q : ¬ ∀ i, 1 ≤ i → i < 16 → bs.getD i none = none := fun q => e ((row_alone l bs h1).2 q)
    have : ∃ i, 1 ≤ i ∧ i < 16 ∧ bs.getD i none ≠ none := Classical.byContradiction fun hc => q (fun i h1 h2 => Classical.byContradiction fun h3 => hc ⟨i, h1, h2, h3⟩)
    obtain ⟨i, hi1, hi2, hi3⟩ := this
    cases hb : bs.getD i none with
    | none => exact absurd hb hi3
    | some g1 =>
      have h9 := h3 i hi2
      rw [hb] at h9
      have hv := h9.full
      have : ∃ j, j < spn (l + 1) ∧ sub M (spn (l + 1)) i j ≠ none := Classical.byContradiction fun hc => hv (fun j hj => Classical.byContradiction fun h3 => hc ⟨j, hj, h3⟩)
      obtain ⟨j, hj, hj2⟩ := this
      refine ⟨i * spn (l + 1) + j, ?_, ?_⟩
      · unfold sub at hj2
        cases hm : M (i * spn (l + 1) + j) with
        | none => exact absurd hm hj2
        | some x => rfl
      · have : spn (l + 1) ≤ i * spn (l + 1) := Nat.le_mul_of_pos_left _ (by omega)
        omega
theorem some_of {m : Option Int} (h : m ≠ none) : m.isSome = true := by cases m with | none => exact absurd rfl h | some x => rfl
set_option maxHeartbeats 4000000 in
set_option maxRecDepth 100000 in
theorem shrink_none (gt h : Nat) (n : Int) (M : Mp) (w : World) (hb : w.heap[gt]? = some (.cells #[.pointer none, .int .i64 (h : Int), .int .i64 n] 72 (0, 0))) (hM : ∀ k, M k = none) (hlow : bx < w.heap.size) :
    Calls Try.prog 51 #[.pointer (some ⟨gt, 0, none⟩)] w fun e w' => ∃ h', e = .returned (.tuple #[]) ∧ TreeOn bx w' gt h' n M ∧ Fit h' M ∧ w.grownBy w' (some gt) := by
  have c0 : w.cell? ⟨gt, 0, none⟩ = some (.pointer none) := by rw [cell_of_row _ _ 0 _ 72 (0, 0) hb]; rfl
  have c1 : w.cell? ⟨gt, 1, none⟩ = some (.int .i64 (h : Int)) := by rw [cell_of_row _ _ 1 _ 72 (0, 0) hb]; rfl
  have f1 : w.frozen? ⟨gt, 1, none⟩ = false := by unfold World.frozen?; simp only [hb]; simp
  have hb2 := tree_box (x := .int .i64 0) 1 hb
  have HT : Hid (TreeOn bx (w.setCell ⟨gt, 1, none⟩ (.int .i64 0)) gt 0 n M) := ⟨⟨none, by rw [hb2]; rfl, fun _ => ⟨rfl, hM 0⟩, fun l hl => by omega⟩, fun k _ => hM k, by omega, by simpa using hlow⟩
  have HB : Hid _ := hb2
  have HM : Hid _ := hM
  clear hb hM hb2
  go_enter Try.func51, Try.ntmps51
  go_wp2_with fail
  go_loopw [] (fun wr => wr = w.setCell ⟨gt, 1, none⟩ (.int .i64 0)) (fun _ => 0)
  case atStart => rfl
  case round =>
    subst hrel
    have d1 : (w.setCell ⟨gt, 1, none⟩ (.int .i64 0)).cell? ⟨gt, 1, none⟩ = some (.int .i64 0) := by rw [cell_of_row _ _ 1 _ 72 (0, 0) HB.out]; rfl
    go_wp2_with fail
    go_end0
    exact ⟨0, rfl, HT.out, ⟨fun _ => HM.out, fun q => by omega⟩, grown_setC _ _ _ _⟩
/-- A tree whose top is taken off. -/
theorem TreeOn.lower {w w1 : World} {gt l g1 : Nat} {n : Int} {M : Mp} {top : Value} (hb : w1.heap[gt]? = some (.cells #[top, .int .i64 ((l + 2 : Nat) : Int), .int .i64 n] 72 (0, 0))) (hn : NodeOn (seenH w1 (Eg gt bx)) l (some g1) M) (hout : ∀ k, spn (l + 1) ≤ k → M k = none) (h5 : l + 1 ≤ 5) (hlow : bx < w1.heap.size) :
    TreeOn bx ((w1.setCell ⟨gt, 0, none⟩ (.pointer (some ⟨g1, 0, none⟩))).setCell ⟨gt, 1, none⟩ (.int .i64 ((l : Int) + 1))) gt (l + 1) n M := by
  have hb1 := tree_box (x := .pointer (some ⟨g1, 0, none⟩)) 0 hb
  have hb2 := tree_box (x := .int .i64 ((l : Int) + 1)) 1 hb1
  refine ⟨⟨some g1, by rw [hb2]; rfl, fun q => by omega, fun l' hl => ?_⟩, hout, h5, by simpa using hlow⟩
  obtain rfl : l' = l := by omega
  exact hn.mono (shows_grown (World.grownBy.trans (grown_setC _ _ _ _) (grown_setC _ _ _ _)))
set_option maxHeartbeats 4000000 in
set_option maxRecDepth 100000 in
theorem shrink_some (gt h g : Nat) (n : Int) (M : Mp) (w : World) (hT : TreeOn bx w gt h n M) (hb : w.heap[gt]? = some (.cells #[.pointer (some ⟨g, 0, none⟩), .int .i64 (h : Int), .int .i64 n] 72 (0, 0))) :
    Calls Try.prog 51 #[.pointer (some ⟨gt, 0, none⟩)] w fun e w' => ∃ h', e = .returned (.tuple #[]) ∧ TreeOn bx w' gt h' n M ∧ Fit h' M ∧ w.grownBy w' (some gt) := by
  have c0 : w.cell? ⟨gt, 0, none⟩ = some (.pointer (some ⟨g, 0, none⟩)) := by rw [cell_of_row _ _ 0 _ 72 (0, 0) hb]; rfl
  have HT : Hid _ := hT
  have HB : Hid _ := hb
  clear hT hb
  go_enter Try.func51, Try.ntmps51
  go_wp2_with fail
  clear c0
  go_loopw [] (fun wr => ∃ h' g', Hid (TreeOn bx wr gt h' n M) ∧ Hid (wr.heap[gt]? = some (.cells #[.pointer (some ⟨g', 0, none⟩), .int .i64 (h' : Int), .int .i64 n] 72 (0, 0))) ∧ Hid (w.grownBy wr (some gt))) (fun wr => highOf gt wr)
  case atStart => exact ⟨h, g, HT, HB, World.grownBy.refl _ _⟩
  case round =>
    obtain ⟨h', g', HT', HB', HG⟩ := hrel
    have hb := HB'.out
    have h5 := HT'.out.h5
    have hgt := lt_of_block hb
    have c0 : wr.cell? ⟨gt, 0, none⟩ = some (.pointer (some ⟨g', 0, none⟩)) := by rw [cell_of_row _ _ 0 _ 72 (0, 0) hb]; rfl
    have c1 : wr.cell? ⟨gt, 1, none⟩ = some (.int .i64 (h' : Int)) := by rw [cell_of_row _ _ 1 _ 72 (0, 0) hb]; rfl
    have hpos : 0 < h' ∧ NodeOn (seenH wr (Eg gt bx)) (h' - 1) (some g') M := by
      obtain ⟨top, hb2, h0, hN⟩ := HT'.out.blk
      rw [hb] at hb2
      injection hb2 with hb2
      injection hb2 with hb2
      have ht : top = some g' := by
        cases top with
        | none => simp [ptr] at hb2
        | some g2 => simp [ptr] at hb2; rw [hb2]
      subst ht
      cases h' with
      | zero => cases (h0 rfl).1
      | succ l => exact ⟨by omega, hN l rfl⟩
    obtain ⟨hp, hn⟩ := hpos
    obtain ⟨l, rfl⟩ : ∃ l, h' = l + 1 := ⟨h' - 1, by omega⟩
    rw [Nat.add_sub_cancel] at hn
    cases l with
    | zero =>
      have HF : Hid (Fit 1 M) := by
        refine ⟨fun q => by omega, fun _ => ?_⟩
        have hv := hn.full
        have : ∃ j, j < spn 1 ∧ M j ≠ none := Classical.byContradiction fun hc => hv (fun j hj => Classical.byContradiction fun h3 => hc ⟨j, hj, h3⟩)
        obtain ⟨j, _, hj⟩ := this
        exact ⟨j, some_of hj, Or.inl rfl⟩
      clear hb hn c0
      go_wp2_with fail
      go_end0
      exact ⟨1, rfl, HT'.out, HF.out, HG.out⟩
    | succ l =>
      obtain ⟨row, b0, r1, r2, r3, r4, r5⟩ := top_row hn HT'.out.out
      have r2' := (seen_block r2).2
      have hg' := lt_of_block r2'
      have HLE : Hid _ := leads_any g' row wr r1 r2'
      have d1 : (1 : Int) < ((l + 1 + 1 : Nat) : Int) := by omega
      by_cases ha : row = alone row
      · obtain ⟨⟨g1, hg1⟩, q2, q3⟩ := r4 ha
        subst hg1
        have hda : decide (row = alone row) = true := decide_eq_true ha
        have HDA : Hid _ := hda
        have hm0 : highOf gt wr = l + 2 := by unfold highOf; rw [c1]; simp [intOf]; omega
        have HM0 : Hid _ := hm0
        have HW : Hid (∀ u, Below wr.heap.size wr u → u.cell? ⟨gt, 0, none⟩ = some (.pointer (some ⟨g', 0, none⟩)) ∧ u.cell? ⟨gt, 1, none⟩ = some (.int .i64 ((l + 1 + 1 : Nat) : Int)) ∧ u.cell? ⟨g', 0, none⟩ = some (.pointer (some ⟨g1, 0, none⟩)) ∧ u.frozen? ⟨gt, 0, none⟩ = false ∧ u.frozen? ⟨gt, 1, none⟩ = false ∧
            TreeOn bx ((u.setCell ⟨gt, 0, none⟩ (.pointer (some ⟨g1, 0, none⟩))).setCell ⟨gt, 1, none⟩ (.int .i64 ((l : Int) + 1))) gt (l + 1) n M ∧ ((u.setCell ⟨gt, 0, none⟩ (.pointer (some ⟨g1, 0, none⟩))).setCell ⟨gt, 1, none⟩ (.int .i64 ((l : Int) + 1))).heap[gt]? = some (.cells #[.pointer (some ⟨g1, 0, none⟩), .int .i64 ((l + 1 : Nat) : Int), .int .i64 n] 72 (0, 0)) ∧
            w.grownBy ((u.setCell ⟨gt, 0, none⟩ (.pointer (some ⟨g1, 0, none⟩))).setCell ⟨gt, 1, none⟩ (.int .i64 ((l : Int) + 1))) (some gt) ∧ highOf gt ((u.setCell ⟨gt, 0, none⟩ (.pointer (some ⟨g1, 0, none⟩))).setCell ⟨gt, 1, none⟩ (.int .i64 ((l : Int) + 1))) = l + 1) := fun u hu => by
          have hbu := (hu.block gt hgt).trans hb
          have hgu := (hu.block g' hg').trans r2'
          have hb1 := tree_box (x := .pointer (some ⟨g1, 0, none⟩)) 0 hbu
          have hb2 := tree_box (x := .int .i64 ((l : Int) + 1)) 1 hb1
          refine ⟨by rw [cell_of_row _ _ 0 _ 72 (0, 0) hbu]; rfl, by rw [cell_of_row _ _ 1 _ 72 (0, 0) hbu]; rfl, ?_, by unfold World.frozen?; simp only [hbu]; simp, by unfold World.frozen?; simp only [hbu]; simp, ?_, by rw [hb2]; rfl, ?_, ?_⟩
          · rw [cell_of_row _ _ 0 _ 96 (0, 0) hgu, u96_get _ _ (by omega), r3]; rfl
          · exact TreeOn.lower (w := wr) hbu (q2.mono (shows_below (E := Eg gt bx) (E' := Eg gt bx) hu (fun _ _ q => q))) q3 (by omega) (Nat.lt_of_lt_of_le HT'.out.low hu.size)
          · exact World.grownBy.trans (World.grownBy.trans HG.out (grown_mono hu _)) (World.grownBy.trans (grown_setC _ _ _ _) (grown_setC _ _ _ _))
          · unfold highOf
            rw [cell_of_row _ _ 1 _ 72 (0, 0) hb2]
            simp [intOf]
        clear hb hn r1 r2 r2' r3 r4 r5 ha hda q2 q3 hm0
        go_wp2_with (first
          | (go_at_call 61; refine Calls.mono HLE.out ?_; rintro e u ⟨rfl, hu⟩; rw [HDA.out]; obtain ⟨k1, k2, k3, k4, k5, k6, k7, k8, k9⟩ := HW.out u hu; have K6 : Hid _ := k6; have K7 : Hid _ := k7; have K8 : Hid _ := k8; have K9 : Hid _ := k9; clear k6 k7 k8 k9 hu c0 c1))
        go_roundw
        all_goals first | exact ⟨l + 1, g1, K6, K7, K8⟩ | (rw [HM0.out, K9.out]; omega)
      · obtain ⟨k, hk1, hk2⟩ := r5 ha
        have hda : decide (row = alone row) = false := decide_eq_false ha
        have HDA : Hid _ := hda
        have HF : Hid (Fit (l + 1 + 1) M) := ⟨fun q => by omega, fun _ => ⟨k, hk1, Or.inr hk2⟩⟩
        have HW : Hid (∀ u, Below wr.heap.size wr u → TreeOn bx u gt (l + 1 + 1) n M ∧ w.grownBy u (some gt)) := fun u hu => by
          obtain ⟨top, hb2, h0, hN⟩ := HT'.out.blk
          exact ⟨⟨⟨top, (hu.block gt hgt).trans hb2, h0, fun l' hl => (hN l' hl).mono (shows_below (E := Eg gt bx) (E' := Eg gt bx) hu (fun _ _ q => q))⟩, HT'.out.out, h5, Nat.lt_of_lt_of_le HT'.out.low hu.size⟩, World.grownBy.trans HG.out (grown_mono hu _)⟩
        clear hb hn r1 r2 r2' r3 r4 r5 ha hda
        go_wp2_with (first
          | (go_at_call 61; refine Calls.mono HLE.out ?_; rintro e u ⟨rfl, hu⟩; rw [HDA.out]; have HU : Hid _ := hu; clear hu))
        go_end0
        exact ⟨l + 1 + 1, rfl, (HW.out _ HU.out).1, HF.out, (HW.out _ HU.out).2⟩
theorem shrink_any (gt h : Nat) (n : Int) (M : Mp) (w : World) (hT : TreeOn bx w gt h n M) :
    Calls Try.prog 51 #[.pointer (some ⟨gt, 0, none⟩)] w fun e w' => ∃ h', e = .returned (.tuple #[]) ∧ TreeOn bx w' gt h' n M ∧ Fit h' M ∧ w.grownBy w' (some gt) := by
  obtain ⟨top, hb, h0, hN⟩ := hT.blk
  cases top with
  | none => exact shrink_none gt h n M w hb (hT.bare (P := undef) hb) hT.low
  | some g => exact shrink_some gt h g n M w hT hb
end Go.Proofs.Ytjginocbbnmgaaa
