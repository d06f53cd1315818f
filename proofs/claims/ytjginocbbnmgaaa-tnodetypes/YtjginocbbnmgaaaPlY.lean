/-
  SEAT Ytjginocbbnmgaaa: PlY, of several texts.
-/
import Derived.Test.YtjginocbbnmgaaaPlX
namespace Go.Proofs.Ytjginocbbnmgaaa.Plc
open Go.RowKit
set_option linter.unusedVariables false

/-- A tree's box and its nodes: its height h (its top may still be nil), n: the number that it keeps. -/
structure TreeOn (w : World) (gt h : Nat) (n : Int) (M : Mp) : Prop where
  blk : ∃ top, w.heap[gt]? = some (.cells #[ptr top, .int .i64 (h : Int), .int .i64 n] 79 (0, 0)) ∧ (h = 0 → top = none ∧ M 0 = none) ∧ ∀ l, h = l + 1 → NodeOn (seenH w (fun i => i = gt)) l top M
  out : ∀ k, spn h ≤ k → M k = none
  h5 : h ≤ 5
/-- What lies at any number. -/
def at1 (M : Mp) (k : Int) : Option (Int × Int) := if 0 ≤ k then M k.toNat else none
theorem TreeOn.void {w : World} {gt : Nat} {n : Int} {M : Mp} (h : TreeOn w gt 0 n M) : ∀ k, M k = none := fun k => by
  obtain ⟨_, _, h0, _⟩ := h.blk
  cases k with
  | zero => exact (h0 rfl).2
  | succ k => exact h.out _ (by unfold spn; omega)
set_option maxRecDepth 100000 in
theorem seek_zero (gt : Nat) (w : World) (c0 : w.cell? ⟨gt, 0, none⟩ = some (.pointer none)) (c1 : w.cell? ⟨gt, 1, none⟩ = some (.int .i64 0)) :
    Calls Try.prog 39 #[.pointer (some ⟨gt, 0, none⟩), .int .i64 0] w fun e w' => e = .returned (.pointer none) ∧ w' = w := by
  go_enter Try.func39, Try.ntmps39
  go_wp2_with (first
    | (go_at_call 54; refine (span_any 0 _ (by omega)).mono ?_; rintro e u ⟨rfl, rfl⟩; rw [show spn 0 = 1 from rfl]))
  go_loopw [5, 6] (fun s5 s6 wr => s5 = .pointer none ∧ s6 = .int .i64 (-1) ∧ wr = w)
    (fun _ _ _ => 0)
  case atStart => exact ⟨rfl, rfl, rfl⟩
  case round =>
    obtain ⟨rfl, rfl, rfl⟩ := hrel
    go_wp2
    go_ret
    exact ⟨rfl, rfl⟩
set_option maxHeartbeats 1000000 in
set_option maxRecDepth 100000 in
theorem seek_low (gt h : Nat) (k : Int) (T : Value) (n : Int) (w : World) (c1 : w.cell? ⟨gt, 1, none⟩ = some (.int .i64 (h : Int))) (h5 : h ≤ 5) (hk : k < 0 ∨ (spn h : Int) ≤ k) :
    Calls Try.prog 39 #[.pointer (some ⟨gt, 0, none⟩), .int .i64 k] w fun e w' => e = .returned (.pointer none) ∧ w' = w := by
  obtain ⟨SP, hSP⟩ : ∃ SP, spn h = SP := ⟨_, rfl⟩
  rw [hSP] at hk
  have HSP : Hid _ := hSP
  clear hSP
  by_cases h0 : k < 0
  · clear hk
    go_enter Try.func39, Try.ntmps39
    go_wp2
    go_ret
    exact ⟨rfl, rfl⟩
  · have h1 : (SP : Int) ≤ k := by omega
    clear hk
    go_enter Try.func39, Try.ntmps39
    go_wp2_with (first
      | (go_at_call 54; refine (span_any h _ h5).mono ?_; rintro e u ⟨rfl, rfl⟩; rw [HSP.out]))
    go_ret
    exact ⟨rfl, rfl⟩
theorem seek_any (gt h : Nat) (k n : Int) (M : Mp) (w : World) (hT : TreeOn w gt h n M) :
    Calls Try.prog 39 #[.pointer (some ⟨gt, 0, none⟩), .int .i64 k] w fun e w' => ∃ t, e = .returned (ptr t) ∧ ThingOn (seenH w (fun i => i = gt)) t (at1 M k) ∧ ∃ q, w' = w.drewN q := by
  obtain ⟨top, hb, h0, hN⟩ := hT.blk
  have c1 : w.cell? ⟨gt, 1, none⟩ = some (.int .i64 (h : Int)) := by rw [cell_of_row _ _ 1 _ 79 (0, 0) hb]; rfl
  by_cases hk : k < 0 ∨ (spn h : Int) ≤ k
  · refine (seek_low gt h k (ptr top) n w c1 hT.h5 hk).mono ?_
    rintro e w' ⟨rfl, rfl⟩
    refine ⟨none, rfl, ?_, 0, rfl⟩
    have : at1 M k = none := by
      unfold at1
      split
      · exact hT.out _ (by omega)
      · rfl
    rw [this]
    trivial
  · obtain ⟨j, rfl⟩ := Int.eq_ofNat_of_zero_le (show 0 ≤ k by omega)
    have hj : j < spn h := by omega
    have ha : at1 M (j : Int) = M j := by unfold at1; rw [if_pos (by omega), Int.toNat_natCast]
    rw [ha]
    cases h with
    | zero =>
      have : j = 0 := by unfold spn at hj; omega
      subst this
      obtain ⟨rfl, hM⟩ := h0 rfl
      refine (seek_zero gt w (by rw [cell_of_row _ _ 0 _ 79 (0, 0) hb]; rfl) c1).mono ?_
      rintro e w' ⟨rfl, rfl⟩
      exact ⟨none, rfl, by rw [hM]; trivial, 0, rfl⟩
    | succ l => exact seek_in gt (l + 1) j top n M w hb l rfl hT.h5 hj (hN l rfl)
theorem thing_some {H : Nat → Option Obj} {t : Option Nat} {x : Int × Int} (h : ThingOn H t (some x)) : ∃ g, t = some g ∧ H g = some (.cells #[.int .i64 x.1, .int .i64 x.2] 47 (0, 0)) := by
  cases t with
  | none => cases h
  | some g => exact ⟨g, rfl, h⟩
/-- What Get tells. -/
def got : Option (Int × Int) → Value
  | none => .tuple #[.agg #[.int .i64 0, .int .i64 0], .bool false]
  | some x => .tuple #[.agg #[.int .i64 x.1, .int .i64 x.2], .bool true]
theorem len_any (gt h : Nat) (n : Int) (M : Mp) (w : World) (hT : TreeOn w gt h n M) : Calls Try.prog 28 #[.pointer (some ⟨gt, 0, none⟩)] w fun e w' => e = .returned (.int .i64 n) ∧ w' = w := by
  obtain ⟨top, hb, _, _⟩ := hT.blk
  have c2 : w.cell? ⟨gt, 2, none⟩ = some (.int .i64 n) := by rw [cell_of_row _ _ 2 _ 79 (0, 0) hb]; rfl
  clear hb hT
  go_enter Try.func28, Try.ntmps28
  go_wp2
  go_ret
  exact ⟨rfl, rfl⟩
theorem height_any (gt h : Nat) (n : Int) (M : Mp) (w : World) (hT : TreeOn w gt h n M) : Calls Try.prog 30 #[.pointer (some ⟨gt, 0, none⟩)] w fun e w' => e = .returned (.int .i64 (h : Int)) ∧ w' = w := by
  obtain ⟨top, hb, _, _⟩ := hT.blk
  have c1 : w.cell? ⟨gt, 1, none⟩ = some (.int .i64 (h : Int)) := by rw [cell_of_row _ _ 1 _ 79 (0, 0) hb]; rfl
  clear hb hT
  go_enter Try.func30, Try.ntmps30
  go_wp2
  go_ret
  exact ⟨rfl, rfl⟩
theorem newt_any (w : World) : Calls Try.prog 21 #[] w fun e w' => e = .returned (.pointer (some ⟨w.heap.size, 0, none⟩)) ∧ TreeOn w' w.heap.size 0 0 (fun _ => none) ∧ Below w.heap.size w w' := by
  have hT : TreeOn (w.alloc (.cells #[.pointer none, .int .i64 0, .int .i64 0] 79)) w.heap.size 0 0 (fun _ => none) := ⟨⟨none, heap_alloc_last w _, fun _ => ⟨rfl, rfl⟩, fun l hl => by omega⟩, fun _ _ => rfl, by omega⟩
  have HT : Hid _ := hT
  clear hT
  go_enter Try.func21, Try.ntmps21
  go_wp2
  go_ret
  exact ⟨rfl, HT.out, (Below.refl _ _).alloc (Nat.le_refl _) _⟩
theorem firsts_eq {M : Mp} {s : Nat} (h : ∀ k, s ≤ k → M k = none) : firsts M s = M := by
  funext k
  unfold firsts
  split
  · rfl
  · exact (h k (by omega)).symm
/-- A tree's box after it is written anew. -/
theorem tree_box {w : World} {gt : Nat} {p q r : Value} {x : Value} (j : Nat) (hb : w.heap[gt]? = some (.cells #[p, q, r] 79 (0, 0))) : (w.setCell ⟨gt, j, none⟩ x).heap[gt]? = some (.cells (#[p, q, r].setIfInBounds j x) 79 (0, 0)) := heap_setCell_same w gt j _ 79 x hb
/-- One level more on top of a node, or of nothing. -/
theorem TreeOn.higher {w : World} {gt h : Nat} {n : Int} {M : Mp} (hT : TreeOn w gt h n M) (h4 : h ≤ 4) (top' : Option Nat) (w' : World) (hb : w'.heap[gt]? = some (.cells #[ptr top', .int .i64 ((h + 1 : Nat) : Int), .int .i64 n] 79 (0, 0))) (hn : NodeOn (seenH w' (fun i => i = gt)) h top' M) : TreeOn w' gt (h + 1) n M :=
  ⟨⟨top', hb, (fun q => by omega), fun l hl => by obtain rfl : l = h := (by omega); exact hn⟩, fun k hk => hT.out k (Nat.le_trans (spn_le (by omega)) hk), by omega⟩
theorem TreeOn.bare {w : World} {gt h : Nat} {n : Int} {M : Mp} (hT : TreeOn w gt h n M) {P : Value} (hb : w.heap[gt]? = some (.cells #[.pointer none, .int .i64 (h : Int), .int .i64 n] 79 (0, 0))) : ∀ k, M k = none := fun k => by
  obtain ⟨top, hb2, h0, hN⟩ := hT.blk
  rw [hb] at hb2
  injection hb2 with hb2
  injection hb2 with hb2
  have ht : top = none := by
    cases top with
    | none => rfl
    | some g => simp [ptr] at hb2
  subst ht
  by_cases hk : spn h ≤ k
  · exact hT.out k hk
  · cases h with
    | zero => exact hT.void k
    | succ l => exact (NodeOn.isVoid (hN l rfl)) k (by omega)
/-- How high a tree is, off its box. -/
def highOf (gt : Nat) (w : World) : Nat := (intOf ((w.cell? ⟨gt, 1, none⟩).getD undef)).toNat
set_option maxHeartbeats 2000000 in
set_option maxRecDepth 100000 in
theorem grow_any (gt h k : Nat) (n : Int) (M : Mp) (w : World) (hT : TreeOn w gt h n M) (hk : k < 1048576) :
    Calls Try.prog 40 #[.pointer (some ⟨gt, 0, none⟩), .int .i64 (k : Int)] w fun e w' => ∃ h', e = .returned (.tuple #[]) ∧ TreeOn w' gt h' n M ∧ h ≤ h' ∧ 0 < h' ∧ k < spn h' ∧ (h' = h ∨ h' = 1 ∨ spn (h' - 1) ≤ k) ∧ w.grownBy w' (some gt) := by
  have HT : Hid (TreeOn w gt h n M) := hT
  clear hT
  go_enter Try.func40, Try.ntmps40
  go_wp2_with fail
  go_loopw [] (fun wr => ∃ h', Hid (TreeOn wr gt h' n M) ∧ h ≤ h' ∧ Hid (h' = h ∨ h' = 1 ∨ spn (h' - 1) ≤ k) ∧ Hid (w.grownBy wr (some gt)))
    (fun wr => 6 - highOf gt wr)
  case atStart => exact ⟨h, HT, Nat.le_refl _, Or.inl rfl, World.grownBy.refl _ _⟩
  case round =>
    obtain ⟨h', HT', hle, HW, HG⟩ := hrel
    obtain ⟨top, hb, h0, hN⟩ := HT'.out.blk
    have h5 := HT'.out.h5
    have c0 : wr.cell? ⟨gt, 0, none⟩ = some (ptr top) := by rw [cell_of_row _ _ 0 _ 79 (0, 0) hb]; rfl
    have c1 : wr.cell? ⟨gt, 1, none⟩ = some (.int .i64 (h' : Int)) := by rw [cell_of_row _ _ 1 _ 79 (0, 0) hb]; rfl
    have f0 : wr.frozen? ⟨gt, 0, none⟩ = false := by unfold World.frozen?; simp only [hb]; simp
    have f1 : wr.frozen? ⟨gt, 1, none⟩ = false := by unfold World.frozen?; simp only [hb]; simp
    obtain ⟨SP, hSP⟩ : ∃ SP, spn h' = SP := ⟨_, rfl⟩
    have HSP : Hid _ := hSP
    clear hSP
    by_cases hd : 0 < h' ∧ k < SP
    · have d1 : ((h' : Int) == 0) = false := by simp; omega
      have d2 : ¬ ((SP : Int) ≤ (k : Int)) := by omega
      obtain ⟨hd1, hd2⟩ := hd
      clear c0 hb h0 hN
      go_wp2_with (first | (go_at_call 54; refine (span_any h' _ h5).mono ?_; rintro e u ⟨rfl, rfl⟩; rw [HSP.out]))
      go_end0
      exact ⟨h', rfl, HT'.out, hle, hd1, by rw [HSP.out]; exact hd2, HW.out, HG.out⟩
    · have h4 : h' ≤ 4 := by
        by_cases e : h' = 5
        · subst e
          have := HSP.out
          rw [show spn 5 = 1048576 from rfl] at this
          omega
        · omega
      have HNW : Hid (h' + 1 = h ∨ h' + 1 = 1 ∨ spn (h' + 1 - 1) ≤ k) := by
        unfold Hid
        have := HSP.out
        by_cases e : h' = 0
        · exact Or.inr (Or.inl (by omega))
        · refine Or.inr (Or.inr ?_)
          rw [Nat.add_sub_cancel, this]
          omega
      have hcond : ((h' : Int) == 0) = true ∨ ((h' : Int) == 0) = false ∧ (SP : Int) ≤ (k : Int) := by
        by_cases e : h' = 0
        · exact Or.inl (by simp [e])
        · exact Or.inr ⟨by simp [e], by omega⟩
      cases top with
      | none =>
        have hall := HT'.out.bare (P := undef) hb
        have hn1 := TreeOn.higher HT'.out h4 none (wr.setCell ⟨gt, 1, none⟩ (.int .i64 ((h' : Int) + 1))) (by rw [tree_box 1 hb, Int.natCast_add]; rfl) (NodeOn.void (fun k _ => hall k))
        have HN1 : Hid _ := hn1
        have HG1 : Hid (w.grownBy (wr.setCell ⟨gt, 1, none⟩ (.int .i64 ((h' : Int) + 1))) (some gt)) := World.grownBy.trans HG.out (grown_setC _ _ _ _)
        have hm1 : highOf gt (wr.setCell ⟨gt, 1, none⟩ (.int .i64 ((h' : Int) + 1))) = h' + 1 := by
          unfold highOf
          rw [cell_of_row _ _ 1 _ 79 (0, 0) (tree_box 1 hb)]
          simp [intOf]
        have hm0 : highOf gt wr = h' := by unfold highOf; rw [c1]; simp [intOf]
        have HM : Hid _ := And.intro hm0 hm1
        simp only [ptr] at c0
        clear hb h0 hN hall hn1 hm1 hm0
        rcases hcond with q | ⟨q, q2⟩
        all_goals
          go_wp2_with (first | (go_at_call 54; refine (span_any h' _ h5).mono ?_; rintro e u ⟨rfl, rfl⟩; rw [HSP.out]))
        all_goals go_roundw
        all_goals first | exact ⟨h' + 1, HN1, by omega, HNW, HG1⟩ | (rw [HM.out.1, HM.out.2]; omega)
      | some g =>
        obtain ⟨l, rfl⟩ : ∃ l, h' = l + 1 := by
          cases h' with
          | zero => cases (h0 rfl).1
          | succ l => exact ⟨l, rfl⟩
        have hNg := hN l rfl
        have hnv : ¬ Void M (spn (l + 1)) := by
          cases l with
          | zero => obtain ⟨_, _, _, _, q⟩ := hNg; exact q
          | succ l => obtain ⟨_, _, _, _, q⟩ := hNg; exact q
        have hgt := lt_of_block hb
        have HAB : Hid (Calls Try.prog 57 _ _ _) := above_any l g M wr (fun i => i = gt) (fun i q => by omega) hNg hnv
        have HFE : Hid (firsts M (spn (l + 1)) = M) := firsts_eq HT'.out.out
        have HFN : Hid (∀ u g', Below wr.heap.size wr u → NodeOn (seenH u (fun i => i = gt)) (l + 1) (some g') M → TreeOn ((u.setCell ⟨gt, 0, none⟩ (.pointer (some ⟨g', 0, none⟩))).setCell ⟨gt, 1, none⟩ (.int .i64 ((l : Int) + 1 + 1))) gt (l + 1 + 1) n M ∧ w.grownBy ((u.setCell ⟨gt, 0, none⟩ (.pointer (some ⟨g', 0, none⟩))).setCell ⟨gt, 1, none⟩ (.int .i64 ((l : Int) + 1 + 1))) (some gt) ∧ highOf gt ((u.setCell ⟨gt, 0, none⟩ (.pointer (some ⟨g', 0, none⟩))).setCell ⟨gt, 1, none⟩ (.int .i64 ((l : Int) + 1 + 1))) = l + 1 + 1 ∧ u.cell? ⟨gt, 0, none⟩ = some (.pointer (some ⟨g, 0, none⟩)) ∧ u.cell? ⟨gt, 1, none⟩ = some (.int .i64 ((l + 1 : Nat) : Int)) ∧ u.frozen? ⟨gt, 0, none⟩ = false ∧ u.frozen? ⟨gt, 1, none⟩ = false) := fun u g' hu hn => by
          have hbu := (hu.block gt hgt).trans hb
          have hb1 := tree_box (x := .pointer (some ⟨g', 0, none⟩)) 0 hbu
          have hb2 := tree_box (x := .int .i64 ((l : Int) + 1 + 1)) 1 hb1
          have hgr := World.grownBy.trans (grown_setC u gt 0 (.pointer (some ⟨g', 0, none⟩))) (grown_setC _ gt 1 (.int .i64 ((l : Int) + 1 + 1)))
          refine ⟨TreeOn.higher HT'.out h4 (some g') _ (by rw [hb2, show ((l + 1 + 1 : Nat) : Int) = (l : Int) + 1 + 1 by omega]; rfl) (hn.mono (shows_grown hgr)), World.grownBy.trans (World.grownBy.trans HG.out (grown_mono hu _)) hgr, ?_, by rw [cell_of_row _ _ 0 _ 79 (0, 0) hbu]; rfl, by rw [cell_of_row _ _ 1 _ 79 (0, 0) hbu]; rfl, by unfold World.frozen?; simp only [hbu]; simp, by unfold World.frozen?; simp only [hbu]; simp⟩
          unfold highOf
          rw [cell_of_row _ _ 1 _ 79 (0, 0) hb2]
          simp [intOf]
          omega
        have hm0 : highOf gt wr = l + 1 := by unfold highOf; rw [c1]; simp [intOf]
        have HM : Hid _ := hm0
        simp only [ptr] at c0
        clear hb h0 hN hNg hnv hm0
        rcases hcond with q | ⟨q, q2⟩
        all_goals
          go_wp2_with (first | (go_at_call 54; refine (span_any (l + 1) _ h5).mono ?_; rintro e u ⟨rfl, rfl⟩; rw [HSP.out]) | (go_at_call 57; refine Calls.mono HAB.out ?_; rintro e u ⟨g', rfl, n1, q1⟩; rw [HFE.out] at n1; obtain ⟨k1, k2, k3, k4, k5, k6, k7⟩ := HFN.out u g' q1 n1; have K1 : Hid _ := k1; have K2 : Hid _ := k2; have K3 : Hid _ := k3; clear k1 k2 k3 n1 q1))
        all_goals go_roundw
        all_goals first | exact ⟨l + 1 + 1, K1, by omega, HNW, K2⟩ | (rw [HM.out, K3.out]; omega)
theorem TreeOn.size {w : World} {gt h : Nat} {n n' : Int} {M : Mp} (hT : TreeOn w gt h n M) : TreeOn (w.setCell ⟨gt, 2, none⟩ (.int .i64 n')) gt h n' M := by
  obtain ⟨top, hb, h0, hN⟩ := hT.blk
  exact ⟨⟨top, by rw [tree_box 2 hb]; rfl, h0, fun l hl => (hN l hl).mono (shows_grown (grown_setC _ _ _ _))⟩, hT.out, hT.h5⟩
theorem TreeOn.drewN {w : World} {gt h : Nat} {n : Int} {M : Mp} (hT : TreeOn w gt h n M) (q : Nat) : TreeOn (w.drewN q) gt h n M := ⟨hT.blk, hT.out, hT.h5⟩
set_option maxHeartbeats 1000000 in
set_option maxRecDepth 100000 in
/-- The last step of Put: the new top. -/
theorem puts_tail (gt h k : Nat) (v : Int × Int) (n : Int) (M : Mp) (w : World) (l : Nat) (hh : h = l + 1) (hT : TreeOn w gt h n M) (hk : k < spn h) (hk5 : k < 1048576) : ∃ top, w.cell? ⟨gt, 0, none⟩ = some (ptr top) ∧ w.cell? ⟨gt, 1, none⟩ = some (.int .i64 ((l : Int) + 1)) ∧ w.frozen? ⟨gt, 0, none⟩ = false ∧
    Calls Try.prog 41 #[ptr top, .int .i64 (l : Int), .int .i64 (k : Int), .agg #[.int .i64 v.1, .int .i64 v.2]] w.drew fun e w1 => ∃ g, e = .returned (.pointer (some ⟨g, 0, none⟩)) ∧ Below w.heap.size w w1 ∧ TreeOn (w1.setCell ⟨gt, 0, none⟩ (.pointer (some ⟨g, 0, none⟩))) gt h n (upd M k v) ∧ w1.cell? ⟨gt, 1, none⟩ = some (.int .i64 ((l : Int) + 1)) ∧ w1.frozen? ⟨gt, 0, none⟩ = false ∧ ∃ y, w1.cell? ⟨gt, 0, none⟩ = some y := by
  obtain ⟨top, hb, h0, hN⟩ := hT.blk
  have h5 := hT.h5
  subst hh
  have hkk : k % spn (l + 1) = k := Nat.mod_eq_of_lt hk
  have hgt := lt_of_block hb
  refine ⟨top, by rw [cell_of_row _ _ 0 _ 79 (0, 0) hb]; rfl, by rw [cell_of_row _ _ 1 _ 79 (0, 0) hb, Int.natCast_add]; rfl, by unfold World.frozen?; simp only [hb]; simp, ?_⟩
  refine (with_any l k v top M w.drew (fun i => i = gt) (by omega) hk5 (fun i q => by show i < w.heap.size; omega) (hN l rfl)).mono ?_
  rintro e w1 ⟨g, rfl, n1, q1⟩
  have q1' : Below w.heap.size w w1 := (Below.refl _ _).drew.trans q1
  have hb1 := (q1'.block gt hgt).trans hb
  have hb2 := tree_box (x := .pointer (some ⟨g, 0, none⟩)) 0 hb1
  rw [hkk] at n1
  refine ⟨g, rfl, q1', ⟨⟨some g, by rw [hb2]; rfl, (fun q => by omega), fun l' hl => ?_⟩, fun j hj => ?_, h5⟩, by rw [cell_of_row _ _ 1 _ 79 (0, 0) hb1, Int.natCast_add]; rfl, by unfold World.frozen?; simp only [hb1]; simp, _, by rw [cell_of_row _ _ 0 _ 79 (0, 0) hb1]; rfl⟩
  · obtain rfl : l' = l := by omega
    exact n1.mono (shows_grown (grown_setC _ _ _ _))
  · unfold upd
    rw [if_neg (by omega)]
    exact hT.out j hj
theorem res25 {W : World} {T : Nat} {tmps : Array Value} {c d q : Value} (h : W.heap[T]? = some (.cells #[c, d] 47 (0, 0))) (h4 : tmps[4]? = some (.pointer (some ⟨T, 0, none⟩))) (h5 : tmps[5]? = some q) :
    (results Try.f25 tmps).run Try.prog W = .ok (.tuple #[.agg #[c, d], q]) W := by
  have q0 : W.cell? ⟨T, 0, none⟩ = some c := by rw [cell_of_row _ _ 0 _ 47 (0, 0) h]; rfl
  have q1 : W.cell? ⟨T, 1, none⟩ = some d := by rw [cell_of_row _ _ 1 _ 47 (0, 0) h]; rfl
  simp [results, Try.results25, go_sem, q0, q1, h4, h5]
abbrev C47 (c d : Value) : Obj := .cells #[c, d] 47
theorem Plc.TreeOn.made {w : World} {gt h : Nat} {n : Int} {M : Mp} (hT : TreeOn w gt h n M) (o : Obj) : TreeOn (w.alloc o) gt h n M := by
  have hb0 : Below w.heap.size w (w.alloc o) := (Below.refl _ _).alloc (Nat.le_refl _) _
  obtain ⟨top, h1, h2, h3⟩ := hT.blk
  exact ⟨⟨top, (hb0.block gt (lt_of_block h1)).trans h1, h2, fun l hl => (h3 l hl).mono (shows_below (E := fun i => i = gt) (E' := fun i => i = gt) hb0 (fun _ _ q => q))⟩, hT.out, hT.h5⟩
/-- The result's box, written. -/
theorem box47 (w : World) (q : Nat) (a b : Value) : (((w.alloc (C47 (.int .i64 0) (.int .i64 0))).drewN q).setCell ⟨w.heap.size, 0, none⟩ a |>.setCell ⟨w.heap.size, 1, none⟩ b).heap[w.heap.size]? = some (.cells #[a, b] 47 (0, 0)) ∧
    Below w.heap.size w (((w.alloc (C47 (.int .i64 0) (.int .i64 0))).drewN q).setCell ⟨w.heap.size, 0, none⟩ a |>.setCell ⟨w.heap.size, 1, none⟩ b) := by
  have b0 : ((w.alloc (C47 (.int .i64 0) (.int .i64 0))).drewN q).heap[w.heap.size]? = some (.cells #[.int .i64 0, .int .i64 0] 47 (0, 0)) := heap_alloc_last w _
  have b1 := heap_setCell_same _ w.heap.size 0 _ 47 a b0
  have b2 := heap_setCell_same _ w.heap.size 1 _ 47 b b1
  refine ⟨b2, ?_⟩
  exact ((below_drewN ((Below.refl _ _).alloc (Nat.le_refl _) _) q).setCell (p := ⟨w.heap.size, 0, none⟩) (Nat.le_refl _) _).setCell (p := ⟨w.heap.size, 1, none⟩) (Nat.le_refl _) _
set_option maxRecDepth 100000 in
theorem get_none (gt h : Nat) (k n : Int) (M : Mp) (w : World) (hT : TreeOn w gt h n M) (hA : at1 M k = none) :
    Calls Try.prog 25 #[.pointer (some ⟨gt, 0, none⟩), .int .i64 k] w fun e w' => e = .returned (got none) ∧ Below w.heap.size w w' := by
  have HT : Hid _ := Plc.TreeOn.made hT (C47 (.int .i64 0) (.int .i64 0))
  have HA : Hid _ := hA
  clear hT hA
  go_enter Try.func25, Try.ntmps25
  go_wp2_with (first | (go_at_call 39; refine (seek_any gt h k n M _ HT.out).mono ?_; rintro e u ⟨t, rfl, ht, q, rfl⟩; rw [HA.out] at ht; obtain rfl : t = none := (by cases t with | none => rfl | some g => cases ht); simp only [ptr]; clear ht))
  obtain ⟨b2, bb⟩ := box47 w q (.int .i64 0) (.int .i64 0)
  have hb3 := (Below.refl _ (((w.alloc (C47 (.int .i64 0) (.int .i64 0))).drewN q).setCell ⟨w.heap.size, 0, none⟩ (.int .i64 0) |>.setCell ⟨w.heap.size, 1, none⟩ (.int .i64 0))).alloc (Nat.le_refl _) (C47 (.int .i64 0) (.int .i64 0))
  refine bodyPost_ret (v := got none) (res25 ((hb3.block w.heap.size (lt_of_block b2)).trans b2) rfl rfl) rfl ⟨rfl, bb.trans (hb3.mono bb.size)⟩
set_option maxRecDepth 100000 in
theorem get_some (gt h : Nat) (k n : Int) (M : Mp) (x : Int × Int) (w : World) (hT : TreeOn w gt h n M) (hA : at1 M k = some x) :
    Calls Try.prog 25 #[.pointer (some ⟨gt, 0, none⟩), .int .i64 k] w fun e w' => e = .returned (got (some x)) ∧ Below w.heap.size w w' := by
  have HT : Hid _ := Plc.TreeOn.made hT (C47 (.int .i64 0) (.int .i64 0))
  have HA : Hid _ := hA
  clear hT hA
  go_enter Try.func25, Try.ntmps25
  go_wp2_with (first
    | (refine wpList_load47 rfl (.tmp 14) rfl g _ _ rfl HG.out ?_)
    | (go_at_call 39; refine (seek_any gt h k n M _ HT.out).mono ?_; rintro e u ⟨t, rfl, ht, q, rfl⟩; rw [HA.out] at ht; obtain ⟨g, rfl, hg⟩ := thing_some ht; have HG : Hid (((w.alloc (C47 (.int .i64 0) (.int .i64 0))).drewN q).heap[g]? = some (.cells #[.int .i64 x.1, .int .i64 x.2] 47 (0, 0))) := (seen_block hg).2; simp only [ptr]; clear ht hg))
  obtain ⟨b2, bb⟩ := box47 w q (.int .i64 x.1) (.int .i64 x.2)
  refine bodyPost_ret (v := got (some x)) (res25 b2 rfl rfl) rfl ⟨rfl, bb⟩
theorem get_any (gt h : Nat) (k n : Int) (M : Mp) (w : World) (hT : TreeOn w gt h n M) :
    Calls Try.prog 25 #[.pointer (some ⟨gt, 0, none⟩), .int .i64 k] w fun e w' => e = .returned (got (at1 M k)) ∧ Below w.heap.size w w' := by
  cases hA : at1 M k with
  | none => exact get_none gt h k n M w hT hA
  | some x => exact get_some gt h k n M x w hT hA
theorem put_bad (gt : Nat) (k : Int) (v : Int × Int) (w : World) (hk : k < 0 ∨ 1048575 < k) : Calls Try.prog 23 #[.pointer (some ⟨gt, 0, none⟩), .int .i64 k, .agg #[.int .i64 v.1, .int .i64 v.2]] w fun e w' => e = .returned (.int .i64 90) ∧ Below w.heap.size w w' := by
  by_cases h0 : k < 0
  · clear hk
    go_enter Try.func23, Try.ntmps23
    go_wp2
    go_ret
    exact ⟨rfl, (Below.refl _ _).alloc (Nat.le_refl _) _⟩
  · have h1 : 1048575 < k := by omega
    clear hk
    go_enter Try.func23, Try.ntmps23
    go_wp2
    go_ret
    exact ⟨rfl, (Below.refl _ _).alloc (Nat.le_refl _) _⟩
set_option maxHeartbeats 4000000 in
set_option maxRecDepth 100000 in
theorem put_some (gt h k : Nat) (v : Int × Int) (n : Int) (M : Mp) (w : World) (hT0 : TreeOn w gt h n M) (hk : k < 1048576) (hn : 0 ≤ n ∧ n < 1099511627776) (hm : (M k).isSome = true) :
    Calls Try.prog 23 #[.pointer (some ⟨gt, 0, none⟩), .int .i64 (k : Int), .agg #[.int .i64 v.1, .int .i64 v.2]] w fun e w' => ∃ h', e = .returned (.int .i64 0) ∧ TreeOn w' gt h' (n) (upd M k v) ∧ h ≤ h' ∧ 0 < h' ∧ k < spn h' ∧ (h' = h ∨ h' = 1 ∨ spn (h' - 1) ≤ k) ∧ w.grownBy w' (some gt) := by
  have hT := Plc.TreeOn.made hT0 (.cells #[.int .i64 v.1, .int .i64 v.2] 47)
  have HT : Hid (TreeOn (w.alloc (.cells #[.int .i64 v.1, .int .i64 v.2] 47)) gt h n M) := hT
  have HM : Hid _ := hm
  obtain ⟨top0, hb0, _, _⟩ := hT.blk
  obtain ⟨top1, hb1, _, _⟩ := hT0.blk
  have HGL : Hid (gt < w.heap.size) := lt_of_block hb1
  have e1 : ¬ ((k : Int) < 0) := by omega
  have e2 : ¬ ((1048575 : Int) < (k : Int)) := by omega
  have ha : at1 M (k : Int) = M k := by unfold at1; rw [if_pos (by omega), Int.toNat_natCast]
  have HA : Hid _ := ha
  clear hT hT0 hm hb0 hb1 ha
  go_enter Try.func23, Try.ntmps23
  go_upto_region 6 with (first
    | (go_at_call 39; refine (seek_any gt h k n M _ HT.out).mono ?_; rintro e u ⟨t, rfl, ht, q, rfl⟩; rw [HA.out] at ht; obtain ⟨g0, rfl⟩ : ∃ g0, t = some g0 := (by have hm := HM.out; cases t with | none => (cases hx : M k with | none => (rw [hx] at hm; cases hm) | some x => (rw [hx] at ht; cases ht)) | some g => exact ⟨g, rfl⟩); simp only [ptr]; clear ht)
    | (go_at_call 40; refine (grow_any gt h k n M _ (HT.out.drewN q) hk).mono ?_; rintro e w2 ⟨h', rfl, T2, p1, p2, p3, p4, p5⟩))
  obtain ⟨l, rfl⟩ : ∃ l, h' = l + 1 := ⟨h' - 1, by omega⟩
  have hg5 : (w.alloc (.cells #[.int .i64 v.1, .int .i64 v.2] 47)).grownBy w2 (some gt) := World.grownBy.trans (grown_drewN _ q _) p5
  have HG : Hid (w.grownBy w2 (some gt)) := World.grownBy.trans (World.grownBy_alloc w (.cells #[.int .i64 v.1, .int .i64 v.2] 47) _) hg5
  have xb : w2.heap[w.heap.size]? = some (.cells #[.int .i64 v.1, .int .i64 v.2] 47 (0, 0)) := (hg5.block w.heap.size (by simp) (fun e => by have := HGL.out; injection e with e; omega)).trans (heap_alloc_last w _)
  have hh5 := T2.h5
  obtain ⟨top, x0, x1, x2, IH⟩ := puts_tail gt (l + 1) k v (n) M w2 l rfl T2 p3 hk
  have HIH : Hid _ := IH
  have HP : Hid _ := And.intro p1 (And.intro p3 p4)
  have HXB : Hid _ := xb
  have HW2 : Hid (w.heap.size < w2.heap.size) := lt_of_block xb
  have dl : IntKind.i64.wrap (l : Int) = (l : Int) := by rw [IntKind.wrap_i64]; omega
  obtain ⟨TP, hTP⟩ : ∃ TP, ptr top = TP := ⟨_, rfl⟩
  rw [hTP] at x0
  have HTP : Hid _ := hTP
  clear IH T2 p1 p2 p3 p4 p5 hTP HT HM HA hg5
  refine wp_region_held_drew (S := (fun x => x.cell? ⟨gt, 1, none⟩ = some (.int .i64 ((l : Int) + 1)) ∧ x.heap[w.heap.size]? = some (.cells #[.int .i64 v.1, .int .i64 v.2] 47 (0, 0)))) (by kernel_rfl) (⟨x1, xb⟩) (fun hHeld => ?_)
  refine wpAnyH_take (i := 0) (oi := { dst := some 27, op := Op.move (Operand.tmp 0), type := 44, pos := "tnode.go:29", after := #[], guard := none }) (v := ?v0p) rfl (by kernel_rfl) (by kernel_rfl) (by kernel_rfl) (fun _ _ _ h => h) (Or.inl ⟨by rfl, ?y0p⟩) (by assumption) ?r0p
  case y0p => (intro x hx; obtain ⟨hx0, hx1⟩ := hx; go_simp; try with_reducible rfl)
  try simp only [Act.put, List.setIfInBounds_toArray, List.set_cons_zero, List.set_cons_succ]
  refine wpAnyH_take (i := 1) (oi := { dst := some 28, op := Op.move (Operand.tmp 0), type := 44, pos := "tnode.go:29", after := #[], guard := none }) (v := ?v1p) rfl (by kernel_rfl) (by kernel_rfl) (by kernel_rfl) (fun _ _ _ h => h) (Or.inl ⟨by rfl, ?y1p⟩) (by assumption) ?r1p
  case y1p => (intro x hx; obtain ⟨hx0, hx1⟩ := hx; go_simp; try with_reducible rfl)
  try simp only [Act.put, List.setIfInBounds_toArray, List.set_cons_zero, List.set_cons_succ]
  refine wpAnyH_take (i := 2) (oi := { dst := some 29, op := Op.nilCheck (Operand.tmp 28), type := 0, pos := "tnode.go:29", after := #[{ on := 1, ground := Ground.data }], guard := none }) (v := ?v2p) rfl (by kernel_rfl) (by kernel_rfl) (by kernel_rfl) (fun _ _ _ h => h) (Or.inl ⟨by rfl, ?y2p⟩) (by assumption) ?r2p
  case y2p => (intro x hx; obtain ⟨hx0, hx1⟩ := hx; go_simp; try with_reducible rfl)
  try simp only [Act.put, List.setIfInBounds_toArray, List.set_cons_zero, List.set_cons_succ]
  refine wpAnyH_take (i := 3) (oi := { dst := some 30, op := Op.fieldAddr 79 (Operand.tmp 29) 0, type := 0, pos := "tnode.go:29", after := #[{ on := 2, ground := Ground.data }], guard := none }) (v := ?v3p) rfl (by kernel_rfl) (by kernel_rfl) (by kernel_rfl) (fun _ _ _ h => h) (Or.inl ⟨by rfl, ?y3p⟩) (by assumption) ?r3p
  case y3p => (intro x hx; obtain ⟨hx0, hx1⟩ := hx; go_simp; try with_reducible rfl)
  try simp only [Act.put, List.setIfInBounds_toArray, List.set_cons_zero, List.set_cons_succ]
  refine wpAnyH_take (i := 5) (oi := { dst := some 32, op := Op.move (Operand.tmp 0), type := 44, pos := "tnode.go:29", after := #[], guard := none }) (v := ?v5p) rfl (by kernel_rfl) (by kernel_rfl) (by kernel_rfl) (fun _ _ _ h => h) (Or.inl ⟨by rfl, ?y5p⟩) (by assumption) ?r5p
  case y5p => (intro x hx; obtain ⟨hx0, hx1⟩ := hx; go_simp; try with_reducible rfl)
  try simp only [Act.put, List.setIfInBounds_toArray, List.set_cons_zero, List.set_cons_succ]
  refine wpAnyH_take (i := 6) (oi := { dst := some 33, op := Op.nilCheck (Operand.tmp 32), type := 0, pos := "tnode.go:29", after := #[{ on := 5, ground := Ground.data }], guard := none }) (v := ?v6p) rfl (by kernel_rfl) (by kernel_rfl) (by kernel_rfl) (fun _ _ _ h => h) (Or.inl ⟨by rfl, ?y6p⟩) (by assumption) ?r6p
  case y6p => (intro x hx; obtain ⟨hx0, hx1⟩ := hx; go_simp; try with_reducible rfl)
  try simp only [Act.put, List.setIfInBounds_toArray, List.set_cons_zero, List.set_cons_succ]
  refine wpAnyH_take (i := 7) (oi := { dst := some 34, op := Op.fieldAddr 79 (Operand.tmp 33) 1, type := 0, pos := "tnode.go:29", after := #[{ on := 6, ground := Ground.data }], guard := none }) (v := ?v7p) rfl (by kernel_rfl) (by kernel_rfl) (by kernel_rfl) (fun _ _ _ h => h) (Or.inl ⟨by rfl, ?y7p⟩) (by assumption) ?r7p
  case y7p => (intro x hx; obtain ⟨hx0, hx1⟩ := hx; go_simp; try with_reducible rfl)
  try simp only [Act.put, List.setIfInBounds_toArray, List.set_cons_zero, List.set_cons_succ]
  refine wpAnyH_take (i := 8) (oi := { dst := some 35, op := Op.load 3 (Operand.tmp 34), type := 3, pos := "tnode.go:29", after := #[{ on := 7, ground := Ground.data }], guard := none }) (v := ?v8p) rfl (by kernel_rfl) (by kernel_rfl) (by kernel_rfl) (fun _ _ _ h => h) (Or.inl ⟨by rfl, ?y8p⟩) (by assumption) ?r8p
  case y8p => (intro x hx; obtain ⟨hx0, hx1⟩ := hx; go_simp; try with_reducible rfl)
  try simp only [Act.put, List.setIfInBounds_toArray, List.set_cons_zero, List.set_cons_succ]
  refine wpAnyH_take (i := 9) (oi := { dst := some 36, op := Op.binOp BinOp.sub 3 (Operand.tmp 35) (Operand.const (Value.int IntKind.i64 1)) 3, type := 3, pos := "tnode.go:29", after := #[{ on := 8, ground := Ground.data }], guard := none }) (v := ?v9p) rfl (by kernel_rfl) (by kernel_rfl) (by kernel_rfl) (fun _ _ _ h => h) (Or.inl ⟨by rfl, ?y9p⟩) (by assumption) ?r9p
  case y9p => (intro x hx; obtain ⟨hx0, hx1⟩ := hx; go_simp; try with_reducible rfl)
  try simp only [Act.put, List.setIfInBounds_toArray, List.set_cons_zero, List.set_cons_succ]
  refine wpAnyH_take (i := 10) (oi := { dst := some 37, op := Op.move (Operand.tmp 1), type := 3, pos := "tnode.go:29", after := #[], guard := none }) (v := ?v10p) rfl (by kernel_rfl) (by kernel_rfl) (by kernel_rfl) (fun _ _ _ h => h) (Or.inl ⟨by rfl, ?y10p⟩) (by assumption) ?r10p
  case y10p => (intro x hx; obtain ⟨hx0, hx1⟩ := hx; go_simp; try with_reducible rfl)
  try simp only [Act.put, List.setIfInBounds_toArray, List.set_cons_zero, List.set_cons_succ]
  refine wpAnyH_take (i := 11) (oi := { dst := some 38, op := Op.load 47 (Operand.tmp 5), type := 47, pos := "tnode.go:29", after := #[], guard := none }) (v := .agg #[.int .i64 v.1, .int .i64 v.2]) rfl (by kernel_rfl) (by kernel_rfl) (by kernel_rfl) (fun _ _ _ h => h) (Or.inl ⟨by rfl, ?y11p⟩) (by assumption) ?r11p
  case y11p => (intro x hx; exact exec_load47 (.tmp 5) (by rfl) w.heap.size _ _ (by rfl) hx.2)
  try simp only [Act.put, List.setIfInBounds_toArray, List.set_cons_zero, List.set_cons_succ]
  refine wpAnyH_ready (rs := [4]) (by kernel_rfl) (by simp) ?_
  refine AllReadyH.cons (o := { dst := some 31, op := Op.load 77 (Operand.tmp 30), type := 77, pos := "tnode.go:29", after := #[{ on := 3, ground := Ground.data }], guard := none }) rfl (fun K hK => ?_) AllReadyH.nil
  go_simp
  go_wp2_with fail
  refine hK.out _ _ hHeld (fun hHeld4 => ?_)
  clear hK K
  clear hHeld4
  try simp only [Act.put, List.setIfInBounds_toArray, List.set_cons_zero, List.set_cons_succ]
  refine wpAnyH_ready (rs := [12]) (by kernel_rfl) (by simp) ?_
  refine AllReadyH.cons (o := { dst := some 39, op := Op.call { callee := Callee.value (Operand.func 41), args := #[Operand.tmp 31, Operand.tmp 36, Operand.tmp 37, Operand.tmp 38], argTypes := #[77, 3, 3, 47] }, type := 77, pos := "tnode.go:29", after := #[{ on := 4, ground := Ground.data }, { on := 9, ground := Ground.data }, { on := 10, ground := Ground.data }, { on := 11, ground := Ground.data }], guard := none }) rfl (fun K hK => ?_) AllReadyH.nil
  go_simp
  try rw [dl]
  go_at_call 41
  rw [← HTP.out]
  refine Calls.mono HIH.out ?_
  rintro e w3 ⟨g, rfl, q1, T3, y1, y2, y, y3⟩
  have T3H : Hid _ := T3
  have G3 : Hid (w.grownBy w3 (some gt)) := World.grownBy.trans HG.out (grown_mono q1 _)
  have yb : w3.heap[w.heap.size]? = some (.cells #[.int .i64 v.1, .int .i64 v.2] 47 (0, 0)) := (q1.block w.heap.size HW2.out).trans HXB.out
  have HYB : Hid _ := yb
  clear T3 q1 x0 x1 x2
  have hSnew := And.intro y1 yb
  clear yb
  go_wp2_with fail
  refine hK.out _ _ hSnew (fun hHeld12 => ?_)
  clear hK K hSnew
  clear hHeld
  have hHeld := hHeld12
  clear hHeld12
  try simp only [Act.put, List.setIfInBounds_toArray, List.set_cons_zero, List.set_cons_succ]
  refine wpAnyH_take (i := 13) (oi := { dst := some 40, op := Op.nilCheck (Operand.tmp 27), type := 0, pos := "tnode.go:29", after := #[{ on := 0, ground := Ground.data }, { on := 0, ground := Ground.phase }, { on := 1, ground := Ground.phase }, { on := 2, ground := Ground.phase }, { on := 3, ground := Ground.phase }, { on := 4, ground := Ground.phase }, { on := 5, ground := Ground.phase }, { on := 6, ground := Ground.phase }, { on := 7, ground := Ground.phase }, { on := 8, ground := Ground.phase }, { on := 9, ground := Ground.phase }, { on := 10, ground := Ground.phase }, { on := 11, ground := Ground.phase }, { on := 12, ground := Ground.phase }], guard := none }) (v := ?v13p) rfl (by kernel_rfl) (by kernel_rfl) (by kernel_rfl) (fun _ _ _ h => h) (Or.inl ⟨by rfl, ?y13p⟩) (by assumption) ?r13p
  case y13p => (intro x hx; obtain ⟨hx0, hx1⟩ := hx; go_simp; try with_reducible rfl)
  try simp only [Act.put, List.setIfInBounds_toArray, List.set_cons_zero, List.set_cons_succ]
  refine wpAnyH_take (i := 14) (oi := { dst := some 41, op := Op.fieldAddr 79 (Operand.tmp 40) 0, type := 0, pos := "tnode.go:29", after := #[{ on := 13, ground := Ground.data }, { on := 0, ground := Ground.phase }, { on := 1, ground := Ground.phase }, { on := 2, ground := Ground.phase }, { on := 3, ground := Ground.phase }, { on := 4, ground := Ground.phase }, { on := 5, ground := Ground.phase }, { on := 6, ground := Ground.phase }, { on := 7, ground := Ground.phase }, { on := 8, ground := Ground.phase }, { on := 9, ground := Ground.phase }, { on := 10, ground := Ground.phase }, { on := 11, ground := Ground.phase }, { on := 12, ground := Ground.phase }], guard := none }) (v := ?v14p) rfl (by kernel_rfl) (by kernel_rfl) (by kernel_rfl) (fun _ _ _ h => h) (Or.inl ⟨by rfl, ?y14p⟩) (by assumption) ?r14p
  case y14p => (intro x hx; obtain ⟨hx0, hx1⟩ := hx; go_simp; try with_reducible rfl)
  try simp only [Act.put, List.setIfInBounds_toArray, List.set_cons_zero, List.set_cons_succ]
  refine wpAnyH_ready (rs := [15]) (by kernel_rfl) (by simp) ?_
  refine AllReadyH.cons (o := { dst := none, op := Op.store 77 (Operand.tmp 41) (Operand.tmp 39), type := 0, pos := "tnode.go:29", after := #[{ on := 14, ground := Ground.data }, { on := 12, ground := Ground.data }, { on := 12, ground := Ground.chain }, { on := 0, ground := Ground.phase }, { on := 1, ground := Ground.phase }, { on := 2, ground := Ground.phase }, { on := 3, ground := Ground.phase }, { on := 4, ground := Ground.phase }, { on := 5, ground := Ground.phase }, { on := 6, ground := Ground.phase }, { on := 7, ground := Ground.phase }, { on := 8, ground := Ground.phase }, { on := 9, ground := Ground.phase }, { on := 10, ground := Ground.phase }, { on := 11, ground := Ground.phase }, { on := 12, ground := Ground.phase }], guard := none }) rfl (fun K hK => ?_) AllReadyH.nil
  go_simp
  have hSnew : (w3.setCell ⟨gt, 0, none⟩ (.pointer (some ⟨g, 0, none⟩))).cell? ⟨gt, 1, none⟩ = some (.int .i64 ((l : Int) + 1)) ∧ (w3.setCell ⟨gt, 0, none⟩ (.pointer (some ⟨g, 0, none⟩))).heap[w.heap.size]? = some (.cells #[.int .i64 v.1, .int .i64 v.2] 47 (0, 0)) := by
    obtain ⟨top3, hb3, _, _⟩ := T3H.out.blk
    refine ⟨?_, (heap_setCell_other w3 ⟨gt, 0, none⟩ w.heap.size _ (show w.heap.size ≠ gt by have := HGL.out; omega)).trans HYB.out⟩
    rw [cell_of_row _ _ 1 _ 79 (0, 0) hb3, Int.natCast_add]
    rfl
  go_wp2_with fail
  refine hK.out _ _ hSnew (fun hHeld15 => ?_)
  clear hK K hSnew
  clear hHeld
  have hHeld := hHeld15
  clear hHeld15
  try simp only [Act.put, List.setIfInBounds_toArray, List.set_cons_zero, List.set_cons_succ]
  refine wpAnyH_done (by kernel_rfl) ?_ _
  go_wp2
  go_ret
  exact ⟨l + 1, rfl, T3H.out, HP.out.1, by omega, HP.out.2.1, HP.out.2.2, World.grownBy.trans G3.out (grown_setC _ _ _ _)⟩
set_option maxHeartbeats 4000000 in
set_option maxRecDepth 100000 in
theorem put_none (gt h k : Nat) (v : Int × Int) (n : Int) (M : Mp) (w : World) (hT0 : TreeOn w gt h n M) (hk : k < 1048576) (hn : 0 ≤ n ∧ n < 1099511627776) (hm : (M k).isSome = false) :
    Calls Try.prog 23 #[.pointer (some ⟨gt, 0, none⟩), .int .i64 (k : Int), .agg #[.int .i64 v.1, .int .i64 v.2]] w fun e w' => ∃ h', e = .returned (.int .i64 0) ∧ TreeOn w' gt h' (n + 1) (upd M k v) ∧ h ≤ h' ∧ 0 < h' ∧ k < spn h' ∧ (h' = h ∨ h' = 1 ∨ spn (h' - 1) ≤ k) ∧ w.grownBy w' (some gt) := by
  have hT := Plc.TreeOn.made hT0 (.cells #[.int .i64 v.1, .int .i64 v.2] 47)
  have HT : Hid (TreeOn (w.alloc (.cells #[.int .i64 v.1, .int .i64 v.2] 47)) gt h n M) := hT
  have HM : Hid _ := hm
  obtain ⟨top0, hb0, _, _⟩ := hT.blk
  obtain ⟨top1, hb1, _, _⟩ := hT0.blk
  have HGL : Hid (gt < w.heap.size) := lt_of_block hb1
  have e1 : ¬ ((k : Int) < 0) := by omega
  have e2 : ¬ ((1048575 : Int) < (k : Int)) := by omega
  have ha : at1 M (k : Int) = M k := by unfold at1; rw [if_pos (by omega), Int.toNat_natCast]
  have HA : Hid _ := ha
  have e3 : IntKind.i64.wrap (n + 1) = n + 1 := by rw [IntKind.wrap_i64]; omega
  have c2 : (w.alloc (.cells #[.int .i64 v.1, .int .i64 v.2] 47)).cell? ⟨gt, 2, none⟩ = some (.int .i64 n) := by rw [cell_of_row _ _ 2 _ 79 (0, 0) hb0]; rfl
  have f2 : (w.alloc (.cells #[.int .i64 v.1, .int .i64 v.2] 47)).frozen? ⟨gt, 2, none⟩ = false := by unfold World.frozen?; simp only [hb0]; simp
  clear hT hT0 hm hb0 hb1 ha
  go_enter Try.func23, Try.ntmps23
  go_upto_region 6 with (first
    | (go_at_call 39; refine (seek_any gt h k n M _ HT.out).mono ?_; rintro e u ⟨t, rfl, ht, q, rfl⟩; rw [HA.out] at ht; obtain rfl : t = none := (by have hm := HM.out; cases t with | none => rfl | some g => (cases hx : M k with | none => (rw [hx] at ht; cases ht) | some x => (rw [hx] at hm; cases hm))); simp only [ptr]; clear ht)
    | (go_at_call 40; refine (grow_any gt h k (n + 1) M _ ((HT.out.drewN q).size) hk).mono ?_; rintro e w2 ⟨h', rfl, T2, p1, p2, p3, p4, p5⟩))
  obtain ⟨l, rfl⟩ : ∃ l, h' = l + 1 := ⟨h' - 1, by omega⟩
  have hg5 : (w.alloc (.cells #[.int .i64 v.1, .int .i64 v.2] 47)).grownBy w2 (some gt) := World.grownBy.trans (World.grownBy.trans (grown_drewN _ q _) (grown_setC _ gt 2 _)) p5
  have HG : Hid (w.grownBy w2 (some gt)) := World.grownBy.trans (World.grownBy_alloc w (.cells #[.int .i64 v.1, .int .i64 v.2] 47) _) hg5
  have xb : w2.heap[w.heap.size]? = some (.cells #[.int .i64 v.1, .int .i64 v.2] 47 (0, 0)) := (hg5.block w.heap.size (by simp) (fun e => by have := HGL.out; injection e with e; omega)).trans (heap_alloc_last w _)
  have hh5 := T2.h5
  obtain ⟨top, x0, x1, x2, IH⟩ := puts_tail gt (l + 1) k v (n + 1) M w2 l rfl T2 p3 hk
  have HIH : Hid _ := IH
  have HP : Hid _ := And.intro p1 (And.intro p3 p4)
  have HXB : Hid _ := xb
  have HW2 : Hid (w.heap.size < w2.heap.size) := lt_of_block xb
  have dl : IntKind.i64.wrap (l : Int) = (l : Int) := by rw [IntKind.wrap_i64]; omega
  obtain ⟨TP, hTP⟩ : ∃ TP, ptr top = TP := ⟨_, rfl⟩
  rw [hTP] at x0
  have HTP : Hid _ := hTP
  clear IH T2 p1 p2 p3 p4 p5 hTP HT HM HA hg5
  refine wp_region_held_drew (S := (fun x => x.cell? ⟨gt, 1, none⟩ = some (.int .i64 ((l : Int) + 1)) ∧ x.heap[w.heap.size]? = some (.cells #[.int .i64 v.1, .int .i64 v.2] 47 (0, 0)))) (by kernel_rfl) (⟨x1, xb⟩) (fun hHeld => ?_)
  refine wpAnyH_take (i := 0) (oi := { dst := some 27, op := Op.move (Operand.tmp 0), type := 44, pos := "tnode.go:29", after := #[], guard := none }) (v := ?v0p) rfl (by kernel_rfl) (by kernel_rfl) (by kernel_rfl) (fun _ _ _ h => h) (Or.inl ⟨by rfl, ?y0p⟩) (by assumption) ?r0p
  case y0p => (intro x hx; obtain ⟨hx0, hx1⟩ := hx; go_simp; try with_reducible rfl)
  try simp only [Act.put, List.setIfInBounds_toArray, List.set_cons_zero, List.set_cons_succ]
  refine wpAnyH_take (i := 1) (oi := { dst := some 28, op := Op.move (Operand.tmp 0), type := 44, pos := "tnode.go:29", after := #[], guard := none }) (v := ?v1p) rfl (by kernel_rfl) (by kernel_rfl) (by kernel_rfl) (fun _ _ _ h => h) (Or.inl ⟨by rfl, ?y1p⟩) (by assumption) ?r1p
  case y1p => (intro x hx; obtain ⟨hx0, hx1⟩ := hx; go_simp; try with_reducible rfl)
  try simp only [Act.put, List.setIfInBounds_toArray, List.set_cons_zero, List.set_cons_succ]
  refine wpAnyH_take (i := 2) (oi := { dst := some 29, op := Op.nilCheck (Operand.tmp 28), type := 0, pos := "tnode.go:29", after := #[{ on := 1, ground := Ground.data }], guard := none }) (v := ?v2p) rfl (by kernel_rfl) (by kernel_rfl) (by kernel_rfl) (fun _ _ _ h => h) (Or.inl ⟨by rfl, ?y2p⟩) (by assumption) ?r2p
  case y2p => (intro x hx; obtain ⟨hx0, hx1⟩ := hx; go_simp; try with_reducible rfl)
  try simp only [Act.put, List.setIfInBounds_toArray, List.set_cons_zero, List.set_cons_succ]
  refine wpAnyH_take (i := 3) (oi := { dst := some 30, op := Op.fieldAddr 79 (Operand.tmp 29) 0, type := 0, pos := "tnode.go:29", after := #[{ on := 2, ground := Ground.data }], guard := none }) (v := ?v3p) rfl (by kernel_rfl) (by kernel_rfl) (by kernel_rfl) (fun _ _ _ h => h) (Or.inl ⟨by rfl, ?y3p⟩) (by assumption) ?r3p
  case y3p => (intro x hx; obtain ⟨hx0, hx1⟩ := hx; go_simp; try with_reducible rfl)
  try simp only [Act.put, List.setIfInBounds_toArray, List.set_cons_zero, List.set_cons_succ]
  refine wpAnyH_take (i := 5) (oi := { dst := some 32, op := Op.move (Operand.tmp 0), type := 44, pos := "tnode.go:29", after := #[], guard := none }) (v := ?v5p) rfl (by kernel_rfl) (by kernel_rfl) (by kernel_rfl) (fun _ _ _ h => h) (Or.inl ⟨by rfl, ?y5p⟩) (by assumption) ?r5p
  case y5p => (intro x hx; obtain ⟨hx0, hx1⟩ := hx; go_simp; try with_reducible rfl)
  try simp only [Act.put, List.setIfInBounds_toArray, List.set_cons_zero, List.set_cons_succ]
  refine wpAnyH_take (i := 6) (oi := { dst := some 33, op := Op.nilCheck (Operand.tmp 32), type := 0, pos := "tnode.go:29", after := #[{ on := 5, ground := Ground.data }], guard := none }) (v := ?v6p) rfl (by kernel_rfl) (by kernel_rfl) (by kernel_rfl) (fun _ _ _ h => h) (Or.inl ⟨by rfl, ?y6p⟩) (by assumption) ?r6p
  case y6p => (intro x hx; obtain ⟨hx0, hx1⟩ := hx; go_simp; try with_reducible rfl)
  try simp only [Act.put, List.setIfInBounds_toArray, List.set_cons_zero, List.set_cons_succ]
  refine wpAnyH_take (i := 7) (oi := { dst := some 34, op := Op.fieldAddr 79 (Operand.tmp 33) 1, type := 0, pos := "tnode.go:29", after := #[{ on := 6, ground := Ground.data }], guard := none }) (v := ?v7p) rfl (by kernel_rfl) (by kernel_rfl) (by kernel_rfl) (fun _ _ _ h => h) (Or.inl ⟨by rfl, ?y7p⟩) (by assumption) ?r7p
  case y7p => (intro x hx; obtain ⟨hx0, hx1⟩ := hx; go_simp; try with_reducible rfl)
  try simp only [Act.put, List.setIfInBounds_toArray, List.set_cons_zero, List.set_cons_succ]
  refine wpAnyH_take (i := 8) (oi := { dst := some 35, op := Op.load 3 (Operand.tmp 34), type := 3, pos := "tnode.go:29", after := #[{ on := 7, ground := Ground.data }], guard := none }) (v := ?v8p) rfl (by kernel_rfl) (by kernel_rfl) (by kernel_rfl) (fun _ _ _ h => h) (Or.inl ⟨by rfl, ?y8p⟩) (by assumption) ?r8p
  case y8p => (intro x hx; obtain ⟨hx0, hx1⟩ := hx; go_simp; try with_reducible rfl)
  try simp only [Act.put, List.setIfInBounds_toArray, List.set_cons_zero, List.set_cons_succ]
  refine wpAnyH_take (i := 9) (oi := { dst := some 36, op := Op.binOp BinOp.sub 3 (Operand.tmp 35) (Operand.const (Value.int IntKind.i64 1)) 3, type := 3, pos := "tnode.go:29", after := #[{ on := 8, ground := Ground.data }], guard := none }) (v := ?v9p) rfl (by kernel_rfl) (by kernel_rfl) (by kernel_rfl) (fun _ _ _ h => h) (Or.inl ⟨by rfl, ?y9p⟩) (by assumption) ?r9p
  case y9p => (intro x hx; obtain ⟨hx0, hx1⟩ := hx; go_simp; try with_reducible rfl)
  try simp only [Act.put, List.setIfInBounds_toArray, List.set_cons_zero, List.set_cons_succ]
  refine wpAnyH_take (i := 10) (oi := { dst := some 37, op := Op.move (Operand.tmp 1), type := 3, pos := "tnode.go:29", after := #[], guard := none }) (v := ?v10p) rfl (by kernel_rfl) (by kernel_rfl) (by kernel_rfl) (fun _ _ _ h => h) (Or.inl ⟨by rfl, ?y10p⟩) (by assumption) ?r10p
  case y10p => (intro x hx; obtain ⟨hx0, hx1⟩ := hx; go_simp; try with_reducible rfl)
  try simp only [Act.put, List.setIfInBounds_toArray, List.set_cons_zero, List.set_cons_succ]
  refine wpAnyH_take (i := 11) (oi := { dst := some 38, op := Op.load 47 (Operand.tmp 5), type := 47, pos := "tnode.go:29", after := #[], guard := none }) (v := .agg #[.int .i64 v.1, .int .i64 v.2]) rfl (by kernel_rfl) (by kernel_rfl) (by kernel_rfl) (fun _ _ _ h => h) (Or.inl ⟨by rfl, ?y11p⟩) (by assumption) ?r11p
  case y11p => (intro x hx; exact exec_load47 (.tmp 5) (by rfl) w.heap.size _ _ (by rfl) hx.2)
  try simp only [Act.put, List.setIfInBounds_toArray, List.set_cons_zero, List.set_cons_succ]
  refine wpAnyH_ready (rs := [4]) (by kernel_rfl) (by simp) ?_
  refine AllReadyH.cons (o := { dst := some 31, op := Op.load 77 (Operand.tmp 30), type := 77, pos := "tnode.go:29", after := #[{ on := 3, ground := Ground.data }], guard := none }) rfl (fun K hK => ?_) AllReadyH.nil
  go_simp
  go_wp2_with fail
  refine hK.out _ _ hHeld (fun hHeld4 => ?_)
  clear hK K
  clear hHeld4
  try simp only [Act.put, List.setIfInBounds_toArray, List.set_cons_zero, List.set_cons_succ]
  refine wpAnyH_ready (rs := [12]) (by kernel_rfl) (by simp) ?_
  refine AllReadyH.cons (o := { dst := some 39, op := Op.call { callee := Callee.value (Operand.func 41), args := #[Operand.tmp 31, Operand.tmp 36, Operand.tmp 37, Operand.tmp 38], argTypes := #[77, 3, 3, 47] }, type := 77, pos := "tnode.go:29", after := #[{ on := 4, ground := Ground.data }, { on := 9, ground := Ground.data }, { on := 10, ground := Ground.data }, { on := 11, ground := Ground.data }], guard := none }) rfl (fun K hK => ?_) AllReadyH.nil
  go_simp
  try rw [dl]
  go_at_call 41
  rw [← HTP.out]
  refine Calls.mono HIH.out ?_
  rintro e w3 ⟨g, rfl, q1, T3, y1, y2, y, y3⟩
  have T3H : Hid _ := T3
  have G3 : Hid (w.grownBy w3 (some gt)) := World.grownBy.trans HG.out (grown_mono q1 _)
  have yb : w3.heap[w.heap.size]? = some (.cells #[.int .i64 v.1, .int .i64 v.2] 47 (0, 0)) := (q1.block w.heap.size HW2.out).trans HXB.out
  have HYB : Hid _ := yb
  clear T3 q1 x0 x1 x2
  have hSnew := And.intro y1 yb
  clear yb
  go_wp2_with fail
  refine hK.out _ _ hSnew (fun hHeld12 => ?_)
  clear hK K hSnew
  clear hHeld
  have hHeld := hHeld12
  clear hHeld12
  try simp only [Act.put, List.setIfInBounds_toArray, List.set_cons_zero, List.set_cons_succ]
  refine wpAnyH_take (i := 13) (oi := { dst := some 40, op := Op.nilCheck (Operand.tmp 27), type := 0, pos := "tnode.go:29", after := #[{ on := 0, ground := Ground.data }, { on := 0, ground := Ground.phase }, { on := 1, ground := Ground.phase }, { on := 2, ground := Ground.phase }, { on := 3, ground := Ground.phase }, { on := 4, ground := Ground.phase }, { on := 5, ground := Ground.phase }, { on := 6, ground := Ground.phase }, { on := 7, ground := Ground.phase }, { on := 8, ground := Ground.phase }, { on := 9, ground := Ground.phase }, { on := 10, ground := Ground.phase }, { on := 11, ground := Ground.phase }, { on := 12, ground := Ground.phase }], guard := none }) (v := ?v13p) rfl (by kernel_rfl) (by kernel_rfl) (by kernel_rfl) (fun _ _ _ h => h) (Or.inl ⟨by rfl, ?y13p⟩) (by assumption) ?r13p
  case y13p => (intro x hx; obtain ⟨hx0, hx1⟩ := hx; go_simp; try with_reducible rfl)
  try simp only [Act.put, List.setIfInBounds_toArray, List.set_cons_zero, List.set_cons_succ]
  refine wpAnyH_take (i := 14) (oi := { dst := some 41, op := Op.fieldAddr 79 (Operand.tmp 40) 0, type := 0, pos := "tnode.go:29", after := #[{ on := 13, ground := Ground.data }, { on := 0, ground := Ground.phase }, { on := 1, ground := Ground.phase }, { on := 2, ground := Ground.phase }, { on := 3, ground := Ground.phase }, { on := 4, ground := Ground.phase }, { on := 5, ground := Ground.phase }, { on := 6, ground := Ground.phase }, { on := 7, ground := Ground.phase }, { on := 8, ground := Ground.phase }, { on := 9, ground := Ground.phase }, { on := 10, ground := Ground.phase }, { on := 11, ground := Ground.phase }, { on := 12, ground := Ground.phase }], guard := none }) (v := ?v14p) rfl (by kernel_rfl) (by kernel_rfl) (by kernel_rfl) (fun _ _ _ h => h) (Or.inl ⟨by rfl, ?y14p⟩) (by assumption) ?r14p
  case y14p => (intro x hx; obtain ⟨hx0, hx1⟩ := hx; go_simp; try with_reducible rfl)
  try simp only [Act.put, List.setIfInBounds_toArray, List.set_cons_zero, List.set_cons_succ]
  refine wpAnyH_ready (rs := [15]) (by kernel_rfl) (by simp) ?_
  refine AllReadyH.cons (o := { dst := none, op := Op.store 77 (Operand.tmp 41) (Operand.tmp 39), type := 0, pos := "tnode.go:29", after := #[{ on := 14, ground := Ground.data }, { on := 12, ground := Ground.data }, { on := 12, ground := Ground.chain }, { on := 0, ground := Ground.phase }, { on := 1, ground := Ground.phase }, { on := 2, ground := Ground.phase }, { on := 3, ground := Ground.phase }, { on := 4, ground := Ground.phase }, { on := 5, ground := Ground.phase }, { on := 6, ground := Ground.phase }, { on := 7, ground := Ground.phase }, { on := 8, ground := Ground.phase }, { on := 9, ground := Ground.phase }, { on := 10, ground := Ground.phase }, { on := 11, ground := Ground.phase }, { on := 12, ground := Ground.phase }], guard := none }) rfl (fun K hK => ?_) AllReadyH.nil
  go_simp
  have hSnew : (w3.setCell ⟨gt, 0, none⟩ (.pointer (some ⟨g, 0, none⟩))).cell? ⟨gt, 1, none⟩ = some (.int .i64 ((l : Int) + 1)) ∧ (w3.setCell ⟨gt, 0, none⟩ (.pointer (some ⟨g, 0, none⟩))).heap[w.heap.size]? = some (.cells #[.int .i64 v.1, .int .i64 v.2] 47 (0, 0)) := by
    obtain ⟨top3, hb3, _, _⟩ := T3H.out.blk
    refine ⟨?_, (heap_setCell_other w3 ⟨gt, 0, none⟩ w.heap.size _ (show w.heap.size ≠ gt by have := HGL.out; omega)).trans HYB.out⟩
    rw [cell_of_row _ _ 1 _ 79 (0, 0) hb3, Int.natCast_add]
    rfl
  go_wp2_with fail
  refine hK.out _ _ hSnew (fun hHeld15 => ?_)
  clear hK K hSnew
  clear hHeld
  have hHeld := hHeld15
  clear hHeld15
  try simp only [Act.put, List.setIfInBounds_toArray, List.set_cons_zero, List.set_cons_succ]
  refine wpAnyH_done (by kernel_rfl) ?_ _
  go_wp2
  go_ret
  exact ⟨l + 1, rfl, T3H.out, HP.out.1, by omega, HP.out.2.1, HP.out.2.2, World.grownBy.trans G3.out (grown_setC _ _ _ _)⟩
end Go.Proofs.Ytjginocbbnmgaaa.Plc
