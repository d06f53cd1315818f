/-
  SEAT YtdiifegljonojaaGreatDoor: the program's Split.
-/
import Derived.Test.YtdiifegljonojaaGreatDoorQB
import Derived.Test.YtdiifegljonojaaGreatDoorQShelf
import Derived.Lib.OwnBridge
namespace Go.Proofs.YtdiifegljonojaaGreatDoor.Pt
open Go.RowKit Go.Sort
set_option linter.unusedVariables false

theorem index_one (c : UInt8) : ∀ s : List UInt8, Lib.index s [c] = Lib.indexByte s c
  | [] => rfl
  | b :: l => by
    rw [Lib.index, Lib.indexByte, index_one c l]
    simp only [List.isPrefixOf, Bool.and_true]
    by_cases h : b = c
    · subst h; simp
    · have h1 : (c == b) = false := by simpa using fun e : c = b => h e.symm
      have h2 : (b == c) = false := by simpa using h
      rw [h1, h2]

theorem splits_any (s : ByteArray) (w : World) (hs : s.size < 4294967281) :
    Calls Tryz.prog 62 #[.string s, .string ⟨#[47]⟩] w fun e w' =>
      e = .returned (.slice (some ⟨w.heap.size, 0, none⟩) (Lib.countB s ⟨#[47]⟩ + 1) (Lib.countB s ⟨#[47]⟩ + 1)) ∧ w' = w.alloc (.cells ((Lib.splitB ⟨#[47]⟩ 0 (Lib.countB s ⟨#[47]⟩) s).map Value.string).toArray 9) := by
  have h1 : 1 ≤ (⟨#[47]⟩ : ByteArray).size := by decide
  have hle := Lib.countB_le ⟨#[47]⟩ h1 s.size s (Nat.le_refl _)
  have hlen := Lib.splitB_all ⟨#[47]⟩ h1 0 _ s rfl
  have c := Any.strings_genSplit_core Tryz.lays221 info9 s ⟨#[47]⟩ 0 (-1) (Lib.countB s ⟨#[47]⟩ + 1) w hs h1 (Nat.zero_le _)
    (fun x c hx => (Any.strings_Index_one Tryz.lays143 x 47 _).mono fun e w' ⟨he, hw⟩ => ⟨by rw [he, ← index_one], hw⟩)
    ((Any.strings_Count_one Tryz.lays138 s 47 w).mono fun e w' ⟨he, hw⟩ => ⟨by rw [he]; congr 2; exact congrArg Int.ofNat (Lib.count_one 47 _).symm, hw⟩)
    (by decide) (by decide) (by rw [if_pos (by decide)]; omega)
  rw [Nat.add_sub_cancel, hlen] at c
  have e2 : Lib.cellsOf (Lib.splitB ⟨#[47]⟩ 0 (Lib.countB s ⟨#[47]⟩) s) (Lib.countB s ⟨#[47]⟩ + 1) = ((Lib.splitB ⟨#[47]⟩ 0 (Lib.countB s ⟨#[47]⟩) s).map Value.string).toArray := by rw [← hlen]; exact Lib.cellsOf_full _
  rw [e2] at c
  go_enter Tryz.func62, Tryz.ntmps62
  go_wp2_with (go_at_call 84; refine c.mono ?_; rintro e w' ⟨rfl, hw⟩; rw [hw])
  go_ret
  exact ⟨rfl, rfl⟩

theorem enter28 : ∀ args w, (callFunc 63 args).run Tryz.prog w = .ok (.enter 63 args) w := enters_of Tryz.func63 (by kernel_rfl) rfl
theorem enter30 : ∀ args w, (callFunc 65 args).run Tryz.prog w = .ok (.enter 65 args) w := enters_of Tryz.func65 (by kernel_rfl) rfl
theorem zero9 : ∀ w, (zeroValue 9).run Tryz.prog w = .ok (Value.string ByteArray.empty) w := Tryz.zeroValue9
theorem gives28 (x : ByteArray) (W : World) : FnGives Tryz.prog 63 #[] #[.string x] (.bool (noB x)) W :=
  (noName_any x W).mono fun e w' ⟨he, hw⟩ => ⟨he, 0, by rw [hw]; rfl⟩
theorem gives30 (x : ByteArray) (W : World) : FnGives Tryz.prog 65 #[] #[.string x] (.bool (longB x)) W :=
  (tooLong_any x W).mono fun e w' ⟨he, hw⟩ => ⟨he, 0, by rw [hw]; rfl⟩

theorem below_drewN {B : Nat} {a w : World} (h : Below B a w) (q : Nat) : Below B a (w.drewN q) := ⟨h.os, h.tape, h.output, h.size, h.block⟩

theorem kept_any (g cap : Nat) (xs : List ByteArray) (B : Nat) (w0 w : World) (ow : Ow w B (.slice (some ⟨g, 0, none⟩) xs.length cap) xs) (hb : Below B w0 w) (hl : xs.length ≤ 9223372036854775807) :
    Calls Tryz.prog 61 #[.slice (some ⟨g, 0, none⟩) xs.length cap, .func (.func 63) #[] #[]] w fun e w' => e = .returned (.slice (some ⟨g, 0, none⟩) (xs.filter fun x => !noB x).length cap) ∧ Ow w' B (.slice (some ⟨g, 0, none⟩) (xs.filter fun x => !noB x).length cap) (xs.filter fun x => !noB x) ∧ Below B w0 w' := by
  obtain ⟨g', cap', he, hB, hlt, hnc, hcm, hzl, hH⟩ := Lib.holds_of_ownsRow (enc := Value.string) ow (by intro h; cases h)
  cases he
  have c := Tryz.slices_DeleteFunc Value.string (fun x => rfl) noB 63 #[] enter28 ByteArray.empty zero9 g 0 cap xs.toArray w
    (fun W x _ => gives28 x W) (fun n os dk x _ => gives28 x _) hH (by simpa using hl) (by simpa using hnc)
  simp only [List.size_toArray] at c
  refine c.mono ?_
  rintro e w' ⟨rfl, q, rfl⟩
  have hf := List.length_filter_le (fun x => !noB x) xs
  have hys : ((xs.filter fun x => !noB x) ++ List.replicate (xs.length - (xs.filter fun x => !noB x).length) ByteArray.empty).length = xs.length := by simp; omega
  refine ⟨rfl, ?_, Lib.below_putRow hb hB⟩
  have h := Lib.ownsRow_putRow (q := q) (k := (xs.filter fun x => !noB x).length) ow hys hf
  rw [List.take_left] at h
  exact h

theorem long_any (a : Option Addr) (n c : Nat) (xs : List ByteArray) (w : World) (rd : RdS w a n xs) (hn : n ≤ 9223372036854775807) (ha : ∀ x, a = some x → ∃ b o, x = ⟨b, o, none⟩) :
    Calls Tryz.prog 64 #[.slice a n c, .func (.func 65) #[] #[]] w fun e w' => e = .returned (.bool (xs.any longB)) ∧ ∃ q, w' = w.drewN q := by
  cases a with
  | none =>
    obtain rfl := rd.nil rfl
    have : xs = [] := List.eq_nil_of_length_eq_zero rd.len
    subst this
    exact (Tryz.slices_ContainsFunc_empty (α := ByteArray) none c _ w).mono fun e w' ⟨he, hw⟩ => ⟨he, 0, by rw [hw]; rfl⟩
  | some x =>
    obtain ⟨b, o, rfl⟩ := ha x rfl
    have h := Tryz.slices_ContainsFunc Value.string longB 65 #[] enter30 b o n c xs w (fun W x _ => gives30 x W) (by rw [rd.len]; exact Nat.le_refl _) hn (fun j hj => by
      rw [← add_zero, rd.cell _ rfl j xs[j]! (by rw [getElem!_pos xs j hj]; exact List.getElem?_eq_getElem hj)])
    rw [show xs.take n = xs from by rw [← rd.len]; exact List.take_length] at h
    exact h

theorem long_own {B g c : Nat} {xs : List ByteArray} {w : World} (ow : Ow w B (.slice (some ⟨g, 0, none⟩) xs.length c) xs) (hn : xs.length ≤ 9223372036854775807) :
    Calls Tryz.prog 64 #[.slice (some ⟨g, 0, none⟩) xs.length c, .func (.func 65) #[] #[]] w fun e w' => e = .returned (.bool (xs.any longB)) ∧ ∃ q, w' = w.drewN q := by
  obtain ⟨a, c', he, _, _, rd⟩ := ow.rd
  cases he
  exact long_any _ _ c xs w rd hn (fun x hx => by cases hx; exact ⟨_, _, rfl⟩)

theorem prefix_slash (s : ByteArray) : Lib.hasPrefix s.data.toList (⟨#[47]⟩ : ByteArray).data.toList = begB s := by
  unfold Lib.hasPrefix begB
  cases s.data.toList with
  | nil => rfl
  | cons b l =>
    simp [List.isPrefixOf]
    rw [Bool.eq_iff_iff]; simp only [beq_iff_eq]; exact eq_comm


set_option maxHeartbeats 2000000 in
set_option maxRecDepth 100000 in
theorem psplit_any (s : ByteArray) (w : World) (hs : s.size ≤ 9223372036854775807) : Calls Tryz.prog 35 #[.string s] w fun e w' => ∃ v, e = .returned (.tuple #[v, .int .i64 (spE s)]) ∧ Ow w' w.heap.size v (spN s) ∧ Below w.heap.size w w' := by
  cases hb : begB s with
  | false =>
    have hv : spE s = 160 := by simp [spE, hb]
    have hn : spN s = [] := by simp [spN, hv]
    rw [hv, hn]
    have hp := prefix_slash s
    rw [hb] at hp
    go_enter Tryz.func35, Tryz.ntmps35
    go_wp2_with (go_at_call 59; refine (Tryz.strings_HasPrefix _ _ _).mono ?_; rintro e u ⟨rfl, hu⟩; rw [hp, hu]; clear hu)
    go_ret2
    exact ⟨_, rfl, ow_nil _ _, Below.refl _ _⟩
  | true =>
    have hp := prefix_slash s
    rw [hb] at hp
    have hv0 : spE s = nmE s := by simp [spE, hb]
    have hn0 : spN s = nmN s := by simp [spN, nmN, hv0]
    rw [hv0, hn0]
    cases hz : zeroB s with
    | true =>
      have hv : nmE s = 160 := by simp [nmE, hz]
      have hn : nmN s = [] := by simp [nmN, hv]
      rw [hv, hn]
      have hi : 0 ≤ Lib.indexByte s.data.toList 0 := (index_mem 0 _).2 (of_decide_eq_true hz)
      go_enter Tryz.func35, Tryz.ntmps35
      go_wp2_with (first
        | (go_at_call 59; refine (Tryz.strings_HasPrefix _ _ _).mono ?_; rintro e u ⟨rfl, hu⟩; rw [hp, hu]; clear hu)
        | (go_at_call 60; refine (index_any _ _ _).mono ?_; rintro e u ⟨rfl, hu⟩; rw [hu]; clear hu))
      go_ret2
      exact ⟨_, rfl, ow_nil _ _, Below.refl _ _⟩
    | false =>
      have hi : ¬ 0 ≤ Lib.indexByte s.data.toList 0 := fun h => by have := of_decide_eq_false hz; exact this ((index_mem 0 _).1 h)
      by_cases h1 : 1023 < s.size
      · have hv : nmE s = 161 := by simp [nmE, hz, h1]
        have hn : nmN s = [] := by simp [nmN, hv]
        have d1 : (1023 : Int) < (s.size : Int) := by omega
        rw [hv, hn]
        go_enter Tryz.func35, Tryz.ntmps35
        go_wp2_with (first
          | (go_at_call 59; refine (Tryz.strings_HasPrefix _ _ _).mono ?_; rintro e u ⟨rfl, hu⟩; rw [hp, hu]; clear hu)
          | (go_at_call 60; refine (index_any _ _ _).mono ?_; rintro e u ⟨rfl, hu⟩; rw [hu]; clear hu))
        go_ret2
        exact ⟨_, rfl, ow_nil _ _, Below.refl _ _⟩
      · have d1 : ¬ (1023 : Int) < (s.size : Int) := by omega
        have hs3 : s.size < 4294967281 := by omega
        have HS := splits_any s w hs3
        obtain ⟨ps, hps⟩ : ∃ ps, Lib.splitB ⟨#[47]⟩ 0 (Lib.countB s ⟨#[47]⟩) s = ps := ⟨_, rfl⟩
        have hpl : ps.length = Lib.countB s ⟨#[47]⟩ + 1 := by rw [← hps]; exact Lib.splitB_all ⟨#[47]⟩ (by decide) 0 _ s rfl
        rw [hps, ← hpl] at HS
        have hle := Lib.countB_le ⟨#[47]⟩ (by decide) s.size s (Nat.le_refl _)
        have hpl2 : ps.length ≤ 9223372036854775807 := by omega
        have hpm : ps.length ≤ maxLen := by simp [maxLen]; omega
        have bel1 : Below w.heap.size w (w.alloc (.cells (ps.map Value.string).toArray 9)) := (Below.refl _ _).alloc (Nat.le_refl _) _
        have ow1 : Ow (w.alloc (.cells (ps.map Value.string).toArray 9)) w.heap.size (.slice (some ⟨w.heap.size, 0, none⟩) ps.length ps.length) ps :=
          ⟨by simp, Or.inr ⟨w.heap.size, ps.length, (ps.map Value.string).toArray, rfl, Nat.le_refl _, heap_alloc_new w _, Nat.le_refl _, hpm, by simp, by simp [List.take_of_length_le]⟩⟩
        have KP := kept_any w.heap.size ps.length ps w.heap.size w _ ow1 bel1 hpl2
        have hfil : (ps.filter fun x => !noB x) = nm s := by rw [← hps]; exact pieces_nm s
        obtain ⟨N, hN⟩ : ∃ N, nm s = N := ⟨_, rfl⟩
        rw [hfil, hN] at KP
        have hlen := nm_len s
        rw [hN] at hlen
        have hvl : nmE s = if 64 < N.length then 161 else if N.any longB then 161 else 0 := by simp [nmE, hz, h1, hN]
        have HK : Hid (N = nm s) := hN.symm
        clear hN hfil hle hpl hps hpm hpl2
        by_cases h2 : 64 < N.length
        · have hv : nmE s = 161 := by rw [hvl, if_pos h2]
          have hn : nmN s = [] := by simp [nmN, hv]
          have d2 : (64 : Int) < (N.length : Int) := by omega
          have hl : N.any longB = N.any longB := rfl
          rw [hv, hn]
          clear hvl
          go_enter Tryz.func35, Tryz.ntmps35
          go_wp2_with (first
            | (go_at_call 59; refine (Tryz.strings_HasPrefix _ _ _).mono ?_; rintro e u ⟨rfl, hu⟩; rw [hp, hu]; clear hu)
            | (go_at_call 60; refine (index_any _ _ _).mono ?_; rintro e u ⟨rfl, hu⟩; rw [hu]; clear hu)
            | (go_at_call 62; refine HS.mono ?_; rintro e u ⟨rfl, hu⟩; rw [hu]; clear hu)
            | (go_at_call 61; refine KP.mono ?_; rintro e u ⟨rfl, ow, bel⟩; have HO : Hid (Ow u w.heap.size (.slice (some ⟨w.heap.size, 0, none⟩) N.length ps.length) N) := ow; have HB : Hid (Below w.heap.size w u) := bel; have LG := long_own ow (by omega); clear ow bel)
            | (go_at_call 64; refine LG.mono ?_; rintro e u2 ⟨rfl, q, rfl⟩; rw [hl]))
          go_ret2
          exact ⟨_, rfl, ow_nil _ _, HB.out⟩
        · have d2 : ¬ (64 : Int) < (N.length : Int) := by omega
          cases hl : N.any longB with
          | true =>
            have hv : nmE s = 161 := by rw [hvl, if_neg h2, hl]; rfl
            have hn : nmN s = [] := by simp [nmN, hv]
            rw [hv, hn]
            clear hvl
            go_enter Tryz.func35, Tryz.ntmps35
            go_wp2_with (first
              | (go_at_call 59; refine (Tryz.strings_HasPrefix _ _ _).mono ?_; rintro e u ⟨rfl, hu⟩; rw [hp, hu]; clear hu)
              | (go_at_call 60; refine (index_any _ _ _).mono ?_; rintro e u ⟨rfl, hu⟩; rw [hu]; clear hu)
              | (go_at_call 62; refine HS.mono ?_; rintro e u ⟨rfl, hu⟩; rw [hu]; clear hu)
              | (go_at_call 61; refine KP.mono ?_; rintro e u ⟨rfl, ow, bel⟩; have HO : Hid (Ow u w.heap.size (.slice (some ⟨w.heap.size, 0, none⟩) N.length ps.length) N) := ow; have HB : Hid (Below w.heap.size w u) := bel; have LG := long_own ow (by omega); clear ow bel)
              | (go_at_call 64; refine LG.mono ?_; rintro e u2 ⟨rfl, q, rfl⟩; rw [hl]))
            go_ret2
            exact ⟨_, rfl, ow_nil _ _, below_drewN HB.out q⟩
          | false =>
            have hv : nmE s = 0 := by rw [hvl, if_neg h2, hl]; rfl
            have hn : nmN s = N := by simp only [nmN, hv, if_true]; exact HK.out.symm
            rw [hv, hn]
            clear hvl
            go_enter Tryz.func35, Tryz.ntmps35
            go_wp2_with (first
              | (go_at_call 59; refine (Tryz.strings_HasPrefix _ _ _).mono ?_; rintro e u ⟨rfl, hu⟩; rw [hp, hu]; clear hu)
              | (go_at_call 60; refine (index_any _ _ _).mono ?_; rintro e u ⟨rfl, hu⟩; rw [hu]; clear hu)
              | (go_at_call 62; refine HS.mono ?_; rintro e u ⟨rfl, hu⟩; rw [hu]; clear hu)
              | (go_at_call 61; refine KP.mono ?_; rintro e u ⟨rfl, ow, bel⟩; have HO : Hid (Ow u w.heap.size (.slice (some ⟨w.heap.size, 0, none⟩) N.length ps.length) N) := ow; have HB : Hid (Below w.heap.size w u) := bel; have LG := long_own ow (by omega); clear ow bel)
              | (go_at_call 64; refine LG.mono ?_; rintro e u2 ⟨rfl, q, rfl⟩; rw [hl]))
            go_ret2
            exact ⟨_, rfl, HO.out, below_drewN HB.out q⟩
end Go.Proofs.YtdiifegljonojaaGreatDoor.Pt
