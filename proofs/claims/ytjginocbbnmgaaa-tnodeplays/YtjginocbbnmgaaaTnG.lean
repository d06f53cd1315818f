/-
  SEAT Ytjginocbbnmgaaa: a tree; seek, Get, Len, Height, New.
-/
import Derived.Test.YtjginocbbnmgaaaTnF
namespace Go.Proofs.Ytjginocbbnmgaaa
open Go.RowKit
set_option linter.unusedVariables false
variable {bx : Nat}

/-- A tree's box and its nodes: its height h (its top may still be nil), n: the number that it keeps. -/
structure TreeOn (bx : Nat) (w : World) (gt h : Nat) (n : Int) (M : Mp) : Prop where
  blk : ∃ top, w.heap[gt]? = some (.cells #[ptr top, .int .i64 (h : Int), .int .i64 n] 72 (0, 0)) ∧ (h = 0 → top = none ∧ M 0 = none) ∧ ∀ l, h = l + 1 → NodeOn (seenH w (Eg gt bx)) l top M
  out : ∀ k, spn h ≤ k → M k = none
  h5 : h ≤ 5
  low : bx < w.heap.size
/-- What lies at any number. -/
def at1 (M : Mp) (k : Int) : Option Int := if 0 ≤ k then M k.toNat else none
theorem TreeOn.void {w : World} {gt : Nat} {n : Int} {M : Mp} (h : TreeOn bx w gt 0 n M) : ∀ k, M k = none := fun k => by
  obtain ⟨_, _, h0, _⟩ := h.blk
  cases k with
  | zero => exact (h0 rfl).2
  | succ k => exact h.out _ (by unfold spn; omega)
set_option maxRecDepth 100000 in
theorem seek_zero (gt : Nat) (w : World) (c0 : w.cell? ⟨gt, 0, none⟩ = some (.pointer none)) (c1 : w.cell? ⟨gt, 1, none⟩ = some (.int .i64 0)) :
    Calls Try.prog 36 #[.pointer (some ⟨gt, 0, none⟩), .int .i64 0] w fun e w' => e = .returned (.pointer none) ∧ w' = w := by
  go_enter Try.func36, Try.ntmps36
  go_wp2_with (first
    | (go_at_call 54; refine (span_any 0 _ (by omega)).mono ?_; rintro e u ⟨rfl, rfl⟩; rw [show spn 0 = 1 from rfl]))
  go_loopw [5, 6] (fun s5 s6 wr => s5 = .pointer none ∧ s6 = .int .i64 (-1) ∧ wr = w)
    (fun _ _ _ => 0)
  case atStart => exact ⟨rfl, rfl, rfl⟩
  case round =>
    obtain ⟨rfl, rfl, rfl⟩ := hrel
    go_wp2
    go_ret
    exact ⟨rfl, rfl⟩
set_option maxHeartbeats 1000000 in
set_option maxRecDepth 100000 in
theorem seek_low (gt h : Nat) (k : Int) (T : Value) (n : Int) (w : World) (c1 : w.cell? ⟨gt, 1, none⟩ = some (.int .i64 (h : Int))) (h5 : h ≤ 5) (hk : k < 0 ∨ (spn h : Int) ≤ k) :
    Calls Try.prog 36 #[.pointer (some ⟨gt, 0, none⟩), .int .i64 k] w fun e w' => e = .returned (.pointer none) ∧ w' = w := by
  obtain ⟨SP, hSP⟩ : ∃ SP, spn h = SP := ⟨_, rfl⟩
  rw [hSP] at hk
  have HSP : Hid _ := hSP
  clear hSP
  by_cases h0 : k < 0
  · clear hk
    go_enter Try.func36, Try.ntmps36
    go_wp2
    go_ret
    exact ⟨rfl, rfl⟩
  · have h1 : (SP : Int) ≤ k := by omega
    clear hk
    go_enter Try.func36, Try.ntmps36
    go_wp2_with (first
      | (go_at_call 54; refine (span_any h _ h5).mono ?_; rintro e u ⟨rfl, rfl⟩; rw [HSP.out]))
    go_ret
    exact ⟨rfl, rfl⟩
theorem seek_any (gt h : Nat) (k n : Int) (M : Mp) (w : World) (hT : TreeOn bx w gt h n M) :
    Calls Try.prog 36 #[.pointer (some ⟨gt, 0, none⟩), .int .i64 k] w fun e w' => ∃ t, e = .returned (ptr t) ∧ ThingOn (seenH w (Eg gt bx)) t (at1 M k) ∧ ∃ q, w' = w.drewN q := by
  obtain ⟨top, hb, h0, hN⟩ := hT.blk
  have c1 : w.cell? ⟨gt, 1, none⟩ = some (.int .i64 (h : Int)) := by rw [cell_of_row _ _ 1 _ 72 (0, 0) hb]; rfl
  by_cases hk : k < 0 ∨ (spn h : Int) ≤ k
  · refine (seek_low gt h k (ptr top) n w c1 hT.h5 hk).mono ?_
    rintro e w' ⟨rfl, rfl⟩
    refine ⟨none, rfl, ?_, 0, rfl⟩
    have : at1 M k = none := by
      unfold at1
      split
      · exact hT.out _ (by omega)
      · rfl
    rw [this]
    trivial
  · obtain ⟨j, rfl⟩ := Int.eq_ofNat_of_zero_le (show 0 ≤ k by omega)
    have hj : j < spn h := by omega
    have ha : at1 M (j : Int) = M j := by unfold at1; rw [if_pos (by omega), Int.toNat_natCast]
    rw [ha]
    cases h with
    | zero =>
      have : j = 0 := by unfold spn at hj; omega
      subst this
      obtain ⟨rfl, hM⟩ := h0 rfl
      refine (seek_zero gt w (by rw [cell_of_row _ _ 0 _ 72 (0, 0) hb]; rfl) c1).mono ?_
      rintro e w' ⟨rfl, rfl⟩
      exact ⟨none, rfl, by rw [hM]; trivial, 0, rfl⟩
    | succ l => exact seek_in gt (l + 1) j top n M w hb l rfl hT.h5 hj (hN l rfl)
theorem thing_some {H : Nat → Option Obj} {t : Option Nat} {x : Int} (h : ThingOn H t (some x)) : ∃ g, t = some g ∧ H g = some (.cells #[.int .i64 x] 3 (0, 0)) := by
  cases t with
  | none => cases h
  | some g => exact ⟨g, rfl, h⟩
/-- What Get tells. -/
def got : Option Int → Value
  | none => .tuple #[.int .i64 0, .bool false]
  | some x => .tuple #[.int .i64 x, .bool true]
set_option maxRecDepth 100000 in
theorem get_any (gt h : Nat) (k n : Int) (M : Mp) (w : World) (hT : TreeOn bx w gt h n M) :
    Calls Try.prog 19 #[.pointer (some ⟨gt, 0, none⟩), .int .i64 k] w fun e w' => e = .returned (got (at1 M k)) ∧ ∃ q, w' = w.drewN q := by
  have HT : Hid (TreeOn bx w gt h n M) := hT
  obtain ⟨A, hA⟩ : ∃ A, at1 M k = A := ⟨_, rfl⟩
  rw [hA]
  have HA : Hid _ := hA
  clear hT hA
  cases A with
  | none =>
    go_enter Try.func19, Try.ntmps19
    go_wp2_with (first | (go_at_call 36; refine (seek_any gt h k n M _ HT.out).mono ?_; rintro e u ⟨t, rfl, ht, q, rfl⟩; rw [HA.out] at ht; obtain rfl : t = none := (by cases t with | none => rfl | some g => cases ht); simp only [ptr]; clear ht))
    go_ret2
    exact ⟨rfl, _, rfl⟩
  | some x =>
    go_enter Try.func19, Try.ntmps19
    go_wp2_with (first | (go_at_call 36; refine (seek_any gt h k n M _ HT.out).mono ?_; rintro e u ⟨t, rfl, ht, q, rfl⟩; rw [HA.out] at ht; obtain ⟨g, rfl, hg⟩ := thing_some ht; have cx : w.cell? ⟨g, 0, none⟩ = some (.int .i64 x) := (by rw [cell_of_row _ _ 0 _ 3 (0, 0) (seen_block hg).2]; rfl); simp only [ptr]; clear ht hg))
    go_ret2
    exact ⟨rfl, _, rfl⟩
theorem len_any (gt h : Nat) (n : Int) (M : Mp) (w : World) (hT : TreeOn bx w gt h n M) : Calls Try.prog 14 #[.pointer (some ⟨gt, 0, none⟩)] w fun e w' => e = .returned (.int .i64 n) ∧ w' = w := by
  obtain ⟨top, hb, _, _⟩ := hT.blk
  have c2 : w.cell? ⟨gt, 2, none⟩ = some (.int .i64 n) := by rw [cell_of_row _ _ 2 _ 72 (0, 0) hb]; rfl
  clear hb hT
  go_enter Try.func14, Try.ntmps14
  go_wp2
  go_ret
  exact ⟨rfl, rfl⟩
theorem height_any (gt h : Nat) (n : Int) (M : Mp) (w : World) (hT : TreeOn bx w gt h n M) : Calls Try.prog 13 #[.pointer (some ⟨gt, 0, none⟩)] w fun e w' => e = .returned (.int .i64 (h : Int)) ∧ w' = w := by
  obtain ⟨top, hb, _, _⟩ := hT.blk
  have c1 : w.cell? ⟨gt, 1, none⟩ = some (.int .i64 (h : Int)) := by rw [cell_of_row _ _ 1 _ 72 (0, 0) hb]; rfl
  clear hb hT
  go_enter Try.func13, Try.ntmps13
  go_wp2
  go_ret
  exact ⟨rfl, rfl⟩
theorem newt_any (w : World) : Calls Try.prog 15 #[] w fun e w' => e = .returned (.pointer (some ⟨w.heap.size, 0, none⟩)) ∧ TreeOn w.heap.size w' w.heap.size 0 0 (fun _ => none) ∧ Below w.heap.size w w' := by
  have hT : TreeOn w.heap.size (w.alloc (.cells #[.pointer none, .int .i64 0, .int .i64 0] 72)) w.heap.size 0 0 (fun _ => none) := ⟨⟨none, heap_alloc_last w _, fun _ => ⟨rfl, rfl⟩, fun l hl => by omega⟩, fun _ _ => rfl, by omega, by simp⟩
  have HT : Hid _ := hT
  clear hT
  go_enter Try.func15, Try.ntmps15
  go_wp2
  go_ret
  exact ⟨rfl, HT.out, (Below.refl _ _).alloc (Nat.le_refl _) _⟩
end Go.Proofs.Ytjginocbbnmgaaa
