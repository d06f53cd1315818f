/-
  SEAT Ytgijbpkfheillaa: done, put.
-/
import Derived.Test.YtgijbpkfheillaaBlG
namespace Go.Proofs.Ytgijbpkfheillaa
open Go.RowKit
set_option linter.unusedVariables false

def doneB (s : Int) (r : Bool) (l : Int) (lf : Bool) : Bool := (s == 4) && (lf || hollowB r l)
theorem done_any (s h : Int) (r : Bool) (l : Int) (lf : Bool) (w : World) : Calls Try.prog 37 #[.agg #[.int .i64 s, .int .u64 h, .bool r, .int .i64 l, .bool lf]] w fun e w' => e = .returned (.bool (doneB s r l lf)) ∧ Below w.heap.size w w' := by
  by_cases s4 : s = 4
  · subst s4
    cases lf with
    | true =>
      go_enter Try.func37, Try.ntmps37
      go_wp2
      go_ret
      exact ⟨rfl, (Below.refl _ _).alloc (Nat.le_refl _) _⟩
    | false =>
      go_enter Try.func37, Try.ntmps37
      go_wp2_with (first | (go_at_call 68; refine (hollow_any _ _ _ _ _ _).mono ?_; rintro e u1 ⟨rfl, q1⟩; have Q1 : Hid _ := q1; clear q1))
      go_ret
      exact ⟨ret_bool (by simp [doneB]), below1 Q1.out⟩
  · have s4b : (s == 4) = false := by simpa using s4
    go_enter Try.func37, Try.ntmps37
    go_wp2
    go_ret
    exact ⟨ret_bool (by simp [doneB, s4b]), (Below.refl _ _).alloc (Nat.le_refl _) _⟩

theorem BookAt.put {w : World} {gb gk : Nat} {P : Int} {es : List Ent} {cur last vic : Int} (h : BookAt w gb gk P es cur last vic) (i : Nat) (hi : i < es.length) (x : Ent) :
    BookAt (((((w.setCell ⟨gk, i * 5, none⟩ (.int .i64 x.s)).setCell ⟨gk, i * 5 + 1, none⟩ (.int .u64 x.h)).setCell ⟨gk, i * 5 + 2, none⟩ (.bool x.r)).setCell ⟨gk, i * 5 + 3, none⟩ (.int .i64 x.l)).setCell ⟨gk, i * 5 + 4, none⟩ (.bool x.left)) gb gk P (es.set i x) cur last vic := by
  have hne := h.ne
  have g0 := heap_setCell_same w gk (i * 5) _ 71 (.int .i64 x.s) h.row
  have g1 := heap_setCell_same _ gk (i * 5 + 1) _ 71 (.int .u64 x.h) g0
  have g2 := heap_setCell_same _ gk (i * 5 + 2) _ 71 (.bool x.r) g1
  have g3 := heap_setCell_same _ gk (i * 5 + 3) _ 71 (.int .i64 x.l) g2
  have g4 := heap_setCell_same _ gk (i * 5 + 4) _ 71 (.bool x.left) g3
  refine ⟨?_, ?_⟩
  · rw [heap_setCell_other _ _ _ _ (fun e => hne e), heap_setCell_other _ _ _ _ (fun e => hne e), heap_setCell_other _ _ _ _ (fun e => hne e), heap_setCell_other _ _ _ _ (fun e => hne e), heap_setCell_other _ _ _ _ (fun e => hne e), List.length_set]
    exact h.box
  · rw [g4, ← flatE_set es i x hi]
    simp

theorem BookAt.free {w : World} {gb gk : Nat} {P : Int} {es : List Ent} {cur last vic : Int} (h : BookAt w gb gk P es cur last vic) (j : Nat) : w.frozen? ⟨gk, j, none⟩ = false := by
  have := h.row
  simp [World.frozen?, this]

theorem grown_set (w : World) (g j : Nat) (v : Value) : w.grownBy (w.setCell ⟨g, j, none⟩ v) (some g) := ⟨rfl, rfl, rfl, by simp, fun k hk hne => heap_setCell_other w ⟨g, j, none⟩ k v (fun e => hne (congrArg some e))⟩
theorem grownBy_trans {a b c : World} {r : Option Nat} (h : a.grownBy b r) (k : b.grownBy c r) : a.grownBy c r :=
  ⟨k.os.trans h.os, k.tape.trans h.tape, k.output.trans h.output, Nat.le_trans h.size k.size, fun i hi hr => (k.block i (Nat.lt_of_lt_of_le hi h.size) hr).trans (h.block i hi hr)⟩
theorem put_grown (w : World) (g j0 j1 j2 j3 j4 : Nat) (v0 v1 v2 v3 v4 : Value) : w.grownBy (((((w.setCell ⟨g, j0, none⟩ v0).setCell ⟨g, j1, none⟩ v1).setCell ⟨g, j2, none⟩ v2).setCell ⟨g, j3, none⟩ v3).setCell ⟨g, j4, none⟩ v4) (some g) :=
  grownBy_trans (grownBy_trans (grownBy_trans (grownBy_trans (grown_set _ _ _ _) (grown_set _ _ _ _)) (grown_set _ _ _ _)) (grown_set _ _ _ _)) (grown_set _ _ _ _)

set_option maxHeartbeats 1000000 in
theorem put_any (gb gk : Nat) (P : Int) (es : List Ent) (cur last vic : Int) (i : Nat) (st : Int) (w : World) (h : BookAt w gb gk P es cur last vic) (hi : i < es.length) (hn : es.length ≤ 5000) : Calls Try.prog 38 #[.pointer (some ⟨gb, 0, none⟩), .int .i64 i, .int .i64 st] w fun e w' => e = .returned (.tuple #[]) ∧ BookAt w' gb gk P (es.set i ⟨st, 0, false, 0, false⟩) cur last vic ∧ w.grownBy w' (some gk) := by
  obtain ⟨c0, c1, c2, c3, c4⟩ := h.cells
  obtain ⟨e0, e1, e2, e3, e4⟩ := h.entry i hi
  have f0 := h.free (i * 5)
  have f1 := h.free (i * 5 + 1)
  have f2 := h.free (i * 5 + 2)
  have f3 := h.free (i * 5 + 3)
  have f4 := h.free (i * 5 + 4)
  have HP : Hid _ := h.put i hi ⟨st, 0, false, 0, false⟩
  have d1 : (i : Int) < es.length := by omega
  clear h
  go_enter Try.func38, Try.ntmps38
  go_wp2
  go_end0
  exact ⟨rfl, HP.out, put_grown w gk _ _ _ _ _ _ _ _ _ _⟩

set_option maxHeartbeats 1000000 in
theorem bad_free (gb gk : Nat) (P : Int) (es : List Ent) (cur last vic : Int) (i : Nat) (w : World) (h : BookAt w gb gk P es cur last vic) (hi : i < es.length) (hn : es.length ≤ 5000) (h0 : (es.getD i Ent.zero).s = 0) : Calls Try.prog 12 #[.pointer (some ⟨gb, 0, none⟩), .int .i64 i] w fun e w' => e = .returned (.int .i64 0) ∧ BookAt w' gb gk P (es.set i ⟨6, 0, false, 0, false⟩) cur last vic ∧ w.grownBy w' (some gk) := by
  obtain ⟨c0, c1, c2, c3, c4⟩ := h.cells
  obtain ⟨e0, e1, e2, e3, e4⟩ := h.entry i hi
  rw [h0] at e0
  have d1 : (i : Int) < es.length := by omega
  have hh : hasOk es.length (i : Int) = true := decide_eq_true ⟨by omega, by omega⟩
  have HB : Hid (BookAt w gb gk P es cur last vic) := h
  clear h
  go_enter Try.func12, Try.ntmps12
  go_wp2_with (first
    | (go_at_call 36; refine (has_any gb gk P es cur last vic _ _ HB.out hn).mono ?_; rintro e u1 ⟨rfl, rfl⟩; rw [hh])
    | (go_at_call 38; refine (put_any gb gk P es cur last vic i 6 _ (HB.out.below ((Below.refl _ _).alloc (Nat.le_refl _) _)) hi hn).mono ?_; rintro e u2 ⟨rfl, b2, g2⟩; have B2 : Hid _ := b2; have G2 : Hid _ := g2; clear b2 g2))
  go_ret
  exact ⟨rfl, B2.out, grownBy_trans (World.grownBy_alloc _ _ _) G2.out⟩
end Go.Proofs.Ytgijbpkfheillaa
