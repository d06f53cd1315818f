/-
  SEAT YtgdmagmbkmgdfabDoor: kinds 1 to 3, and others.
-/
import Derived.Test.YtgdmagmbkmgdfabDoorCkBase
namespace Go.Proofs.YtgdmagmbkmgdfabDoor.chk
open Go.RowKit
set_option linter.unusedVariables false

set_option maxHeartbeats 1000000 in
theorem ofObject_t (k f s b o c n z : Int) (w : World) (h0 : 2 ≤ o) (h1 : o ≤ 1048575) (h2 : 1 ≤ n) : Calls Tryd.prog 33 #[.agg #[.int .i64 k, .int .i64 f, .int .u64 s, .int .u64 b, .int .i64 o, .int .i64 c, .int .i64 n, .int .i64 z]] w fun e w' => e = .returned (.bool true) ∧ Below w.heap.size w w' := by
  go_enter Tryd.func33, Tryd.ntmps33
  go_wp2_with (first
    | (go_at_call 32; refine (within_t _ _ _ _ (by omega) (by omega)).mono ?_; rintro e u ⟨rfl, rfl⟩))
  go_ret
  exact ⟨ret_bool (by first | rfl | exact decide_eq_true (by omega)), (Below.refl _ _).alloc (Nat.le_refl _) _⟩

set_option maxHeartbeats 1000000 in
theorem ofObject_f (k f s b o c n z : Int) (w : World) (h0 : o < 2 ∨ 1048575 < o ∨ n < 1) : Calls Tryd.prog 33 #[.agg #[.int .i64 k, .int .i64 f, .int .u64 s, .int .u64 b, .int .i64 o, .int .i64 c, .int .i64 n, .int .i64 z]] w fun e w' => e = .returned (.bool false) ∧ Below w.heap.size w w' := by
  have hw : (o < 2 ∨ 1048575 < o) ∨ (2 ≤ o ∧ o ≤ 1048575 ∧ n < 1) := by omega
  rcases hw with h | ⟨h1, h2, h3⟩
  all_goals
    clear h0
    go_enter Tryd.func33, Tryd.ntmps33
    go_wp2_with (first
      | (go_at_call 32; refine (within_t _ _ _ _ (by omega) (by omega)).mono ?_; rintro e u ⟨rfl, rfl⟩)
      | (go_at_call 32; refine (within_f _ _ _ _ (by omega)).mono ?_; rintro e u ⟨rfl, rfl⟩))
    go_ret
    exact ⟨ret_bool (by first | rfl | exact decide_eq_false (by omega)), (Below.refl _ _).alloc (Nat.le_refl _) _⟩

theorem box8 {w u : World} {k f s b o c n z : Int} (h : Below (w.alloc (.cells #[.int .i64 k, .int .i64 f, .int .u64 s, .int .u64 b, .int .i64 o, .int .i64 c, .int .i64 n, .int .i64 z] 24)).heap.size (w.alloc (.cells #[.int .i64 k, .int .i64 f, .int .u64 s, .int .u64 b, .int .i64 o, .int .i64 c, .int .i64 n, .int .i64 z] 24)) u) :
    u.cell? ⟨w.heap.size, 0, none⟩ = some (.int .i64 k) ∧ u.cell? ⟨w.heap.size, 1, none⟩ = some (.int .i64 f) ∧ u.cell? ⟨w.heap.size, 2, none⟩ = some (.int .u64 s) ∧ u.cell? ⟨w.heap.size, 3, none⟩ = some (.int .u64 b) ∧ u.cell? ⟨w.heap.size, 4, none⟩ = some (.int .i64 o) ∧ u.cell? ⟨w.heap.size, 5, none⟩ = some (.int .i64 c) ∧ u.cell? ⟨w.heap.size, 6, none⟩ = some (.int .i64 n) ∧ u.cell? ⟨w.heap.size, 7, none⟩ = some (.int .i64 z) := by
  refine ⟨?_, ?_, ?_, ?_, ?_, ?_, ?_, ?_⟩ <;> (rw [h.cell (by simp)]; simp)

set_option maxHeartbeats 2000000 in
theorem kind1 (f s b o c n z : Int) (w : World) : Calls Tryd.prog 24 #[.agg #[.int .i64 1, .int .i64 f, .int .u64 s, .int .u64 b, .int .i64 o, .int .i64 c, .int .i64 n, .int .i64 z]] w fun e w' => e = .returned (.bool (Kin 1 f o c n)) ∧ Below w.heap.size w w' := by
  have hw : (f ≠ 0) ∨ (f = 0 ∧ o ≠ 0) ∨ (f = 0 ∧ o = 0 ∧ c ≠ 0) ∨ (f = 0 ∧ o = 0 ∧ c = 0) := by omega
  rcases hw with h0 | ⟨rfl, h1⟩ | ⟨rfl, rfl, h2⟩ | ⟨rfl, rfl, rfl⟩
  all_goals
    go_enter Tryd.func24, Tryd.ntmps24
    go_wp2
    go_ret
    exact ⟨ret_bool (by first | exact (decide_eq_true (by omega)).symm | exact (decide_eq_false (by omega)).symm | (unfold Kin; rw [Bool.eq_iff_iff, beq_iff_eq, decide_eq_true_iff]; omega) | (unfold Kin; rw [decide_eq_decide]; omega)), by first | exact (Below.refl _ _).alloc (Nat.le_refl _) _ | exact Below.trans ((Below.refl _ _).alloc (Nat.le_refl _) _) (bel.mono (by simp))⟩

set_option maxHeartbeats 2000000 in
theorem kindx (k f s b o c n z : Int) (w : World) (h1 : k ≠ 1) (h2 : k ≠ 2) (h3 : k ≠ 3) (h4 : k ≠ 4) : Calls Tryd.prog 24 #[.agg #[.int .i64 k, .int .i64 f, .int .u64 s, .int .u64 b, .int .i64 o, .int .i64 c, .int .i64 n, .int .i64 z]] w fun e w' => e = .returned (.bool (Kin k f o c n)) ∧ Below w.heap.size w w' := by
  go_enter Tryd.func24, Tryd.ntmps24
  go_wp2
  go_ret
  exact ⟨ret_bool (decide_eq_false (by omega)).symm, (Below.refl _ _).alloc (Nat.le_refl _) _⟩

end Go.Proofs.YtgdmagmbkmgdfabDoor.chk
