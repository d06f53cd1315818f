/-
  SEAT Ytgdmagmbkmgdfaa: kind 4, the reference.
-/
import Derived.Test.YtgdmagmbkmgdfaaKinS
namespace Go.Proofs.Ytgdmagmbkmgdfaa
open Go.RowKit
set_option linter.unusedVariables false

set_option maxHeartbeats 4000000 in
theorem rkind4 (f s b o c n z : Int) (w : World) : Calls Try.prog 12 #[.agg #[.int .i64 4, .int .i64 f, .int .u64 s, .int .u64 b, .int .i64 o, .int .i64 c, .int .i64 n, .int .i64 z]] w fun e w' => e = .returned (.bool (Kin 4 f o c n)) ∧ Below w.heap.size w w' := by
  by_cases g0 : o < 1
  ·
    go_enter Try.func12, Try.ntmps12
    go_wp2
    go_ret
    exact ⟨ret_bool (by first | exact (decide_eq_true (by omega)).symm | exact (decide_eq_false (by omega)).symm | (unfold Kin; rw [Bool.eq_iff_iff, beq_iff_eq, decide_eq_true_iff]; omega) | (unfold Kin; rw [decide_eq_decide]; omega)), by first | exact (Below.refl _ _).alloc (Nat.le_refl _) _⟩
  replace g0 : 1 ≤ o := by omega
  by_cases g1 : 65536 < o
  ·
    go_enter Try.func12, Try.ntmps12
    go_wp2
    go_ret
    exact ⟨ret_bool (by first | exact (decide_eq_true (by omega)).symm | exact (decide_eq_false (by omega)).symm | (unfold Kin; rw [Bool.eq_iff_iff, beq_iff_eq, decide_eq_true_iff]; omega) | (unfold Kin; rw [decide_eq_decide]; omega)), by first | exact (Below.refl _ _).alloc (Nat.le_refl _) _⟩
  replace g1 : o ≤ 65536 := by omega
  by_cases g2 : c < 0
  ·
    go_enter Try.func12, Try.ntmps12
    go_wp2
    go_ret
    exact ⟨ret_bool (by first | exact (decide_eq_true (by omega)).symm | exact (decide_eq_false (by omega)).symm | (unfold Kin; rw [Bool.eq_iff_iff, beq_iff_eq, decide_eq_true_iff]; omega) | (unfold Kin; rw [decide_eq_decide]; omega)), by first | exact (Below.refl _ _).alloc (Nat.le_refl _) _⟩
  replace g2 : 0 ≤ c := by omega
  by_cases g3 : o ≤ c
  ·
    go_enter Try.func12, Try.ntmps12
    go_wp2
    go_ret
    exact ⟨ret_bool (by first | exact (decide_eq_true (by omega)).symm | exact (decide_eq_false (by omega)).symm | (unfold Kin; rw [Bool.eq_iff_iff, beq_iff_eq, decide_eq_true_iff]; omega) | (unfold Kin; rw [decide_eq_decide]; omega)), by first | exact (Below.refl _ _).alloc (Nat.le_refl _) _⟩
  replace g3 : c < o := by omega
  by_cases g4 : n < 4
  ·
    go_enter Try.func12, Try.ntmps12
    go_wp2
    go_ret
    exact ⟨ret_bool (by first | exact (decide_eq_true (by omega)).symm | exact (decide_eq_false (by omega)).symm | (unfold Kin; rw [Bool.eq_iff_iff, beq_iff_eq, decide_eq_true_iff]; omega) | (unfold Kin; rw [decide_eq_decide]; omega)), by first | exact (Below.refl _ _).alloc (Nat.le_refl _) _⟩
  replace g4 : 4 ≤ n := by omega
  have hf : f = 4 ∨ f = 0 ∨ (f ≠ 4 ∧ f ≠ 0) := by omega
  rcases hf with rfl | rfl | ⟨hf4, hf0⟩
  · by_cases h : c = o - 1
    · subst h
      go_enter Try.func12, Try.ntmps12
      go_wp2
      go_ret
      exact ⟨ret_bool (by first | exact (decide_eq_true (by omega)).symm | exact (decide_eq_false (by omega)).symm | (unfold Kin; rw [Bool.eq_iff_iff, beq_iff_eq, decide_eq_true_iff]; omega) | (unfold Kin; rw [decide_eq_decide]; omega)), by first | exact (Below.refl _ _).alloc (Nat.le_refl _) _⟩
    ·
      go_enter Try.func12, Try.ntmps12
      go_wp2
      go_ret
      exact ⟨ret_bool (by first | exact (decide_eq_true (by omega)).symm | exact (decide_eq_false (by omega)).symm | (unfold Kin; rw [Bool.eq_iff_iff, beq_iff_eq, decide_eq_true_iff]; omega) | (unfold Kin; rw [decide_eq_decide]; omega)), by first | exact (Below.refl _ _).alloc (Nat.le_refl _) _⟩
  · by_cases h : c = o - 1
    · subst h
      go_enter Try.func12, Try.ntmps12
      go_wp2
      go_ret
      exact ⟨ret_bool (by first | exact (decide_eq_true (by omega)).symm | exact (decide_eq_false (by omega)).symm | (unfold Kin; rw [Bool.eq_iff_iff, beq_iff_eq, decide_eq_true_iff]; omega) | (unfold Kin; rw [decide_eq_decide]; omega)), by first | exact (Below.refl _ _).alloc (Nat.le_refl _) _⟩
    ·
      go_enter Try.func12, Try.ntmps12
      go_wp2
      go_ret
      exact ⟨ret_bool (by first | exact (decide_eq_true (by omega)).symm | exact (decide_eq_false (by omega)).symm | (unfold Kin; rw [Bool.eq_iff_iff, beq_iff_eq, decide_eq_true_iff]; omega) | (unfold Kin; rw [decide_eq_decide]; omega)), by first | exact (Below.refl _ _).alloc (Nat.le_refl _) _⟩
  · by_cases h : c = o - 1
    · subst h
      go_enter Try.func12, Try.ntmps12
      go_wp2
      go_ret
      exact ⟨ret_bool (by first | exact (decide_eq_true (by omega)).symm | exact (decide_eq_false (by omega)).symm | (unfold Kin; rw [Bool.eq_iff_iff, beq_iff_eq, decide_eq_true_iff]; omega) | (unfold Kin; rw [decide_eq_decide]; omega)), by first | exact (Below.refl _ _).alloc (Nat.le_refl _) _⟩
    ·
      go_enter Try.func12, Try.ntmps12
      go_wp2
      go_ret
      exact ⟨ret_bool (by first | exact (decide_eq_true (by omega)).symm | exact (decide_eq_false (by omega)).symm | (unfold Kin; rw [Bool.eq_iff_iff, beq_iff_eq, decide_eq_true_iff]; omega) | (unfold Kin; rw [decide_eq_decide]; omega)), by first | exact (Below.refl _ _).alloc (Nat.le_refl _) _⟩
end Go.Proofs.Ytgdmagmbkmgdfaa
