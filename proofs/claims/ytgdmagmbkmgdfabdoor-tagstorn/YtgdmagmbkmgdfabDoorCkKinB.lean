/-
  SEAT YtgdmagmbkmgdfabDoor: kind 3.
-/
import Derived.Test.YtgdmagmbkmgdfabDoorCkKin
namespace Go.Proofs.YtgdmagmbkmgdfabDoor.chk
open Go.RowKit
set_option linter.unusedVariables false

set_option maxHeartbeats 4000000 in
theorem kind3 (f s b o c n z : Int) (w : World) : Calls Tryd.prog 24 #[.agg #[.int .i64 3, .int .i64 f, .int .u64 s, .int .u64 b, .int .i64 o, .int .i64 c, .int .i64 n, .int .i64 z]] w fun e w' => e = .returned (.bool (Kin 3 f o c n)) ∧ Below w.heap.size w w' := by
  have hf : f = 0 ∨ f = 1 ∨ f = 2 ∨ (f ≠ 0 ∧ f ≠ 1 ∧ f ≠ 2) := by omega
  rcases hf with rfl | rfl | rfl | ⟨hf0, hf1, hf2⟩
  ·
    by_cases g0 : o < 2
    ·
      go_enter Tryd.func24, Tryd.ntmps24
      go_wp2_with (first
        | (go_at_call 33; refine (ofObject_t _ _ _ _ _ _ _ _ _ (by omega) (by omega) (by omega)).mono ?_; rintro e u ⟨rfl, bel⟩; obtain ⟨c0, c1, c2, c3, c4, c5, c6, c7⟩ := box8 bel)
        | (go_at_call 33; refine (ofObject_f _ _ _ _ _ _ _ _ _ (by omega)).mono ?_; rintro e u ⟨rfl, bel⟩; obtain ⟨c0, c1, c2, c3, c4, c5, c6, c7⟩ := box8 bel)
        | (go_at_call 32; refine (within_t _ _ _ _ (by omega) (by omega)).mono ?_; rintro e u ⟨rfl, rfl⟩)
        | (go_at_call 32; refine (within_f _ _ _ _ (by omega)).mono ?_; rintro e u ⟨rfl, rfl⟩))
      go_ret
      exact ⟨ret_bool (by first | exact (decide_eq_true (by omega)).symm | exact (decide_eq_false (by omega)).symm | (unfold Kin; rw [Bool.eq_iff_iff, beq_iff_eq, decide_eq_true_iff]; omega) | (unfold Kin; rw [decide_eq_decide]; omega)), by first | exact (Below.refl _ _).alloc (Nat.le_refl _) _ | exact Below.trans ((Below.refl _ _).alloc (Nat.le_refl _) _) (bel.mono (by simp))⟩
    replace g0 : 2 ≤ o := by omega
    by_cases g1 : 1048575 < o
    ·
      go_enter Tryd.func24, Tryd.ntmps24
      go_wp2_with (first
        | (go_at_call 33; refine (ofObject_t _ _ _ _ _ _ _ _ _ (by omega) (by omega) (by omega)).mono ?_; rintro e u ⟨rfl, bel⟩; obtain ⟨c0, c1, c2, c3, c4, c5, c6, c7⟩ := box8 bel)
        | (go_at_call 33; refine (ofObject_f _ _ _ _ _ _ _ _ _ (by omega)).mono ?_; rintro e u ⟨rfl, bel⟩; obtain ⟨c0, c1, c2, c3, c4, c5, c6, c7⟩ := box8 bel)
        | (go_at_call 32; refine (within_t _ _ _ _ (by omega) (by omega)).mono ?_; rintro e u ⟨rfl, rfl⟩)
        | (go_at_call 32; refine (within_f _ _ _ _ (by omega)).mono ?_; rintro e u ⟨rfl, rfl⟩))
      go_ret
      exact ⟨ret_bool (by first | exact (decide_eq_true (by omega)).symm | exact (decide_eq_false (by omega)).symm | (unfold Kin; rw [Bool.eq_iff_iff, beq_iff_eq, decide_eq_true_iff]; omega) | (unfold Kin; rw [decide_eq_decide]; omega)), by first | exact (Below.refl _ _).alloc (Nat.le_refl _) _ | exact Below.trans ((Below.refl _ _).alloc (Nat.le_refl _) _) (bel.mono (by simp))⟩
    replace g1 : o ≤ 1048575 := by omega
    by_cases g2 : n < 1
    ·
      go_enter Tryd.func24, Tryd.ntmps24
      go_wp2_with (first
        | (go_at_call 33; refine (ofObject_t _ _ _ _ _ _ _ _ _ (by omega) (by omega) (by omega)).mono ?_; rintro e u ⟨rfl, bel⟩; obtain ⟨c0, c1, c2, c3, c4, c5, c6, c7⟩ := box8 bel)
        | (go_at_call 33; refine (ofObject_f _ _ _ _ _ _ _ _ _ (by omega)).mono ?_; rintro e u ⟨rfl, bel⟩; obtain ⟨c0, c1, c2, c3, c4, c5, c6, c7⟩ := box8 bel)
        | (go_at_call 32; refine (within_t _ _ _ _ (by omega) (by omega)).mono ?_; rintro e u ⟨rfl, rfl⟩)
        | (go_at_call 32; refine (within_f _ _ _ _ (by omega)).mono ?_; rintro e u ⟨rfl, rfl⟩))
      go_ret
      exact ⟨ret_bool (by first | exact (decide_eq_true (by omega)).symm | exact (decide_eq_false (by omega)).symm | (unfold Kin; rw [Bool.eq_iff_iff, beq_iff_eq, decide_eq_true_iff]; omega) | (unfold Kin; rw [decide_eq_decide]; omega)), by first | exact (Below.refl _ _).alloc (Nat.le_refl _) _ | exact Below.trans ((Below.refl _ _).alloc (Nat.le_refl _) _) (bel.mono (by simp))⟩
    replace g2 : 1 ≤ n := by omega
    by_cases g3 : c < 0
    ·
      go_enter Tryd.func24, Tryd.ntmps24
      go_wp2_with (first
        | (go_at_call 33; refine (ofObject_t _ _ _ _ _ _ _ _ _ (by omega) (by omega) (by omega)).mono ?_; rintro e u ⟨rfl, bel⟩; obtain ⟨c0, c1, c2, c3, c4, c5, c6, c7⟩ := box8 bel)
        | (go_at_call 33; refine (ofObject_f _ _ _ _ _ _ _ _ _ (by omega)).mono ?_; rintro e u ⟨rfl, bel⟩; obtain ⟨c0, c1, c2, c3, c4, c5, c6, c7⟩ := box8 bel)
        | (go_at_call 32; refine (within_t _ _ _ _ (by omega) (by omega)).mono ?_; rintro e u ⟨rfl, rfl⟩)
        | (go_at_call 32; refine (within_f _ _ _ _ (by omega)).mono ?_; rintro e u ⟨rfl, rfl⟩))
      go_ret
      exact ⟨ret_bool (by first | exact (decide_eq_true (by omega)).symm | exact (decide_eq_false (by omega)).symm | (unfold Kin; rw [Bool.eq_iff_iff, beq_iff_eq, decide_eq_true_iff]; omega) | (unfold Kin; rw [decide_eq_decide]; omega)), by first | exact (Below.refl _ _).alloc (Nat.le_refl _) _ | exact Below.trans ((Below.refl _ _).alloc (Nat.le_refl _) _) (bel.mono (by simp))⟩
    replace g3 : 0 ≤ c := by omega
    by_cases g4 : 1048575 < c
    ·
      go_enter Tryd.func24, Tryd.ntmps24
      go_wp2_with (first
        | (go_at_call 33; refine (ofObject_t _ _ _ _ _ _ _ _ _ (by omega) (by omega) (by omega)).mono ?_; rintro e u ⟨rfl, bel⟩; obtain ⟨c0, c1, c2, c3, c4, c5, c6, c7⟩ := box8 bel)
        | (go_at_call 33; refine (ofObject_f _ _ _ _ _ _ _ _ _ (by omega)).mono ?_; rintro e u ⟨rfl, bel⟩; obtain ⟨c0, c1, c2, c3, c4, c5, c6, c7⟩ := box8 bel)
        | (go_at_call 32; refine (within_t _ _ _ _ (by omega) (by omega)).mono ?_; rintro e u ⟨rfl, rfl⟩)
        | (go_at_call 32; refine (within_f _ _ _ _ (by omega)).mono ?_; rintro e u ⟨rfl, rfl⟩))
      go_ret
      exact ⟨ret_bool (by first | exact (decide_eq_true (by omega)).symm | exact (decide_eq_false (by omega)).symm | (unfold Kin; rw [Bool.eq_iff_iff, beq_iff_eq, decide_eq_true_iff]; omega) | (unfold Kin; rw [decide_eq_decide]; omega)), by first | exact (Below.refl _ _).alloc (Nat.le_refl _) _ | exact Below.trans ((Below.refl _ _).alloc (Nat.le_refl _) _) (bel.mono (by simp))⟩
    replace g4 : c ≤ 1048575 := by omega
    go_enter Tryd.func24, Tryd.ntmps24
    go_wp2_with (first
      | (go_at_call 33; refine (ofObject_t _ _ _ _ _ _ _ _ _ (by omega) (by omega) (by omega)).mono ?_; rintro e u ⟨rfl, bel⟩; obtain ⟨c0, c1, c2, c3, c4, c5, c6, c7⟩ := box8 bel)
      | (go_at_call 33; refine (ofObject_f _ _ _ _ _ _ _ _ _ (by omega)).mono ?_; rintro e u ⟨rfl, bel⟩; obtain ⟨c0, c1, c2, c3, c4, c5, c6, c7⟩ := box8 bel)
      | (go_at_call 32; refine (within_t _ _ _ _ (by omega) (by omega)).mono ?_; rintro e u ⟨rfl, rfl⟩)
      | (go_at_call 32; refine (within_f _ _ _ _ (by omega)).mono ?_; rintro e u ⟨rfl, rfl⟩))
    go_ret
    exact ⟨ret_bool (by first | exact (decide_eq_true (by omega)).symm | exact (decide_eq_false (by omega)).symm | (unfold Kin; rw [Bool.eq_iff_iff, beq_iff_eq, decide_eq_true_iff]; omega) | (unfold Kin; rw [decide_eq_decide]; omega)), by first | exact (Below.refl _ _).alloc (Nat.le_refl _) _ | exact Below.trans ((Below.refl _ _).alloc (Nat.le_refl _) _) (bel.mono (by simp))⟩
  ·
    by_cases g0 : o < 2
    ·
      go_enter Tryd.func24, Tryd.ntmps24
      go_wp2_with (first
        | (go_at_call 33; refine (ofObject_t _ _ _ _ _ _ _ _ _ (by omega) (by omega) (by omega)).mono ?_; rintro e u ⟨rfl, bel⟩; obtain ⟨c0, c1, c2, c3, c4, c5, c6, c7⟩ := box8 bel)
        | (go_at_call 33; refine (ofObject_f _ _ _ _ _ _ _ _ _ (by omega)).mono ?_; rintro e u ⟨rfl, bel⟩; obtain ⟨c0, c1, c2, c3, c4, c5, c6, c7⟩ := box8 bel)
        | (go_at_call 32; refine (within_t _ _ _ _ (by omega) (by omega)).mono ?_; rintro e u ⟨rfl, rfl⟩)
        | (go_at_call 32; refine (within_f _ _ _ _ (by omega)).mono ?_; rintro e u ⟨rfl, rfl⟩))
      go_ret
      exact ⟨ret_bool (by first | exact (decide_eq_true (by omega)).symm | exact (decide_eq_false (by omega)).symm | (unfold Kin; rw [Bool.eq_iff_iff, beq_iff_eq, decide_eq_true_iff]; omega) | (unfold Kin; rw [decide_eq_decide]; omega)), by first | exact (Below.refl _ _).alloc (Nat.le_refl _) _ | exact Below.trans ((Below.refl _ _).alloc (Nat.le_refl _) _) (bel.mono (by simp))⟩
    replace g0 : 2 ≤ o := by omega
    by_cases g1 : 1048575 < o
    ·
      go_enter Tryd.func24, Tryd.ntmps24
      go_wp2_with (first
        | (go_at_call 33; refine (ofObject_t _ _ _ _ _ _ _ _ _ (by omega) (by omega) (by omega)).mono ?_; rintro e u ⟨rfl, bel⟩; obtain ⟨c0, c1, c2, c3, c4, c5, c6, c7⟩ := box8 bel)
        | (go_at_call 33; refine (ofObject_f _ _ _ _ _ _ _ _ _ (by omega)).mono ?_; rintro e u ⟨rfl, bel⟩; obtain ⟨c0, c1, c2, c3, c4, c5, c6, c7⟩ := box8 bel)
        | (go_at_call 32; refine (within_t _ _ _ _ (by omega) (by omega)).mono ?_; rintro e u ⟨rfl, rfl⟩)
        | (go_at_call 32; refine (within_f _ _ _ _ (by omega)).mono ?_; rintro e u ⟨rfl, rfl⟩))
      go_ret
      exact ⟨ret_bool (by first | exact (decide_eq_true (by omega)).symm | exact (decide_eq_false (by omega)).symm | (unfold Kin; rw [Bool.eq_iff_iff, beq_iff_eq, decide_eq_true_iff]; omega) | (unfold Kin; rw [decide_eq_decide]; omega)), by first | exact (Below.refl _ _).alloc (Nat.le_refl _) _ | exact Below.trans ((Below.refl _ _).alloc (Nat.le_refl _) _) (bel.mono (by simp))⟩
    replace g1 : o ≤ 1048575 := by omega
    by_cases g2 : n < 1
    ·
      go_enter Tryd.func24, Tryd.ntmps24
      go_wp2_with (first
        | (go_at_call 33; refine (ofObject_t _ _ _ _ _ _ _ _ _ (by omega) (by omega) (by omega)).mono ?_; rintro e u ⟨rfl, bel⟩; obtain ⟨c0, c1, c2, c3, c4, c5, c6, c7⟩ := box8 bel)
        | (go_at_call 33; refine (ofObject_f _ _ _ _ _ _ _ _ _ (by omega)).mono ?_; rintro e u ⟨rfl, bel⟩; obtain ⟨c0, c1, c2, c3, c4, c5, c6, c7⟩ := box8 bel)
        | (go_at_call 32; refine (within_t _ _ _ _ (by omega) (by omega)).mono ?_; rintro e u ⟨rfl, rfl⟩)
        | (go_at_call 32; refine (within_f _ _ _ _ (by omega)).mono ?_; rintro e u ⟨rfl, rfl⟩))
      go_ret
      exact ⟨ret_bool (by first | exact (decide_eq_true (by omega)).symm | exact (decide_eq_false (by omega)).symm | (unfold Kin; rw [Bool.eq_iff_iff, beq_iff_eq, decide_eq_true_iff]; omega) | (unfold Kin; rw [decide_eq_decide]; omega)), by first | exact (Below.refl _ _).alloc (Nat.le_refl _) _ | exact Below.trans ((Below.refl _ _).alloc (Nat.le_refl _) _) (bel.mono (by simp))⟩
    replace g2 : 1 ≤ n := by omega
    by_cases g3 : c < 0
    ·
      go_enter Tryd.func24, Tryd.ntmps24
      go_wp2_with (first
        | (go_at_call 33; refine (ofObject_t _ _ _ _ _ _ _ _ _ (by omega) (by omega) (by omega)).mono ?_; rintro e u ⟨rfl, bel⟩; obtain ⟨c0, c1, c2, c3, c4, c5, c6, c7⟩ := box8 bel)
        | (go_at_call 33; refine (ofObject_f _ _ _ _ _ _ _ _ _ (by omega)).mono ?_; rintro e u ⟨rfl, bel⟩; obtain ⟨c0, c1, c2, c3, c4, c5, c6, c7⟩ := box8 bel)
        | (go_at_call 32; refine (within_t _ _ _ _ (by omega) (by omega)).mono ?_; rintro e u ⟨rfl, rfl⟩)
        | (go_at_call 32; refine (within_f _ _ _ _ (by omega)).mono ?_; rintro e u ⟨rfl, rfl⟩))
      go_ret
      exact ⟨ret_bool (by first | exact (decide_eq_true (by omega)).symm | exact (decide_eq_false (by omega)).symm | (unfold Kin; rw [Bool.eq_iff_iff, beq_iff_eq, decide_eq_true_iff]; omega) | (unfold Kin; rw [decide_eq_decide]; omega)), by first | exact (Below.refl _ _).alloc (Nat.le_refl _) _ | exact Below.trans ((Below.refl _ _).alloc (Nat.le_refl _) _) (bel.mono (by simp))⟩
    replace g3 : 0 ≤ c := by omega
    by_cases g4 : 1048575 < c
    ·
      go_enter Tryd.func24, Tryd.ntmps24
      go_wp2_with (first
        | (go_at_call 33; refine (ofObject_t _ _ _ _ _ _ _ _ _ (by omega) (by omega) (by omega)).mono ?_; rintro e u ⟨rfl, bel⟩; obtain ⟨c0, c1, c2, c3, c4, c5, c6, c7⟩ := box8 bel)
        | (go_at_call 33; refine (ofObject_f _ _ _ _ _ _ _ _ _ (by omega)).mono ?_; rintro e u ⟨rfl, bel⟩; obtain ⟨c0, c1, c2, c3, c4, c5, c6, c7⟩ := box8 bel)
        | (go_at_call 32; refine (within_t _ _ _ _ (by omega) (by omega)).mono ?_; rintro e u ⟨rfl, rfl⟩)
        | (go_at_call 32; refine (within_f _ _ _ _ (by omega)).mono ?_; rintro e u ⟨rfl, rfl⟩))
      go_ret
      exact ⟨ret_bool (by first | exact (decide_eq_true (by omega)).symm | exact (decide_eq_false (by omega)).symm | (unfold Kin; rw [Bool.eq_iff_iff, beq_iff_eq, decide_eq_true_iff]; omega) | (unfold Kin; rw [decide_eq_decide]; omega)), by first | exact (Below.refl _ _).alloc (Nat.le_refl _) _ | exact Below.trans ((Below.refl _ _).alloc (Nat.le_refl _) _) (bel.mono (by simp))⟩
    replace g4 : c ≤ 1048575 := by omega
    go_enter Tryd.func24, Tryd.ntmps24
    go_wp2_with (first
      | (go_at_call 33; refine (ofObject_t _ _ _ _ _ _ _ _ _ (by omega) (by omega) (by omega)).mono ?_; rintro e u ⟨rfl, bel⟩; obtain ⟨c0, c1, c2, c3, c4, c5, c6, c7⟩ := box8 bel)
      | (go_at_call 33; refine (ofObject_f _ _ _ _ _ _ _ _ _ (by omega)).mono ?_; rintro e u ⟨rfl, bel⟩; obtain ⟨c0, c1, c2, c3, c4, c5, c6, c7⟩ := box8 bel)
      | (go_at_call 32; refine (within_t _ _ _ _ (by omega) (by omega)).mono ?_; rintro e u ⟨rfl, rfl⟩)
      | (go_at_call 32; refine (within_f _ _ _ _ (by omega)).mono ?_; rintro e u ⟨rfl, rfl⟩))
    go_ret
    exact ⟨ret_bool (by first | exact (decide_eq_true (by omega)).symm | exact (decide_eq_false (by omega)).symm | (unfold Kin; rw [Bool.eq_iff_iff, beq_iff_eq, decide_eq_true_iff]; omega) | (unfold Kin; rw [decide_eq_decide]; omega)), by first | exact (Below.refl _ _).alloc (Nat.le_refl _) _ | exact Below.trans ((Below.refl _ _).alloc (Nat.le_refl _) _) (bel.mono (by simp))⟩
  ·
    by_cases g0 : o < 2
    ·
      go_enter Tryd.func24, Tryd.ntmps24
      go_wp2_with (first
        | (go_at_call 33; refine (ofObject_t _ _ _ _ _ _ _ _ _ (by omega) (by omega) (by omega)).mono ?_; rintro e u ⟨rfl, bel⟩; obtain ⟨c0, c1, c2, c3, c4, c5, c6, c7⟩ := box8 bel)
        | (go_at_call 33; refine (ofObject_f _ _ _ _ _ _ _ _ _ (by omega)).mono ?_; rintro e u ⟨rfl, bel⟩; obtain ⟨c0, c1, c2, c3, c4, c5, c6, c7⟩ := box8 bel)
        | (go_at_call 32; refine (within_t _ _ _ _ (by omega) (by omega)).mono ?_; rintro e u ⟨rfl, rfl⟩)
        | (go_at_call 32; refine (within_f _ _ _ _ (by omega)).mono ?_; rintro e u ⟨rfl, rfl⟩))
      go_ret
      exact ⟨ret_bool (by first | exact (decide_eq_true (by omega)).symm | exact (decide_eq_false (by omega)).symm | (unfold Kin; rw [Bool.eq_iff_iff, beq_iff_eq, decide_eq_true_iff]; omega) | (unfold Kin; rw [decide_eq_decide]; omega)), by first | exact (Below.refl _ _).alloc (Nat.le_refl _) _ | exact Below.trans ((Below.refl _ _).alloc (Nat.le_refl _) _) (bel.mono (by simp))⟩
    replace g0 : 2 ≤ o := by omega
    by_cases g1 : 1048575 < o
    ·
      go_enter Tryd.func24, Tryd.ntmps24
      go_wp2_with (first
        | (go_at_call 33; refine (ofObject_t _ _ _ _ _ _ _ _ _ (by omega) (by omega) (by omega)).mono ?_; rintro e u ⟨rfl, bel⟩; obtain ⟨c0, c1, c2, c3, c4, c5, c6, c7⟩ := box8 bel)
        | (go_at_call 33; refine (ofObject_f _ _ _ _ _ _ _ _ _ (by omega)).mono ?_; rintro e u ⟨rfl, bel⟩; obtain ⟨c0, c1, c2, c3, c4, c5, c6, c7⟩ := box8 bel)
        | (go_at_call 32; refine (within_t _ _ _ _ (by omega) (by omega)).mono ?_; rintro e u ⟨rfl, rfl⟩)
        | (go_at_call 32; refine (within_f _ _ _ _ (by omega)).mono ?_; rintro e u ⟨rfl, rfl⟩))
      go_ret
      exact ⟨ret_bool (by first | exact (decide_eq_true (by omega)).symm | exact (decide_eq_false (by omega)).symm | (unfold Kin; rw [Bool.eq_iff_iff, beq_iff_eq, decide_eq_true_iff]; omega) | (unfold Kin; rw [decide_eq_decide]; omega)), by first | exact (Below.refl _ _).alloc (Nat.le_refl _) _ | exact Below.trans ((Below.refl _ _).alloc (Nat.le_refl _) _) (bel.mono (by simp))⟩
    replace g1 : o ≤ 1048575 := by omega
    by_cases g2 : n < 1
    ·
      go_enter Tryd.func24, Tryd.ntmps24
      go_wp2_with (first
        | (go_at_call 33; refine (ofObject_t _ _ _ _ _ _ _ _ _ (by omega) (by omega) (by omega)).mono ?_; rintro e u ⟨rfl, bel⟩; obtain ⟨c0, c1, c2, c3, c4, c5, c6, c7⟩ := box8 bel)
        | (go_at_call 33; refine (ofObject_f _ _ _ _ _ _ _ _ _ (by omega)).mono ?_; rintro e u ⟨rfl, bel⟩; obtain ⟨c0, c1, c2, c3, c4, c5, c6, c7⟩ := box8 bel)
        | (go_at_call 32; refine (within_t _ _ _ _ (by omega) (by omega)).mono ?_; rintro e u ⟨rfl, rfl⟩)
        | (go_at_call 32; refine (within_f _ _ _ _ (by omega)).mono ?_; rintro e u ⟨rfl, rfl⟩))
      go_ret
      exact ⟨ret_bool (by first | exact (decide_eq_true (by omega)).symm | exact (decide_eq_false (by omega)).symm | (unfold Kin; rw [Bool.eq_iff_iff, beq_iff_eq, decide_eq_true_iff]; omega) | (unfold Kin; rw [decide_eq_decide]; omega)), by first | exact (Below.refl _ _).alloc (Nat.le_refl _) _ | exact Below.trans ((Below.refl _ _).alloc (Nat.le_refl _) _) (bel.mono (by simp))⟩
    replace g2 : 1 ≤ n := by omega
    by_cases g3 : c < 0
    ·
      go_enter Tryd.func24, Tryd.ntmps24
      go_wp2_with (first
        | (go_at_call 33; refine (ofObject_t _ _ _ _ _ _ _ _ _ (by omega) (by omega) (by omega)).mono ?_; rintro e u ⟨rfl, bel⟩; obtain ⟨c0, c1, c2, c3, c4, c5, c6, c7⟩ := box8 bel)
        | (go_at_call 33; refine (ofObject_f _ _ _ _ _ _ _ _ _ (by omega)).mono ?_; rintro e u ⟨rfl, bel⟩; obtain ⟨c0, c1, c2, c3, c4, c5, c6, c7⟩ := box8 bel)
        | (go_at_call 32; refine (within_t _ _ _ _ (by omega) (by omega)).mono ?_; rintro e u ⟨rfl, rfl⟩)
        | (go_at_call 32; refine (within_f _ _ _ _ (by omega)).mono ?_; rintro e u ⟨rfl, rfl⟩))
      go_ret
      exact ⟨ret_bool (by first | exact (decide_eq_true (by omega)).symm | exact (decide_eq_false (by omega)).symm | (unfold Kin; rw [Bool.eq_iff_iff, beq_iff_eq, decide_eq_true_iff]; omega) | (unfold Kin; rw [decide_eq_decide]; omega)), by first | exact (Below.refl _ _).alloc (Nat.le_refl _) _ | exact Below.trans ((Below.refl _ _).alloc (Nat.le_refl _) _) (bel.mono (by simp))⟩
    replace g3 : 0 ≤ c := by omega
    by_cases g4 : 1048575 < c
    ·
      go_enter Tryd.func24, Tryd.ntmps24
      go_wp2_with (first
        | (go_at_call 33; refine (ofObject_t _ _ _ _ _ _ _ _ _ (by omega) (by omega) (by omega)).mono ?_; rintro e u ⟨rfl, bel⟩; obtain ⟨c0, c1, c2, c3, c4, c5, c6, c7⟩ := box8 bel)
        | (go_at_call 33; refine (ofObject_f _ _ _ _ _ _ _ _ _ (by omega)).mono ?_; rintro e u ⟨rfl, bel⟩; obtain ⟨c0, c1, c2, c3, c4, c5, c6, c7⟩ := box8 bel)
        | (go_at_call 32; refine (within_t _ _ _ _ (by omega) (by omega)).mono ?_; rintro e u ⟨rfl, rfl⟩)
        | (go_at_call 32; refine (within_f _ _ _ _ (by omega)).mono ?_; rintro e u ⟨rfl, rfl⟩))
      go_ret
      exact ⟨ret_bool (by first | exact (decide_eq_true (by omega)).symm | exact (decide_eq_false (by omega)).symm | (unfold Kin; rw [Bool.eq_iff_iff, beq_iff_eq, decide_eq_true_iff]; omega) | (unfold Kin; rw [decide_eq_decide]; omega)), by first | exact (Below.refl _ _).alloc (Nat.le_refl _) _ | exact Below.trans ((Below.refl _ _).alloc (Nat.le_refl _) _) (bel.mono (by simp))⟩
    replace g4 : c ≤ 1048575 := by omega
    go_enter Tryd.func24, Tryd.ntmps24
    go_wp2_with (first
      | (go_at_call 33; refine (ofObject_t _ _ _ _ _ _ _ _ _ (by omega) (by omega) (by omega)).mono ?_; rintro e u ⟨rfl, bel⟩; obtain ⟨c0, c1, c2, c3, c4, c5, c6, c7⟩ := box8 bel)
      | (go_at_call 33; refine (ofObject_f _ _ _ _ _ _ _ _ _ (by omega)).mono ?_; rintro e u ⟨rfl, bel⟩; obtain ⟨c0, c1, c2, c3, c4, c5, c6, c7⟩ := box8 bel)
      | (go_at_call 32; refine (within_t _ _ _ _ (by omega) (by omega)).mono ?_; rintro e u ⟨rfl, rfl⟩)
      | (go_at_call 32; refine (within_f _ _ _ _ (by omega)).mono ?_; rintro e u ⟨rfl, rfl⟩))
    go_ret
    exact ⟨ret_bool (by first | exact (decide_eq_true (by omega)).symm | exact (decide_eq_false (by omega)).symm | (unfold Kin; rw [Bool.eq_iff_iff, beq_iff_eq, decide_eq_true_iff]; omega) | (unfold Kin; rw [decide_eq_decide]; omega)), by first | exact (Below.refl _ _).alloc (Nat.le_refl _) _ | exact Below.trans ((Below.refl _ _).alloc (Nat.le_refl _) _) (bel.mono (by simp))⟩
  ·
    go_enter Tryd.func24, Tryd.ntmps24
    go_wp2_with (first
      | (go_at_call 33; refine (ofObject_t _ _ _ _ _ _ _ _ _ (by omega) (by omega) (by omega)).mono ?_; rintro e u ⟨rfl, bel⟩; obtain ⟨c0, c1, c2, c3, c4, c5, c6, c7⟩ := box8 bel)
      | (go_at_call 33; refine (ofObject_f _ _ _ _ _ _ _ _ _ (by omega)).mono ?_; rintro e u ⟨rfl, bel⟩; obtain ⟨c0, c1, c2, c3, c4, c5, c6, c7⟩ := box8 bel)
      | (go_at_call 32; refine (within_t _ _ _ _ (by omega) (by omega)).mono ?_; rintro e u ⟨rfl, rfl⟩)
      | (go_at_call 32; refine (within_f _ _ _ _ (by omega)).mono ?_; rintro e u ⟨rfl, rfl⟩))
    go_ret
    exact ⟨ret_bool (by first | exact (decide_eq_true (by omega)).symm | exact (decide_eq_false (by omega)).symm | (unfold Kin; rw [Bool.eq_iff_iff, beq_iff_eq, decide_eq_true_iff]; omega) | (unfold Kin; rw [decide_eq_decide]; omega)), by first | exact (Below.refl _ _).alloc (Nat.le_refl _) _ | exact Below.trans ((Below.refl _ _).alloc (Nat.le_refl _) _) (bel.mono (by simp))⟩
end Go.Proofs.YtgdmagmbkmgdfabDoor.chk
