/-
  SEAT Ytgijbpkfheillaa: blockMayBe, and the reference's row.
-/
import Derived.Test.YtgijbpkfheillaaBase
namespace Go.Proofs.Ytgijbpkfheillaa
open Go.RowKit
set_option linter.unusedVariables false


set_option maxHeartbeats 4000000 in
theorem block_any (b P s3 s h : Int) (r : Bool) (l : Int) (w : World) (hp : 4 ≤ P ∧ P ≤ 256) (hh0 : 0 ≤ h) : Calls Try.prog 70 #[.agg #[.int .i64 b, .int .i64 P, .int .i64 s3], .agg #[.int .i64 s, .int .u64 h, .bool r, .int .i64 l]] w fun e w' => e = .returned (.bool (rowOk P s h r l)) ∧ Below w.heap.size w w' := by
  obtain ⟨hd, hh⟩ : ∃ q, headOk h = q := ⟨_, rfl⟩
  obtain ⟨lv, hv⟩ : ∃ q, liveOk P l = q := ⟨_, rfl⟩
  have hs : s = 0 ∨ s = 5 ∨ s = 6 ∨ s = 3 ∨ s = 1 ∨ s = 2 ∨ s = 4 ∨ (s ≠ 0 ∧ s ≠ 5 ∧ s ≠ 6 ∧ s ≠ 3 ∧ s ≠ 1 ∧ s ≠ 2 ∧ s ≠ 4) := by omega
  rcases hs with rfl | rfl | rfl | rfl | rfl | rfl | rfl | ⟨n0, n5, n6, n3, n1, n2, n4⟩
  · by_cases h0 : h = 0
    · subst h0
      cases r with
      | true =>
        go_enter Try.func70, Try.ntmps70
        go_wp2_with (first | (go_at_call 76; refine (head_any _ _).mono ?_; rintro e u1 ⟨rfl, rfl⟩; try rw [hh]) | (go_at_call 77; refine (live_any _ _ _ _ _ hp).mono ?_; rintro e u2 ⟨rfl, q2⟩; try rw [hv]; have z2 := q2.cell (p := ⟨w.heap.size + 1, 2, none⟩) (by simp); have z3 := q2.cell (p := ⟨w.heap.size + 1, 3, none⟩) (by simp); simp at z2 z3; have b2 : Hid _ := q2; clear q2))
        all_goals go_ret
        all_goals exact ⟨ret_bool (by simp [rowOk, *]), by first | exact below1 (below1 b2.out) | exact ((Below.refl _ _).alloc (Nat.le_refl _) _).alloc (by simp) _⟩
      | false =>
        by_cases l0 : l = 0
        · subst l0
          go_enter Try.func70, Try.ntmps70
          go_wp2_with (first | (go_at_call 76; refine (head_any _ _).mono ?_; rintro e u1 ⟨rfl, rfl⟩; try rw [hh]) | (go_at_call 77; refine (live_any _ _ _ _ _ hp).mono ?_; rintro e u2 ⟨rfl, q2⟩; try rw [hv]; have z2 := q2.cell (p := ⟨w.heap.size + 1, 2, none⟩) (by simp); have z3 := q2.cell (p := ⟨w.heap.size + 1, 3, none⟩) (by simp); simp at z2 z3; have b2 : Hid _ := q2; clear q2))
          all_goals go_ret
          all_goals exact ⟨ret_bool (by simp [rowOk, *]), by first | exact below1 (below1 b2.out) | exact ((Below.refl _ _).alloc (Nat.le_refl _) _).alloc (by simp) _⟩
        · have l1 : (l == 0) = false := by simpa using l0
          go_enter Try.func70, Try.ntmps70
          go_wp2_with (first | (go_at_call 76; refine (head_any _ _).mono ?_; rintro e u1 ⟨rfl, rfl⟩; try rw [hh]) | (go_at_call 77; refine (live_any _ _ _ _ _ hp).mono ?_; rintro e u2 ⟨rfl, q2⟩; try rw [hv]; have z2 := q2.cell (p := ⟨w.heap.size + 1, 2, none⟩) (by simp); have z3 := q2.cell (p := ⟨w.heap.size + 1, 3, none⟩) (by simp); simp at z2 z3; have b2 : Hid _ := q2; clear q2))
          all_goals go_ret
          all_goals exact ⟨ret_bool (by simp [rowOk, *]), by first | exact below1 (below1 b2.out) | exact ((Below.refl _ _).alloc (Nat.le_refl _) _).alloc (by simp) _⟩
    · have h1 : (h == 0) = false := by simpa using h0
      go_enter Try.func70, Try.ntmps70
      go_wp2_with (first | (go_at_call 76; refine (head_any _ _).mono ?_; rintro e u1 ⟨rfl, rfl⟩; try rw [hh]) | (go_at_call 77; refine (live_any _ _ _ _ _ hp).mono ?_; rintro e u2 ⟨rfl, q2⟩; try rw [hv]; have z2 := q2.cell (p := ⟨w.heap.size + 1, 2, none⟩) (by simp); have z3 := q2.cell (p := ⟨w.heap.size + 1, 3, none⟩) (by simp); simp at z2 z3; have b2 : Hid _ := q2; clear q2))
      all_goals go_ret
      all_goals exact ⟨ret_bool (by simp [rowOk, *]), by first | exact below1 (below1 b2.out) | exact ((Below.refl _ _).alloc (Nat.le_refl _) _).alloc (by simp) _⟩
  · by_cases h0 : h = 0
    · subst h0
      cases r with
      | true =>
        go_enter Try.func70, Try.ntmps70
        go_wp2_with (first | (go_at_call 76; refine (head_any _ _).mono ?_; rintro e u1 ⟨rfl, rfl⟩; try rw [hh]) | (go_at_call 77; refine (live_any _ _ _ _ _ hp).mono ?_; rintro e u2 ⟨rfl, q2⟩; try rw [hv]; have z2 := q2.cell (p := ⟨w.heap.size + 1, 2, none⟩) (by simp); have z3 := q2.cell (p := ⟨w.heap.size + 1, 3, none⟩) (by simp); simp at z2 z3; have b2 : Hid _ := q2; clear q2))
        all_goals go_ret
        all_goals exact ⟨ret_bool (by simp [rowOk, *]), by first | exact below1 (below1 b2.out) | exact ((Below.refl _ _).alloc (Nat.le_refl _) _).alloc (by simp) _⟩
      | false =>
        by_cases l0 : l = 0
        · subst l0
          go_enter Try.func70, Try.ntmps70
          go_wp2_with (first | (go_at_call 76; refine (head_any _ _).mono ?_; rintro e u1 ⟨rfl, rfl⟩; try rw [hh]) | (go_at_call 77; refine (live_any _ _ _ _ _ hp).mono ?_; rintro e u2 ⟨rfl, q2⟩; try rw [hv]; have z2 := q2.cell (p := ⟨w.heap.size + 1, 2, none⟩) (by simp); have z3 := q2.cell (p := ⟨w.heap.size + 1, 3, none⟩) (by simp); simp at z2 z3; have b2 : Hid _ := q2; clear q2))
          all_goals go_ret
          all_goals exact ⟨ret_bool (by simp [rowOk, *]), by first | exact below1 (below1 b2.out) | exact ((Below.refl _ _).alloc (Nat.le_refl _) _).alloc (by simp) _⟩
        · have l1 : (l == 0) = false := by simpa using l0
          go_enter Try.func70, Try.ntmps70
          go_wp2_with (first | (go_at_call 76; refine (head_any _ _).mono ?_; rintro e u1 ⟨rfl, rfl⟩; try rw [hh]) | (go_at_call 77; refine (live_any _ _ _ _ _ hp).mono ?_; rintro e u2 ⟨rfl, q2⟩; try rw [hv]; have z2 := q2.cell (p := ⟨w.heap.size + 1, 2, none⟩) (by simp); have z3 := q2.cell (p := ⟨w.heap.size + 1, 3, none⟩) (by simp); simp at z2 z3; have b2 : Hid _ := q2; clear q2))
          all_goals go_ret
          all_goals exact ⟨ret_bool (by simp [rowOk, *]), by first | exact below1 (below1 b2.out) | exact ((Below.refl _ _).alloc (Nat.le_refl _) _).alloc (by simp) _⟩
    · have h1 : (h == 0) = false := by simpa using h0
      go_enter Try.func70, Try.ntmps70
      go_wp2_with (first | (go_at_call 76; refine (head_any _ _).mono ?_; rintro e u1 ⟨rfl, rfl⟩; try rw [hh]) | (go_at_call 77; refine (live_any _ _ _ _ _ hp).mono ?_; rintro e u2 ⟨rfl, q2⟩; try rw [hv]; have z2 := q2.cell (p := ⟨w.heap.size + 1, 2, none⟩) (by simp); have z3 := q2.cell (p := ⟨w.heap.size + 1, 3, none⟩) (by simp); simp at z2 z3; have b2 : Hid _ := q2; clear q2))
      all_goals go_ret
      all_goals exact ⟨ret_bool (by simp [rowOk, *]), by first | exact below1 (below1 b2.out) | exact ((Below.refl _ _).alloc (Nat.le_refl _) _).alloc (by simp) _⟩
  · by_cases h0 : h = 0
    · subst h0
      cases r with
      | true =>
        go_enter Try.func70, Try.ntmps70
        go_wp2_with (first | (go_at_call 76; refine (head_any _ _).mono ?_; rintro e u1 ⟨rfl, rfl⟩; try rw [hh]) | (go_at_call 77; refine (live_any _ _ _ _ _ hp).mono ?_; rintro e u2 ⟨rfl, q2⟩; try rw [hv]; have z2 := q2.cell (p := ⟨w.heap.size + 1, 2, none⟩) (by simp); have z3 := q2.cell (p := ⟨w.heap.size + 1, 3, none⟩) (by simp); simp at z2 z3; have b2 : Hid _ := q2; clear q2))
        all_goals go_ret
        all_goals exact ⟨ret_bool (by simp [rowOk, *]), by first | exact below1 (below1 b2.out) | exact ((Below.refl _ _).alloc (Nat.le_refl _) _).alloc (by simp) _⟩
      | false =>
        by_cases l0 : l = 0
        · subst l0
          go_enter Try.func70, Try.ntmps70
          go_wp2_with (first | (go_at_call 76; refine (head_any _ _).mono ?_; rintro e u1 ⟨rfl, rfl⟩; try rw [hh]) | (go_at_call 77; refine (live_any _ _ _ _ _ hp).mono ?_; rintro e u2 ⟨rfl, q2⟩; try rw [hv]; have z2 := q2.cell (p := ⟨w.heap.size + 1, 2, none⟩) (by simp); have z3 := q2.cell (p := ⟨w.heap.size + 1, 3, none⟩) (by simp); simp at z2 z3; have b2 : Hid _ := q2; clear q2))
          all_goals go_ret
          all_goals exact ⟨ret_bool (by simp [rowOk, *]), by first | exact below1 (below1 b2.out) | exact ((Below.refl _ _).alloc (Nat.le_refl _) _).alloc (by simp) _⟩
        · have l1 : (l == 0) = false := by simpa using l0
          go_enter Try.func70, Try.ntmps70
          go_wp2_with (first | (go_at_call 76; refine (head_any _ _).mono ?_; rintro e u1 ⟨rfl, rfl⟩; try rw [hh]) | (go_at_call 77; refine (live_any _ _ _ _ _ hp).mono ?_; rintro e u2 ⟨rfl, q2⟩; try rw [hv]; have z2 := q2.cell (p := ⟨w.heap.size + 1, 2, none⟩) (by simp); have z3 := q2.cell (p := ⟨w.heap.size + 1, 3, none⟩) (by simp); simp at z2 z3; have b2 : Hid _ := q2; clear q2))
          all_goals go_ret
          all_goals exact ⟨ret_bool (by simp [rowOk, *]), by first | exact below1 (below1 b2.out) | exact ((Below.refl _ _).alloc (Nat.le_refl _) _).alloc (by simp) _⟩
    · have h1 : (h == 0) = false := by simpa using h0
      go_enter Try.func70, Try.ntmps70
      go_wp2_with (first | (go_at_call 76; refine (head_any _ _).mono ?_; rintro e u1 ⟨rfl, rfl⟩; try rw [hh]) | (go_at_call 77; refine (live_any _ _ _ _ _ hp).mono ?_; rintro e u2 ⟨rfl, q2⟩; try rw [hv]; have z2 := q2.cell (p := ⟨w.heap.size + 1, 2, none⟩) (by simp); have z3 := q2.cell (p := ⟨w.heap.size + 1, 3, none⟩) (by simp); simp at z2 z3; have b2 : Hid _ := q2; clear q2))
      all_goals go_ret
      all_goals exact ⟨ret_bool (by simp [rowOk, *]), by first | exact below1 (below1 b2.out) | exact ((Below.refl _ _).alloc (Nat.le_refl _) _).alloc (by simp) _⟩
  · cases hd with
    | true =>
      go_enter Try.func70, Try.ntmps70
      go_wp2_with (first | (go_at_call 76; refine (head_any _ _).mono ?_; rintro e u1 ⟨rfl, rfl⟩; try rw [hh]) | (go_at_call 77; refine (live_any _ _ _ _ _ hp).mono ?_; rintro e u2 ⟨rfl, q2⟩; try rw [hv]; have z2 := q2.cell (p := ⟨w.heap.size + 1, 2, none⟩) (by simp); have z3 := q2.cell (p := ⟨w.heap.size + 1, 3, none⟩) (by simp); simp at z2 z3; have b2 : Hid _ := q2; clear q2))
      all_goals go_ret
      all_goals exact ⟨ret_bool (by simp [rowOk, *]), by first | exact below1 (below1 b2.out) | exact ((Below.refl _ _).alloc (Nat.le_refl _) _).alloc (by simp) _⟩
    | false =>
      go_enter Try.func70, Try.ntmps70
      go_wp2_with (first | (go_at_call 76; refine (head_any _ _).mono ?_; rintro e u1 ⟨rfl, rfl⟩; try rw [hh]) | (go_at_call 77; refine (live_any _ _ _ _ _ hp).mono ?_; rintro e u2 ⟨rfl, q2⟩; try rw [hv]; have z2 := q2.cell (p := ⟨w.heap.size + 1, 2, none⟩) (by simp); have z3 := q2.cell (p := ⟨w.heap.size + 1, 3, none⟩) (by simp); simp at z2 z3; have b2 : Hid _ := q2; clear q2))
      all_goals go_ret
      all_goals exact ⟨ret_bool (by simp [rowOk, *]), by first | exact below1 (below1 b2.out) | exact ((Below.refl _ _).alloc (Nat.le_refl _) _).alloc (by simp) _⟩
  · cases hd with
    | true =>
      cases lv with
      | true =>
        cases r with
        | true =>
          go_enter Try.func70, Try.ntmps70
          go_wp2_with (first | (go_at_call 76; refine (head_any _ _).mono ?_; rintro e u1 ⟨rfl, rfl⟩; try rw [hh]) | (go_at_call 77; refine (live_any _ _ _ _ _ hp).mono ?_; rintro e u2 ⟨rfl, q2⟩; try rw [hv]; have z2 := q2.cell (p := ⟨w.heap.size + 1, 2, none⟩) (by simp); have z3 := q2.cell (p := ⟨w.heap.size + 1, 3, none⟩) (by simp); simp at z2 z3; have b2 : Hid _ := q2; clear q2))
          all_goals go_ret
          all_goals exact ⟨ret_bool (by simp [rowOk, *]), by first | exact below1 (below1 b2.out) | exact ((Below.refl _ _).alloc (Nat.le_refl _) _).alloc (by simp) _⟩
        | false =>
          go_enter Try.func70, Try.ntmps70
          go_wp2_with (first | (go_at_call 76; refine (head_any _ _).mono ?_; rintro e u1 ⟨rfl, rfl⟩; try rw [hh]) | (go_at_call 77; refine (live_any _ _ _ _ _ hp).mono ?_; rintro e u2 ⟨rfl, q2⟩; try rw [hv]; have z2 := q2.cell (p := ⟨w.heap.size + 1, 2, none⟩) (by simp); have z3 := q2.cell (p := ⟨w.heap.size + 1, 3, none⟩) (by simp); simp at z2 z3; have b2 : Hid _ := q2; clear q2))
          all_goals go_ret
          all_goals exact ⟨ret_bool (by simp [rowOk, *]), by first | exact below1 (below1 b2.out) | exact ((Below.refl _ _).alloc (Nat.le_refl _) _).alloc (by simp) _⟩
      | false =>
        go_enter Try.func70, Try.ntmps70
        go_wp2_with (first | (go_at_call 76; refine (head_any _ _).mono ?_; rintro e u1 ⟨rfl, rfl⟩; try rw [hh]) | (go_at_call 77; refine (live_any _ _ _ _ _ hp).mono ?_; rintro e u2 ⟨rfl, q2⟩; try rw [hv]; have z2 := q2.cell (p := ⟨w.heap.size + 1, 2, none⟩) (by simp); have z3 := q2.cell (p := ⟨w.heap.size + 1, 3, none⟩) (by simp); simp at z2 z3; have b2 : Hid _ := q2; clear q2))
        all_goals go_ret
        all_goals exact ⟨ret_bool (by simp [rowOk, *]), by first | exact below1 (below1 b2.out) | exact ((Below.refl _ _).alloc (Nat.le_refl _) _).alloc (by simp) _⟩
    | false =>
      go_enter Try.func70, Try.ntmps70
      go_wp2_with (first | (go_at_call 76; refine (head_any _ _).mono ?_; rintro e u1 ⟨rfl, rfl⟩; try rw [hh]) | (go_at_call 77; refine (live_any _ _ _ _ _ hp).mono ?_; rintro e u2 ⟨rfl, q2⟩; try rw [hv]; have z2 := q2.cell (p := ⟨w.heap.size + 1, 2, none⟩) (by simp); have z3 := q2.cell (p := ⟨w.heap.size + 1, 3, none⟩) (by simp); simp at z2 z3; have b2 : Hid _ := q2; clear q2))
      all_goals go_ret
      all_goals exact ⟨ret_bool (by simp [rowOk, *]), by first | exact below1 (below1 b2.out) | exact ((Below.refl _ _).alloc (Nat.le_refl _) _).alloc (by simp) _⟩
  · cases hd with
    | true =>
      go_enter Try.func70, Try.ntmps70
      go_wp2_with (first | (go_at_call 76; refine (head_any _ _).mono ?_; rintro e u1 ⟨rfl, rfl⟩; try rw [hh]) | (go_at_call 77; refine (live_any _ _ _ _ _ hp).mono ?_; rintro e u2 ⟨rfl, q2⟩; try rw [hv]; have z2 := q2.cell (p := ⟨w.heap.size + 1, 2, none⟩) (by simp); have z3 := q2.cell (p := ⟨w.heap.size + 1, 3, none⟩) (by simp); simp at z2 z3; have b2 : Hid _ := q2; clear q2))
      all_goals go_ret
      all_goals exact ⟨ret_bool (by simp [rowOk, *]), by first | exact below1 (below1 b2.out) | exact ((Below.refl _ _).alloc (Nat.le_refl _) _).alloc (by simp) _⟩
    | false =>
      go_enter Try.func70, Try.ntmps70
      go_wp2_with (first | (go_at_call 76; refine (head_any _ _).mono ?_; rintro e u1 ⟨rfl, rfl⟩; try rw [hh]) | (go_at_call 77; refine (live_any _ _ _ _ _ hp).mono ?_; rintro e u2 ⟨rfl, q2⟩; try rw [hv]; have z2 := q2.cell (p := ⟨w.heap.size + 1, 2, none⟩) (by simp); have z3 := q2.cell (p := ⟨w.heap.size + 1, 3, none⟩) (by simp); simp at z2 z3; have b2 : Hid _ := q2; clear q2))
      all_goals go_ret
      all_goals exact ⟨ret_bool (by simp [rowOk, *]), by first | exact below1 (below1 b2.out) | exact ((Below.refl _ _).alloc (Nat.le_refl _) _).alloc (by simp) _⟩
  · cases hd with
    | true =>
      go_enter Try.func70, Try.ntmps70
      go_wp2_with (first | (go_at_call 76; refine (head_any _ _).mono ?_; rintro e u1 ⟨rfl, rfl⟩; try rw [hh]) | (go_at_call 77; refine (live_any _ _ _ _ _ hp).mono ?_; rintro e u2 ⟨rfl, q2⟩; try rw [hv]; have z2 := q2.cell (p := ⟨w.heap.size + 1, 2, none⟩) (by simp); have z3 := q2.cell (p := ⟨w.heap.size + 1, 3, none⟩) (by simp); simp at z2 z3; have b2 : Hid _ := q2; clear q2))
      all_goals go_ret
      all_goals exact ⟨ret_bool (by simp [rowOk, *]), by first | exact below1 (below1 b2.out) | exact ((Below.refl _ _).alloc (Nat.le_refl _) _).alloc (by simp) _⟩
    | false =>
      go_enter Try.func70, Try.ntmps70
      go_wp2_with (first | (go_at_call 76; refine (head_any _ _).mono ?_; rintro e u1 ⟨rfl, rfl⟩; try rw [hh]) | (go_at_call 77; refine (live_any _ _ _ _ _ hp).mono ?_; rintro e u2 ⟨rfl, q2⟩; try rw [hv]; have z2 := q2.cell (p := ⟨w.heap.size + 1, 2, none⟩) (by simp); have z3 := q2.cell (p := ⟨w.heap.size + 1, 3, none⟩) (by simp); simp at z2 z3; have b2 : Hid _ := q2; clear q2))
      all_goals go_ret
      all_goals exact ⟨ret_bool (by simp [rowOk, *]), by first | exact below1 (below1 b2.out) | exact ((Below.refl _ _).alloc (Nat.le_refl _) _).alloc (by simp) _⟩
  · have m0 : (s == 0) = false := by simpa using n0
    have m5 : (s == 5) = false := by simpa using n5
    have m6 : (s == 6) = false := by simpa using n6
    have m3 : (s == 3) = false := by simpa using n3
    have m1 : (s == 1) = false := by simpa using n1
    have m2 : (s == 2) = false := by simpa using n2
    have m4 : (s == 4) = false := by simpa using n4
    go_enter Try.func70, Try.ntmps70
    go_wp2_with (first | (go_at_call 76; refine (head_any _ _).mono ?_; rintro e u1 ⟨rfl, rfl⟩; try rw [hh]) | (go_at_call 77; refine (live_any _ _ _ _ _ hp).mono ?_; rintro e u2 ⟨rfl, q2⟩; try rw [hv]; have z2 := q2.cell (p := ⟨w.heap.size + 1, 2, none⟩) (by simp); have z3 := q2.cell (p := ⟨w.heap.size + 1, 3, none⟩) (by simp); simp at z2 z3; have b2 : Hid _ := q2; clear q2))
    all_goals go_ret
    all_goals exact ⟨ret_bool (by simp [rowOk, *]), by first | exact below1 (below1 b2.out) | exact ((Below.refl _ _).alloc (Nat.le_refl _) _).alloc (by simp) _⟩

end Go.Proofs.Ytgijbpkfheillaa
