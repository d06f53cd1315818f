/-
  SEAT Ytgijbpkfheillaa: the reference's row.
-/
import Derived.Test.YtgijbpkfheillaaBase
namespace Go.Proofs.Ytgijbpkfheillaa
open Go.RowKit
set_option linter.unusedVariables false


set_option maxHeartbeats 4000000 in
theorem rrow_any (P s h : Int) (r : Bool) (l : Int) (w : World) (hp : 4 ≤ P ∧ P ≤ 256) (hh0 : 0 ≤ h) : Calls Try.prog 46 #[.agg #[.int .i64 s, .int .u64 h, .bool r, .int .i64 l], .int .i64 P] w fun e w' => e = .returned (.bool (rowOk P s h r l)) ∧ Below w.heap.size w w' := by
  have hs : s = 0 ∨ s = 5 ∨ s = 6 ∨ s = 3 ∨ s = 1 ∨ s = 2 ∨ s = 4 ∨ (s ≠ 0 ∧ s ≠ 5 ∧ s ≠ 6 ∧ s ≠ 3 ∧ s ≠ 1 ∧ s ≠ 2 ∧ s ≠ 4) := by omega
  rcases hs with rfl | rfl | rfl | rfl | rfl | rfl | rfl | ⟨n0, n5, n6, n3, n1, n2, n4⟩
  · by_cases h0 : h = 0
    · subst h0
      cases r with
      | true =>
        go_enter Try.func46, Try.ntmps46
        go_wp2
        go_ret
        exact ⟨ret_bool (by simp [rowOk, *]), (Below.refl _ _).alloc (Nat.le_refl _) _⟩
      | false =>
        by_cases l0 : l = 0
        · subst l0
          go_enter Try.func46, Try.ntmps46
          go_wp2
          go_ret
          exact ⟨ret_bool (by simp [rowOk, *]), (Below.refl _ _).alloc (Nat.le_refl _) _⟩
        · have l1 : (l == 0) = false := by simpa using l0
          go_enter Try.func46, Try.ntmps46
          go_wp2
          go_ret
          exact ⟨ret_bool (by simp [rowOk, *]), (Below.refl _ _).alloc (Nat.le_refl _) _⟩
    · have h1 : (h == 0) = false := by simpa using h0
      go_enter Try.func46, Try.ntmps46
      go_wp2
      go_ret
      exact ⟨ret_bool (by simp [rowOk, *]), (Below.refl _ _).alloc (Nat.le_refl _) _⟩
  · by_cases h0 : h = 0
    · subst h0
      cases r with
      | true =>
        go_enter Try.func46, Try.ntmps46
        go_wp2
        go_ret
        exact ⟨ret_bool (by simp [rowOk, *]), (Below.refl _ _).alloc (Nat.le_refl _) _⟩
      | false =>
        by_cases l0 : l = 0
        · subst l0
          go_enter Try.func46, Try.ntmps46
          go_wp2
          go_ret
          exact ⟨ret_bool (by simp [rowOk, *]), (Below.refl _ _).alloc (Nat.le_refl _) _⟩
        · have l1 : (l == 0) = false := by simpa using l0
          go_enter Try.func46, Try.ntmps46
          go_wp2
          go_ret
          exact ⟨ret_bool (by simp [rowOk, *]), (Below.refl _ _).alloc (Nat.le_refl _) _⟩
    · have h1 : (h == 0) = false := by simpa using h0
      go_enter Try.func46, Try.ntmps46
      go_wp2
      go_ret
      exact ⟨ret_bool (by simp [rowOk, *]), (Below.refl _ _).alloc (Nat.le_refl _) _⟩
  · by_cases h0 : h = 0
    · subst h0
      cases r with
      | true =>
        go_enter Try.func46, Try.ntmps46
        go_wp2
        go_ret
        exact ⟨ret_bool (by simp [rowOk, *]), (Below.refl _ _).alloc (Nat.le_refl _) _⟩
      | false =>
        by_cases l0 : l = 0
        · subst l0
          go_enter Try.func46, Try.ntmps46
          go_wp2
          go_ret
          exact ⟨ret_bool (by simp [rowOk, *]), (Below.refl _ _).alloc (Nat.le_refl _) _⟩
        · have l1 : (l == 0) = false := by simpa using l0
          go_enter Try.func46, Try.ntmps46
          go_wp2
          go_ret
          exact ⟨ret_bool (by simp [rowOk, *]), (Below.refl _ _).alloc (Nat.le_refl _) _⟩
    · have h1 : (h == 0) = false := by simpa using h0
      go_enter Try.func46, Try.ntmps46
      go_wp2
      go_ret
      exact ⟨ret_bool (by simp [rowOk, *]), (Below.refl _ _).alloc (Nat.le_refl _) _⟩
  · by_cases h1 : 1 ≤ h
    · have h1d : ¬ (h < 1) := by omega
      by_cases h2 : h ≤ 281474976710655
      · have h2d : ¬ (281474976710655 < h) := by omega
        have hh : headOk h = true := decide_eq_true ⟨h1, h2⟩
        by_cases l1 : 0 ≤ l
        · have l1d : ¬ (l < 0) := by omega
          by_cases l2 : l ≤ P - 1
          · have l2d : ¬ (P - 1 < l) := by omega
            have hv : liveOk P l = true := decide_eq_true ⟨l1, l2⟩
            go_enter Try.func46, Try.ntmps46
            go_wp2
            go_ret
            exact ⟨ret_bool (by simp [rowOk, *]), (Below.refl _ _).alloc (Nat.le_refl _) _⟩
          · have l2d : P - 1 < l := by omega
            have hv : liveOk P l = false := decide_eq_false (by omega)
            have l3 : (l == 0) = false := by simp; omega
            go_enter Try.func46, Try.ntmps46
            go_wp2
            go_ret
            exact ⟨ret_bool (by simp [rowOk, *]), (Below.refl _ _).alloc (Nat.le_refl _) _⟩
        · have l1d : l < 0 := by omega
          have hv : liveOk P l = false := decide_eq_false (by omega)
          have l3 : (l == 0) = false := by simp; omega
          go_enter Try.func46, Try.ntmps46
          go_wp2
          go_ret
          exact ⟨ret_bool (by simp [rowOk, *]), (Below.refl _ _).alloc (Nat.le_refl _) _⟩
      · have h2d : 281474976710655 < h := by omega
        have hh : headOk h = false := decide_eq_false (by omega)
        go_enter Try.func46, Try.ntmps46
        go_wp2
        go_ret
        exact ⟨ret_bool (by simp [rowOk, *]), (Below.refl _ _).alloc (Nat.le_refl _) _⟩
    · have h1d : h < 1 := by omega
      have hh : headOk h = false := decide_eq_false (by omega)
      go_enter Try.func46, Try.ntmps46
      go_wp2
      go_ret
      exact ⟨ret_bool (by simp [rowOk, *]), (Below.refl _ _).alloc (Nat.le_refl _) _⟩
  · by_cases h1 : 1 ≤ h
    · have h1d : ¬ (h < 1) := by omega
      by_cases h2 : h ≤ 281474976710655
      · have h2d : ¬ (281474976710655 < h) := by omega
        have hh : headOk h = true := decide_eq_true ⟨h1, h2⟩
        by_cases l1 : 0 ≤ l
        · have l1d : ¬ (l < 0) := by omega
          by_cases l2 : l ≤ P - 1
          · have l2d : ¬ (P - 1 < l) := by omega
            have hv : liveOk P l = true := decide_eq_true ⟨l1, l2⟩
            cases r with
            | true =>
              go_enter Try.func46, Try.ntmps46
              go_wp2
              go_ret
              exact ⟨ret_bool (by simp [rowOk, *]), (Below.refl _ _).alloc (Nat.le_refl _) _⟩
            | false =>
              by_cases l3 : 0 < l
              ·
                go_enter Try.func46, Try.ntmps46
                go_wp2
                go_ret
                exact ⟨ret_bool (by simp [rowOk, *]), (Below.refl _ _).alloc (Nat.le_refl _) _⟩
              · have l4 : ¬ (0 < l) := l3
                go_enter Try.func46, Try.ntmps46
                go_wp2
                go_ret
                exact ⟨ret_bool (by simp [rowOk, *]), (Below.refl _ _).alloc (Nat.le_refl _) _⟩
          · have l2d : P - 1 < l := by omega
            have hv : liveOk P l = false := decide_eq_false (by omega)
            have l3 : (l == 0) = false := by simp; omega
            go_enter Try.func46, Try.ntmps46
            go_wp2
            go_ret
            exact ⟨ret_bool (by simp [rowOk, *]), (Below.refl _ _).alloc (Nat.le_refl _) _⟩
        · have l1d : l < 0 := by omega
          have hv : liveOk P l = false := decide_eq_false (by omega)
          have l3 : (l == 0) = false := by simp; omega
          go_enter Try.func46, Try.ntmps46
          go_wp2
          go_ret
          exact ⟨ret_bool (by simp [rowOk, *]), (Below.refl _ _).alloc (Nat.le_refl _) _⟩
      · have h2d : 281474976710655 < h := by omega
        have hh : headOk h = false := decide_eq_false (by omega)
        go_enter Try.func46, Try.ntmps46
        go_wp2
        go_ret
        exact ⟨ret_bool (by simp [rowOk, *]), (Below.refl _ _).alloc (Nat.le_refl _) _⟩
    · have h1d : h < 1 := by omega
      have hh : headOk h = false := decide_eq_false (by omega)
      go_enter Try.func46, Try.ntmps46
      go_wp2
      go_ret
      exact ⟨ret_bool (by simp [rowOk, *]), (Below.refl _ _).alloc (Nat.le_refl _) _⟩
  · by_cases h1 : 1 ≤ h
    · have h1d : ¬ (h < 1) := by omega
      by_cases h2 : h ≤ 281474976710655
      · have h2d : ¬ (281474976710655 < h) := by omega
        have hh : headOk h = true := decide_eq_true ⟨h1, h2⟩
        by_cases l1 : 0 ≤ l
        · have l1d : ¬ (l < 0) := by omega
          by_cases l2 : l ≤ P - 1
          · have l2d : ¬ (P - 1 < l) := by omega
            have hv : liveOk P l = true := decide_eq_true ⟨l1, l2⟩
            go_enter Try.func46, Try.ntmps46
            go_wp2
            go_ret
            exact ⟨ret_bool (by simp [rowOk, *]), (Below.refl _ _).alloc (Nat.le_refl _) _⟩
          · have l2d : P - 1 < l := by omega
            have hv : liveOk P l = false := decide_eq_false (by omega)
            have l3 : (l == 0) = false := by simp; omega
            go_enter Try.func46, Try.ntmps46
            go_wp2
            go_ret
            exact ⟨ret_bool (by simp [rowOk, *]), (Below.refl _ _).alloc (Nat.le_refl _) _⟩
        · have l1d : l < 0 := by omega
          have hv : liveOk P l = false := decide_eq_false (by omega)
          have l3 : (l == 0) = false := by simp; omega
          go_enter Try.func46, Try.ntmps46
          go_wp2
          go_ret
          exact ⟨ret_bool (by simp [rowOk, *]), (Below.refl _ _).alloc (Nat.le_refl _) _⟩
      · have h2d : 281474976710655 < h := by omega
        have hh : headOk h = false := decide_eq_false (by omega)
        go_enter Try.func46, Try.ntmps46
        go_wp2
        go_ret
        exact ⟨ret_bool (by simp [rowOk, *]), (Below.refl _ _).alloc (Nat.le_refl _) _⟩
    · have h1d : h < 1 := by omega
      have hh : headOk h = false := decide_eq_false (by omega)
      go_enter Try.func46, Try.ntmps46
      go_wp2
      go_ret
      exact ⟨ret_bool (by simp [rowOk, *]), (Below.refl _ _).alloc (Nat.le_refl _) _⟩
  · by_cases h1 : 1 ≤ h
    · have h1d : ¬ (h < 1) := by omega
      by_cases h2 : h ≤ 281474976710655
      · have h2d : ¬ (281474976710655 < h) := by omega
        have hh : headOk h = true := decide_eq_true ⟨h1, h2⟩
        by_cases l1 : 0 ≤ l
        · have l1d : ¬ (l < 0) := by omega
          by_cases l2 : l ≤ P - 1
          · have l2d : ¬ (P - 1 < l) := by omega
            have hv : liveOk P l = true := decide_eq_true ⟨l1, l2⟩
            go_enter Try.func46, Try.ntmps46
            go_wp2
            go_ret
            exact ⟨ret_bool (by simp [rowOk, *]), (Below.refl _ _).alloc (Nat.le_refl _) _⟩
          · have l2d : P - 1 < l := by omega
            have hv : liveOk P l = false := decide_eq_false (by omega)
            have l3 : (l == 0) = false := by simp; omega
            go_enter Try.func46, Try.ntmps46
            go_wp2
            go_ret
            exact ⟨ret_bool (by simp [rowOk, *]), (Below.refl _ _).alloc (Nat.le_refl _) _⟩
        · have l1d : l < 0 := by omega
          have hv : liveOk P l = false := decide_eq_false (by omega)
          have l3 : (l == 0) = false := by simp; omega
          go_enter Try.func46, Try.ntmps46
          go_wp2
          go_ret
          exact ⟨ret_bool (by simp [rowOk, *]), (Below.refl _ _).alloc (Nat.le_refl _) _⟩
      · have h2d : 281474976710655 < h := by omega
        have hh : headOk h = false := decide_eq_false (by omega)
        go_enter Try.func46, Try.ntmps46
        go_wp2
        go_ret
        exact ⟨ret_bool (by simp [rowOk, *]), (Below.refl _ _).alloc (Nat.le_refl _) _⟩
    · have h1d : h < 1 := by omega
      have hh : headOk h = false := decide_eq_false (by omega)
      go_enter Try.func46, Try.ntmps46
      go_wp2
      go_ret
      exact ⟨ret_bool (by simp [rowOk, *]), (Below.refl _ _).alloc (Nat.le_refl _) _⟩
  · have m0 : (s == 0) = false := by simpa using n0
    have m5 : (s == 5) = false := by simpa using n5
    have m6 : (s == 6) = false := by simpa using n6
    by_cases q1 : s < 1
    ·
      go_enter Try.func46, Try.ntmps46
      go_wp2
      go_ret
      exact ⟨ret_bool (by simp [rowOk, *]), (Below.refl _ _).alloc (Nat.le_refl _) _⟩
    · have q2 : 4 < s := by omega
      go_enter Try.func46, Try.ntmps46
      go_wp2
      go_ret
      exact ⟨ret_bool (by simp [rowOk, *]), (Below.refl _ _).alloc (Nat.le_refl _) _⟩

end Go.Proofs.Ytgijbpkfheillaa
