/-
  SEAT Ytjginocbbnmgaaa: all things by rising keys, pure.
-/
import Derived.Test.YtjginocbbnmgaaaToD
namespace Go.Proofs.Ytjginocbbnmgaaa
open Go.RowKit
set_option linter.unusedVariables false

theorem items_count (M : Mp) (base : Nat) : ∀ n, (items M base n).length = cnt (fun k => (M k).isSome) n
  | 0 => by simp [items, cnt]
  | n + 1 => by
    simp only [items, cnt, List.length_append]
    rw [items_count M base n]
    rcases Option.eq_none_or_eq_some (M n) with h | ⟨v, h⟩
    · simp [h]
    · simp [h]
theorem all_count (M : Mp) : (allOf M).length = num M := items_count M 0 1048576
/-- The last of the things. -/
theorem items_last (M : Mp) : ∀ n, items M 0 n = [] ∧ (∀ k, k < n → M k = none) ∨ ∃ K v pre, K < n ∧ M K = some v ∧ (∀ k, K < k → k < n → M k = none) ∧ items M 0 n = pre ++ [((K : Int), v)]
  | 0 => Or.inl ⟨rfl, fun k hk => by omega⟩
  | n + 1 => by
    simp only [items]
    cases hm : M n with
    | some v => exact Or.inr ⟨n, v, items M 0 n, by omega, hm, fun k h1 h2 => by omega, by simp⟩
    | none =>
      rcases items_last M n with ⟨h1, h2⟩ | ⟨K, v, pre, h1, h2, h3, h4⟩
      · refine Or.inl ⟨by rw [h1]; rfl, fun k hk => ?_⟩
        rcases Nat.lt_or_ge k n with q | q
        · exact h2 k q
        · obtain rfl : k = n := by omega
          exact hm
      · refine Or.inr ⟨K, v, pre, by omega, h2, fun k q1 q2 => ?_, by rw [h4]; simp⟩
        rcases Nat.lt_or_ge k n with q | q
        · exact h3 k q1 q
        · obtain rfl : k = n := by omega
          exact hm
theorem all_last (M : Mp) : allOf M = [] ∧ (∀ k, k < 1048576 → M k = none) ∨ ∃ K v pre, K < 1048576 ∧ M K = some v ∧ (∀ k, K < k → k < 1048576 → M k = none) ∧ allOf M = pre ++ [((K : Int), v)] := items_last M 1048576
/-- Two heights of one greatest key are one. -/
theorem high_one {a b K : Nat} (h1 : 0 < a ∧ K < spn a ∧ (a = 1 ∨ spn (a - 1) ≤ K)) (h2 : 0 < b ∧ K < spn b ∧ (b = 1 ∨ spn (b - 1) ≤ K)) : a = b := by
  rcases Nat.lt_trichotomy a b with q | q | q
  · rcases h2.2.2 with h | h
    · omega
    · have := spn_le (show a ≤ b - 1 by omega)
      omega
  · exact q
  · rcases h1.2.2 with h | h
    · omega
    · have := spn_le (show b ≤ a - 1 by omega)
      omega
end Go.Proofs.Ytjginocbbnmgaaa
