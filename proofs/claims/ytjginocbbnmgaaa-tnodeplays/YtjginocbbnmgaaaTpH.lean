/-
  SEAT Ytjginocbbnmgaaa: the things by rising keys, and what Put and Drop make of them.
-/
import Derived.Test.YtjginocbbnmgaaaTpG
namespace Go.Proofs.Ytjginocbbnmgaaa
open Go.RowKit
set_option linter.unusedVariables false

def ent (M : Mp) (k : Nat) : List (Int × Int) := match M k with | none => [] | some v => [((k : Int), v)]
theorem ent_some {M : Mp} {k : Nat} {v : Int} (h : M k = some v) : ent M k = [((k : Int), v)] := by simp [ent, h]
theorem ent_none {M : Mp} {k : Nat} (h : M k = none) : ent M k = [] := by simp [ent, h]
theorem items_congr {M M' : Mp} (base : Nat) : ∀ n, (∀ j, j < n → M j = M' j) → items M base n = items M' base n
  | 0, _ => rfl
  | n + 1, h => by
    simp only [items]
    rw [items_congr base n (fun j hj => h j (by omega)), h n (by omega)]
theorem items_keys {M : Mp} {base : Nat} : ∀ {n : Nat} {p : Int × Int}, p ∈ items M base n → (base : Int) ≤ p.1 ∧ p.1 < (base : Int) + (n : Int)
  | 0, p, h => by cases h
  | n + 1, p, h => by
    simp only [items, List.mem_append] at h
    rcases h with h | h
    · have := items_keys h
      omega
    · cases hm : M n with
      | none => rw [hm] at h; cases h
      | some v =>
        rw [hm] at h
        simp at h
        subst h
        simp
        omega
theorem items_split (M : Mp) {n k : Nat} (hk : k < n) : ∃ lo hi : List (Int × Int), (∀ p ∈ lo, p.1 < (k : Int)) ∧ (∀ p ∈ hi, (k : Int) < p.1) ∧ ∀ M' : Mp, (∀ j, j ≠ k → M' j = M j) → items M' 0 n = lo ++ (ent M' k ++ hi) := by
  obtain ⟨r, rfl⟩ : ∃ r, n = k + (1 + r) := ⟨n - k - 1, by omega⟩
  refine ⟨items M 0 k, items (fun j => M (k + (1 + j))) (0 + k + 1) r, fun p hp => by have := items_keys hp; omega, fun p hp => by have := items_keys hp; omega, fun M' h => ?_⟩
  rw [items_add, items_add]
  congr 1
  · exact items_congr 0 k fun j hj => h j (by omega)
  · congr 1
    · unfold ent
      simp only [items, List.nil_append, Nat.add_zero]
      cases M' k with
      | none => rfl
      | some v => simp
    · exact items_congr _ r fun j hj => h _ (by omega)
/-- The things of a tree about a key. -/
theorem all_split (M : Mp) {k : Nat} (hk : k < 1048576) : ∃ lo hi : List (Int × Int), (∀ p ∈ lo, p.1 < (k : Int)) ∧ (∀ p ∈ hi, (k : Int) < p.1) ∧ ∀ M' : Mp, (∀ j, j ≠ k → M' j = M j) → allOf M' = lo ++ (ent M' k ++ hi) := by
  obtain ⟨n, hn⟩ : ∃ n, 1048576 = n := ⟨_, rfl⟩
  unfold allOf
  rw [hn] at hk ⊢
  exact items_split M hk
/-- The place of a key is behind what is below it. -/
theorem place_split {lo mid hi : List (Int × Int)} {k : Int} (h1 : ∀ p ∈ lo, p.1 < k) (h2 : ∀ p ∈ mid ++ hi, k ≤ p.1) {i : Nat} (h : PlaceIs (lo ++ (mid ++ hi)) k i) : i = lo.length := by
  obtain ⟨hl, ha, hb⟩ := h
  rcases Nat.lt_trichotomy i lo.length with q | q | q
  · exfalso
    have hlt : i < (lo ++ (mid ++ hi)).length := by rw [List.length_append]; omega
    have := hb hlt
    rw [List.getD_eq_getElem?_getD, List.getElem?_append_left q, List.getElem?_eq_getElem q] at this
    have h3 := h1 lo[i] (List.getElem_mem q)
    simp at this
    omega
  · exact q
  · exfalso
    have hlt : lo.length < (lo ++ (mid ++ hi)).length := by omega
    have h4 : 0 < (mid ++ hi).length := by rw [List.length_append] at hlt; omega
    have := ha lo.length q
    rw [List.getD_eq_getElem?_getD, List.getElem?_append_right (Nat.le_refl _), Nat.sub_self, List.getElem?_eq_getElem h4] at this
    have h3 := h2 (mid ++ hi)[0] (List.getElem_mem h4)
    simp at this
    omega
theorem hasK_at {lo hi : List (Int × Int)} {k v : Int} : hasK (lo ++ ([(k, v)] ++ hi)) k lo.length = true := by
  unfold hasK
  rw [decide_eq_true_iff]
  refine ⟨by simp, ?_⟩
  rw [List.getD_eq_getElem?_getD, List.getElem?_append_right (Nat.le_refl _), Nat.sub_self]
  rfl
theorem hasK_not {lo hi : List (Int × Int)} {k : Int} (h2 : ∀ p ∈ hi, k < p.1) : hasK (lo ++ ([] ++ hi)) k lo.length = false := by
  unfold hasK
  rw [decide_eq_false_iff_not]
  rintro ⟨h, e⟩
  rw [List.nil_append] at h e
  have h4 : 0 < hi.length := by rw [List.length_append] at h; omega
  rw [List.getD_eq_getElem?_getD, List.getElem?_append_right (Nat.le_refl _), Nat.sub_self, List.getElem?_eq_getElem h4] at e
  have := h2 hi[0] (List.getElem_mem h4)
  simp at e
  omega
theorem erase_split {lo hi : List (Int × Int)} {p : Int × Int} : (lo ++ ([p] ++ hi)).eraseIdx lo.length = lo ++ ([] ++ hi) := by
  rw [List.eraseIdx_append_of_length_le (Nat.le_refl _), Nat.sub_self]
  rfl
theorem ins_split {lo hi : List (Int × Int)} {p : Int × Int} : insI (lo ++ ([] ++ hi)) lo.length p (lo ++ ([] ++ hi)).length = lo ++ ([p] ++ hi) := by
  unfold insI
  rw [List.take_length, List.nil_append, List.take_left, List.drop_left]
  rfl
theorem set_split {lo hi : List (Int × Int)} {p q : Int × Int} : (lo ++ ([p] ++ hi)).set lo.length q = lo ++ ([q] ++ hi) := by
  rw [List.set_append_right _ _ (Nat.le_refl _), Nat.sub_self]
  rfl
end Go.Proofs.Ytjginocbbnmgaaa
