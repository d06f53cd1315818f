/-
  SEAT YtdiifegljonojaaGreatDoor: data, cut into stretches.
-/
import Derived.Test.YtdiifegljonojaaGreatDoorWc
import Derived.Test.YtdiifegljonojaaGreatDoorMa
namespace Go.Proofs.YtdiifegljonojaaGreatDoor
open Go.RowKit
set_option linter.unusedVariables false

/-- A stretch of data. -/
structure Sr where
  pos : Nat
  len : Nat
  hole : Bool
theorem fhAt_ge {zs : List Int} {k : Nat} (h : k ≤ zs.length) : k ≤ fhAt zs k := by unfold fhAt; omega
/-- Where the first hole from k on ends. -/
def enAt (zs : List Int) (k : Nat) : Nat := fhAt zs k + zrs (zs.drop (fhAt zs k))
theorem enAt_le (zs : List Int) (k : Nat) : enAt zs k ≤ zs.length := by
  have h1 := fhAt_le zs k
  have h2 := zrs_le (zs.drop (fhAt zs k))
  rw [List.length_drop] at h2
  unfold enAt
  omega
theorem enAt_gt {zs : List Int} {k : Nat} (h : k < zs.length) : k < enAt zs k := by
  have h1 := fhAt_ge (Nat.le_of_lt h)
  by_cases h2 : k < fhAt zs k
  · unfold enAt; omega
  · have h3 : fhAt zs k = k := by omega
    have h4 : fhN (zs.drop k) = 0 := by unfold fhAt at h3; omega
    have h5 : 16 ≤ zrs (zs.drop k) := by
      rw [List.drop_eq_getElem_cons h] at h4 ⊢
      rw [fhN] at h4
      split at h4
      · assumption
      · omega
    unfold enAt
    rw [h3]
    omega
def cutF (zs : List Int) : Nat → Nat → List Sr
  | 0, _ => []
  | f + 1, k => if k < zs.length then (if k < fhAt zs k then [⟨k, fhAt zs k - k, false⟩] else []) ++ (if fhAt zs k < enAt zs k then [⟨fhAt zs k, enAt zs k - fhAt zs k, true⟩] else []) ++ cutF zs f (enAt zs k) else []
theorem cutF_fuel (zs : List Int) : ∀ (f k : Nat), zs.length - k ≤ f → cutF zs f k = cutF zs (zs.length - k) k
  | 0, k, h => by rw [show zs.length - k = 0 by omega]
  | f + 1, k, h => by
    by_cases hk : k < zs.length
    · obtain ⟨g, hg⟩ : ∃ g, zs.length - k = g + 1 := ⟨zs.length - k - 1, by omega⟩
      have he := enAt_gt hk
      rw [hg, cutF, cutF, if_pos hk, if_pos hk, cutF_fuel zs f (enAt zs k) (by omega)]
      congr 1
      by_cases hgf : g = f
      · subst hgf; exact (cutF_fuel zs g (enAt zs k) (by omega)).symm
      · exact (cutF_fuel zs g (enAt zs k) (by omega)).symm
    · rw [show zs.length - k = 0 by omega]; simp [cutF, hk]
/-- The stretches from k on. -/
def cutsFrom (zs : List Int) (k : Nat) : List Sr := cutF zs (zs.length - k) k
theorem cuts_step {zs : List Int} {k : Nat} (h : k < zs.length) : cutsFrom zs k = (if k < fhAt zs k then [⟨k, fhAt zs k - k, false⟩] else []) ++ (if fhAt zs k < enAt zs k then [⟨fhAt zs k, enAt zs k - fhAt zs k, true⟩] else []) ++ cutsFrom zs (enAt zs k) := by
  obtain ⟨g, hg⟩ : ∃ g, zs.length - k = g + 1 := ⟨zs.length - k - 1, by omega⟩
  have he := enAt_gt h
  unfold cutsFrom
  rw [hg, cutF, if_pos h, cutF_fuel zs g (enAt zs k) (by omega)]
theorem cuts_end {zs : List Int} {k : Nat} (h : zs.length ≤ k) : cutsFrom zs k = [] := by
  unfold cutsFrom
  rw [show zs.length - k = 0 by omega]; rfl
def cuts (zs : List Int) : List Sr := cutsFrom zs 0
theorem cutF_ok (zs : List Int) : ∀ (f k : Nat), ∀ s ∈ cutF zs f k, s.pos + s.len ≤ zs.length ∧ 0 < s.len
  | 0, k, s, h => by cases h
  | f + 1, k, s, h => by
    rw [cutF] at h
    split at h
    · have h1 := fhAt_le zs k
      have h2 := enAt_le zs k
      rename_i hk
      have h3 := fhAt_ge (Nat.le_of_lt hk)
      rcases List.mem_append.1 h with h | h
      · rcases List.mem_append.1 h with h | h
        · split at h
          · rw [List.mem_singleton.1 h]; simp only; omega
          · cases h
        · split at h
          · rw [List.mem_singleton.1 h]; simp only; omega
          · cases h
      · exact cutF_ok zs f _ s h
    · cases h
theorem cuts_ok {zs : List Int} {s : Sr} (h : s ∈ cuts zs) : s.pos + s.len ≤ zs.length ∧ 0 < s.len := cutF_ok zs _ _ s h
theorem cutF_len (zs : List Int) : ∀ (f k : Nat), (cutF zs f k).length ≤ zs.length - k
  | 0, k => Nat.zero_le _
  | f + 1, k => by
    rw [cutF]
    split
    · rename_i hk
      have h1 := fhAt_ge (Nat.le_of_lt hk)
      have h2 := enAt_gt hk
      have h3 := enAt_le zs k
      have h4 := cutF_len zs f (enAt zs k)
      rw [List.length_append, List.length_append]
      have h5 : (if k < fhAt zs k then [(⟨k, fhAt zs k - k, false⟩ : Sr)] else []).length = if k < fhAt zs k then 1 else 0 := by split <;> rfl
      have h6 : (if fhAt zs k < enAt zs k then [(⟨fhAt zs k, enAt zs k - fhAt zs k, true⟩ : Sr)] else []).length = if fhAt zs k < enAt zs k then 1 else 0 := by split <;> rfl
      rw [h5, h6]
      split <;> split <;> omega
    · simp
theorem cuts_len (zs : List Int) : (cuts zs).length ≤ zs.length := by have := cutF_len zs (zs.length - 0) 0; exact Nat.le_trans this (Nat.sub_le _ _)
/-- A stretch as it is laid. -/
def encR (zs : List Int) (s : Sr) : List Int := numL 1 (if s.hole then 0 else 1) ++ numL 4 (s.len : Int) ++ (if s.hole then [] else (zs.drop s.pos).take s.len)
def encD (zs : List Int) : List Int := numL 4 (zs.length : Int) ++ (cuts zs).flatMap (encR zs)
theorem encR_len {zs : List Int} {s : Sr} (h : s.pos + s.len ≤ zs.length) : (encR zs s).length ≤ 5 + zs.length := by
  unfold encR
  rw [List.length_append, List.length_append, numL_length, numL_length]
  split
  · simp
  · rw [List.length_take, List.length_drop]; omega
theorem flat_len {zs : List Int} : ∀ (l : List Sr), (∀ s ∈ l, s.pos + s.len ≤ zs.length) → (l.flatMap (encR zs)).length ≤ l.length * (5 + zs.length)
  | [], _ => by simp
  | s :: r, h => by
    have h1 := encR_len (h s (by simp))
    have h2 := flat_len r (fun x hx => h x (by simp [hx]))
    rw [List.flatMap_cons, List.length_append, List.length_cons, Nat.succ_mul]
    omega
theorem fhN_atW : ∀ (b : List Int), fhN b < b.length → 16 ≤ zrs (b.drop (fhN b))
  | [], h => by cases h
  | x :: r, h => by
    rw [fhN] at h ⊢
    by_cases hz : 16 ≤ zrs (x :: r)
    · rw [if_pos hz]; exact hz
    · rw [if_neg hz] at h ⊢
      rw [List.length_cons] at h
      exact fhN_atW r (by omega)
theorem at_holeW {zs : List Int} {k : Nat} (h : k ≤ zs.length) (h1 : fhAt zs k < zs.length) : 16 ≤ zrs (zs.drop (fhAt zs k)) := by
  have he : fhAt zs k = k + fhN (zs.drop k) := by
    have := fhN_le (zs.drop k)
    rw [List.length_drop] at this
    unfold fhAt
    omega
  rw [he] at h1 ⊢
  rw [← List.drop_drop]
  exact fhN_atW (zs.drop k) (by rw [List.length_drop]; omega)
/-- Few stretches are many bytes. -/
theorem cutF_few (zs : List Int) : ∀ (f k : Nat), k ≤ zs.length → 8 * (cutF zs f k).length ≤ (zs.length - k) + 8
  | 0, k, _ => by simp [cutF]
  | f + 1, k, hk => by
    rw [cutF]
    split
    · rename_i hlt
      have h3 := enAt_le zs k
      have h4 := cutF_few zs f (enAt zs k) h3
      have h5 := fhAt_le zs k
      have h1 := fhAt_ge hk
      rw [List.length_append, List.length_append]
      have a1 : (if k < fhAt zs k then [(⟨k, fhAt zs k - k, false⟩ : Sr)] else []).length ≤ 1 := by split <;> simp
      by_cases hh : fhAt zs k < zs.length
      · have h16 := at_holeW hk hh
        have he : enAt zs k = fhAt zs k + zrs (zs.drop (fhAt zs k)) := rfl
        have a2 : (if fhAt zs k < enAt zs k then [(⟨fhAt zs k, enAt zs k - fhAt zs k, true⟩ : Sr)] else []).length ≤ 1 := by split <;> simp
        omega
      · have he : enAt zs k = zs.length := by have : fhAt zs k ≤ enAt zs k := by { unfold enAt; omega }; omega
        have hr : cutF zs f (enAt zs k) = [] := by
          cases f with
          | zero => rfl
          | succ f => rw [cutF, if_neg (by omega)]
        have a2 : (if fhAt zs k < enAt zs k then [(⟨fhAt zs k, enAt zs k - fhAt zs k, true⟩ : Sr)] else []) = [] := if_neg (by omega)
        rw [a2, hr]
        simp only [List.length_nil]
        omega
    · simp
theorem cuts_few (zs : List Int) : 8 * (cuts zs).length ≤ zs.length + 8 := cutF_few zs (zs.length - 0) 0 (Nat.zero_le _)
end Go.Proofs.YtdiifegljonojaaGreatDoor
