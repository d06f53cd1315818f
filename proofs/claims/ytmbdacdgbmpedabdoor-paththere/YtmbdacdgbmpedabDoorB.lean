/-
  SEAT YtmbdacdgbmpedabDoor: the reference's Split.
-/
import Derived.Test.YtmbdacdgbmpedabDoorA
namespace Go.Proofs.YtmbdacdgbmpedabDoor
open Go.RowKit
set_option linter.unusedVariables false

theorem any_long {xs : List ByteArray} : xs.any longB = true ↔ ∃ k, ∃ h : k < xs.length, 63 < (xs[k]).size := by
  constructor
  · intro h
    obtain ⟨x, hx, hl⟩ := List.any_eq_true.1 h
    obtain ⟨k, hk, rfl⟩ := List.mem_iff_getElem.1 hx
    exact ⟨k, hk, of_decide_eq_true hl⟩
  · rintro ⟨k, hk, hl⟩
    exact List.any_eq_true.2 ⟨_, List.getElem_mem hk, decide_eq_true hl⟩

/-- How a text begins. -/
theorem beg_ways (s : ByteArray) : (begB s = false ∧ s.toList = []) ∨ (∃ h : 0 < s.size, begB s = false ∧ ¬ s.toList = [] ∧ (s[0].toNat : Int) ≠ 47) ∨ (∃ h : 0 < s.size, begB s = true ∧ ¬ s.toList = [] ∧ s[0].toNat = 47) := by
  rw [toList_data]
  unfold begB
  by_cases h : 0 < s.size
  · have hb := byte_data s 0 h
    have hh : s.data.toList.head? = some s[0] := by rw [List.head?_eq_getElem?, hb]
    have hne : ¬ s.data.toList = [] := fun e => by rw [e] at hb; cases hb
    by_cases h47 : s[0] = 47
    · right; right
      exact ⟨h, by rw [hh, h47]; rfl, hne, by rw [h47]; rfl⟩
    · right; left
      refine ⟨h, by rw [hh]; simpa using h47, hne, fun e => h47 (UInt8.toNat_inj.1 ?_)⟩
      have : s[0].toNat = 47 := by omega
      rw [this]; rfl
  · left
    have : s.data.toList = [] := List.eq_nil_of_length_eq_zero (by rw [← Lib.size_eq]; omega)
    exact ⟨by rw [this]; rfl, this⟩

end Go.Proofs.YtmbdacdgbmpedabDoor
