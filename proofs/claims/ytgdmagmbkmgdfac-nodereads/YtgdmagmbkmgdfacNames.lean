/-
  SEAT Ytgdmagmbkmgdfac: the walk of NodeNames.
-/
import Derived.Test.YtgdmagmbkmgdfacBase
namespace Go.Proofs.Ytgdmagmbkmgdfac
open Go.RowKit
set_option linter.unusedVariables false

theorem nameE_bad {s : ByteArray} (h : HasB s 0 = true ∨ HasB s 47 = true) : nameE s = 81 := by
  rcases h with h | h <;> simp [nameE, Good, h]

theorem name_slash (s : ByteArray) : nameE ((⟨#[97, 47]⟩ : ByteArray) ++ s) = 81 := nameE_bad (Or.inr (by simp [HasB]))
theorem name_zero (s : ByteArray) : nameE (s ++ (⟨#[0]⟩ : ByteArray)) = 81 := nameE_bad (Or.inl (by simp [HasB]))
theorem name_dots : nameE (⟨#[46, 46, 46]⟩ : ByteArray) = 0 := by decide +kernel

set_option maxHeartbeats 1000000 in
theorem namesWalk (s : ByteArray) (w : World) (hs : s.size ≤ 140737488351232) : Calls Try.prog 3 #[.string s] w fun e w' => e = .returned (.bool true) ∧ Below w.heap.size w w' := by
  obtain ⟨m, hm⟩ : ∃ m, nameE s = m := ⟨_, rfl⟩
  have s1 : ((⟨#[97, 47]⟩ : ByteArray) ++ s).size ≤ 9223372036854775807 := by
    rw [ByteArray.size_append]
    have : (⟨#[97, 47]⟩ : ByteArray).size = 2 := rfl
    omega
  have s2 : (s ++ (⟨#[0]⟩ : ByteArray)).size ≤ 9223372036854775807 := by
    rw [ByteArray.size_append]
    have : (⟨#[0]⟩ : ByteArray).size = 1 := rfl
    omega
  have s3 : (⟨#[46, 46, 46]⟩ : ByteArray).size ≤ 9223372036854775807 := by decide
  have s0 : s.size ≤ 9223372036854775807 := by omega
  have z1 := name_slash s
  have z2 := name_zero s
  have z3 := name_dots
  go_enter Try.func3, Try.ntmps3
  go_wp2_with (first
    | (go_at_call 8; refine (name_any _ _ ?_).mono ?_; (first | exact s0 | exact s1 | exact s2 | exact s3); rintro e u ⟨rfl, rfl⟩; first | rw [hm] | rw [z1] | rw [z2] | rw [z3])
    | (go_at_call 9; refine (rname_any _ _ s0).mono ?_; rintro e u ⟨rfl, rfl⟩; rw [hm]))
  go_ret
  exact ⟨ret_bool (by simp), Below.refl _ _⟩
end Go.Proofs.Ytgdmagmbkmgdfac
