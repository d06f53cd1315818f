/-
  SEAT Ytmbdacdgbmpedaa: the program's Split.
-/
import Derived.Test.YtmbdacdgbmpedaaB
import Derived.Test.YtmbdacdgbmpedaaShelf
import Derived.Lib.OwnBridge
namespace Go.Proofs.Ytmbdacdgbmpedaa
open Go.RowKit Go.Sort
set_option linter.unusedVariables false

theorem index_one (c : UInt8) : ∀ s : List UInt8, Lib.index s [c] = Lib.indexByte s c
  | [] => rfl
  | b :: l => by
    rw [Lib.index, Lib.indexByte, index_one c l]
    simp only [List.isPrefixOf, Bool.and_true]
    by_cases h : b = c
    · subst h; simp
    · have h1 : (c == b) = false := by simpa using fun e : c = b => h e.symm
      have h2 : (b == c) = false := by simpa using h
      rw [h1, h2]

theorem zero9 : ∀ w, (zeroValue 9).run Try.prog w = .ok (Value.string ByteArray.empty) w := Try.zeroValue9
theorem below_drewN {B : Nat} {a w : World} (h : Below B a w) (q : Nat) : Below B a (w.drewN q) := ⟨h.os, h.tape, h.output, h.size, h.block⟩

theorem prefix_slash (s : ByteArray) : Lib.hasPrefix s.data.toList (⟨#[47]⟩ : ByteArray).data.toList = begB s := by
  unfold Lib.hasPrefix begB
  cases s.data.toList with
  | nil => rfl
  | cons b l =>
    simp [List.isPrefixOf]
    rw [Bool.eq_iff_iff]; simp only [beq_iff_eq]; exact eq_comm


end Go.Proofs.Ytmbdacdgbmpedaa
