/-
  SEAT Ytkcpfcnpniblcab: three closed facts over pairs of bytes.
-/
import Derived.Test.YtkcpfcnpniblcabOnes
namespace Go.Proofs.Ytkcpfcnpniblcab

theorem compl_and : ∀ o : Nat, o < 256 → ∀ y : Nat, y < 256 → (o &&& y) &&& (255 - o) = 0 := by decide +kernel
theorem or_compl : ∀ o : Nat, o < 256 → ∀ y : Nat, y < 256 → o &&& (255 - (o ||| y)) = 0 := by decide +kernel
theorem zbits : ∀ x : Nat, x < 256 → ∀ y : Nat, y < 256 → popN x 8 ≤ popN (x ||| y) 8 ∧ (popN (x ||| y) 8 = popN x 8 → x ||| y = x) := by decide +kernel

end Go.Proofs.Ytkcpfcnpniblcab
