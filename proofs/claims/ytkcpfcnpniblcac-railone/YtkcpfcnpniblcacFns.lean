/-
  SEAT Ytkcpfcnpniblcac: contracts of the statements' own helpers.
-/
import Derived.Test.YtkcpfcnpniblcacBase
namespace Go.Proofs.Ytkcpfcnpniblcac
open Go.RowKit
set_option linter.unusedVariables false

theorem no_any (n : Int) (w : World) : Calls Try.prog 7 #[.int .i64 n] w fun e w' => e = .returned (.int .i64 n) ∧ w = w' := by
  go_enter Try.func7, Try.ntmps7
  go_wp2
  go_ret
  exact ⟨rfl, rfl⟩

theorem no_quiet (n : Int) (w : World) : Calls Try.prog 7 #[.int .i64 n] w fun e w' => e = .returned (.int .i64 n) ∧ w' = w :=
  (no_any n w).mono fun _ _ ⟨h1, h2⟩ => ⟨h1, h2.symm⟩
end Go.Proofs.Ytkcpfcnpniblcac
