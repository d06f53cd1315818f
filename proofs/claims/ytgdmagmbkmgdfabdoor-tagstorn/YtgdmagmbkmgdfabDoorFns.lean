/-
  SEAT YtgdmagmbkmgdfabDoor: contracts of the statements' own helpers.
-/
import Derived.Test.YtgdmagmbkmgdfabDoorBase
namespace Go.Proofs.YtgdmagmbkmgdfabDoor
open Go.RowKit
set_option linter.unusedVariables false

theorem no_any (n : Int) (w : World) : Calls Tryd.prog 7 #[.int .i64 n] w fun e w' => e = .returned (.int .i64 n) ∧ w = w' := by
  go_enter Tryd.func7, Tryd.ntmps7
  go_wp2
  go_ret
  exact ⟨rfl, rfl⟩

theorem no_quiet (n : Int) (w : World) : Calls Tryd.prog 7 #[.int .i64 n] w fun e w' => e = .returned (.int .i64 n) ∧ w' = w :=
  (no_any n w).mono fun _ _ ⟨h1, h2⟩ => ⟨h1, h2.symm⟩
end Go.Proofs.YtgdmagmbkmgdfabDoor
