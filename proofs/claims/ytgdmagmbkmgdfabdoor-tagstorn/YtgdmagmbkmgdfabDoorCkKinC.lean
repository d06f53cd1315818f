/-
  SEAT YtgdmagmbkmgdfabDoor: kind 3.
-/
import Derived.Test.YtgdmagmbkmgdfabDoorCkKin
namespace Go.Proofs.YtgdmagmbkmgdfabDoor.chk
open Go.RowKit
set_option linter.unusedVariables false

end Go.Proofs.YtgdmagmbkmgdfabDoor.chk
