/-
  SEAT YtgdmagmbkmgdfabDoor: kind 4, the reference.
-/
import Derived.Test.YtgdmagmbkmgdfabDoorCkKinS
namespace Go.Proofs.YtgdmagmbkmgdfabDoor.chk
open Go.RowKit
set_option linter.unusedVariables false

end Go.Proofs.YtgdmagmbkmgdfabDoor.chk
