/-
  SEAT YtgdmagmbkmgdfaaDoor: kind 4, the reference.
-/
import Derived.Test.YtgdmagmbkmgdfaaDoorCkKinS
namespace Go.Proofs.YtgdmagmbkmgdfaaDoor.chk
open Go.RowKit
set_option linter.unusedVariables false

end Go.Proofs.YtgdmagmbkmgdfaaDoor.chk
