/-
  SEAT YtgdmagmbkmgdfaaDoor: kind 3.
-/
import Derived.Test.YtgdmagmbkmgdfaaDoorCkKin
namespace Go.Proofs.YtgdmagmbkmgdfaaDoor.chk
open Go.RowKit
set_option linter.unusedVariables false

end Go.Proofs.YtgdmagmbkmgdfaaDoor.chk
