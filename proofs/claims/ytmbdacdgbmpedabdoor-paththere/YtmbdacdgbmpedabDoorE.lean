/-
  SEAT YtmbdacdgbmpedabDoor: Within.
-/
import Derived.Test.YtmbdacdgbmpedabDoorD
namespace Go.Proofs.YtmbdacdgbmpedabDoor
open Go.RowKit
set_option linter.unusedVariables false

/-- What Within tells. -/
def preB (M L : List ByteArray) : Bool := decide (L.take M.length = M)
def wiE (s t : ByteArray) : Int := if spE s = 0 then (if spE t = 0 then (if (trim (spN s)).any upB || (trim (spN t)).any upB then 160 else 0) else spE t) else spE s
def wiB (s t : ByteArray) : Bool := decide (wiE s t = 0) && preB (trim (spN t)) (trim (spN s))

theorem toList_inj {x y : ByteArray} (h : x.toList = y.toList) : x = y := by
  rw [toList_data, toList_data] at h
  rw [← byteOf_data x, h, byteOf_data]

end Go.Proofs.YtmbdacdgbmpedabDoor
