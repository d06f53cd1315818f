/-
  SEAT YtgdmagmbkmgdfabDoor: the reference's low, fits.
-/
import Derived.Test.YtgdmagmbkmgdfabDoorPa
import Derived.Test.YtgdmagmbkmgdfabDoorRdW
namespace Go.Proofs.YtgdmagmbkmgdfabDoor
open Go.RowKit
set_option linter.unusedVariables false

def lowL (v : Int) (n : Nat) : List Int := (List.range n).map (fun i => v / 256 ^ i % 256)
theorem lowL_length (v : Int) (n : Nat) : (lowL v n).length = n := by simp [lowL]
theorem lowL_succ (v : Int) (n : Nat) : lowL v (n + 1) = lowL v n ++ [v / 256 ^ n % 256] := by simp [lowL, List.range_succ]
theorem lowL_range (v : Int) (n : Nat) : ∀ x ∈ lowL v n, 0 ≤ x ∧ x ≤ 255 := by
  intro x hx
  obtain ⟨i, _, rfl⟩ := List.mem_map.1 hx
  omega

end Go.Proofs.YtgdmagmbkmgdfabDoor
