/-
  SEAT YtgdmagmbkmgdfabDoor: the reference's Lay.
-/
import Derived.Test.YtgdmagmbkmgdfabDoorLayB
namespace Go.Proofs.YtgdmagmbkmgdfabDoor
open Go.RowKit
set_option linter.unusedVariables false

theorem and1 : ∀ k : Nat, k < 8 → ∀ n : Nat, n < 256 → bits .and .i64 (wrap64 ((n : Int) / 2 ^ k)) 1 = (n : Int) / 2 ^ k % 2 := by decide +kernel

def prV (v : Int) : Int := if v = 1 then 1 else 2
def pacc (z : Int) (half : Nat) : Nat → Int
  | 0 => 0
  | k + 1 => bits .or .u8 (pacc z half k) (prV (z / 2 ^ (4 * half + k) % 2) * 2 ^ (2 * k) % 256)

theorem pacc_eq : ∀ half : Nat, half < 2 → ∀ n : Nat, n < 256 → pacc (n : Int) half 4 = ((layN (n / 16 ^ half) : Nat) : Int) := by decide +kernel

theorem made_own (w : World) (n : Nat) (hn : n ≤ 9223372036854775807) : Own (w.alloc (.cells (madeCells #[.int .u8 0] n) 5)) w.heap.size w.heap.size 0 n [] := by
  simpa [Own] using World.ownsRow_made w (madeCells #[.int .u8 0] n) n (Nat.le_refl _) (by simp [maxLen]; omega) (by simp [madeCells])

end Go.Proofs.YtgdmagmbkmgdfabDoor
