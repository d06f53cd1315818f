/-
  SEAT YtgdmagmbkmgdfabDoor: kind 4; saveFlags.
-/
import Derived.Test.YtgdmagmbkmgdfabDoorCkKin
namespace Go.Proofs.YtgdmagmbkmgdfabDoor.chk
open Go.RowKit
set_option linter.unusedVariables false

set_option maxHeartbeats 1000000 in
theorem saveFlags_e (k f s b o c n z : Int) (w : World) (h0 : 1 ≤ o) (h1 : o ≤ 65536) (h : c = o - 1) : Calls Tryd.prog 34 #[.agg #[.int .i64 k, .int .i64 f, .int .u64 s, .int .u64 b, .int .i64 o, .int .i64 c, .int .i64 n, .int .i64 z]] w fun e w' => e = .returned (.int .i64 4) ∧ Below w.heap.size w w' := by
  subst h
  go_enter Tryd.func34, Tryd.ntmps34
  go_wp2
  go_ret
  exact ⟨rfl, (Below.refl _ _).alloc (Nat.le_refl _) _⟩

set_option maxHeartbeats 1000000 in
theorem saveFlags_n (k f s b o c n z : Int) (w : World) (h0 : 1 ≤ o) (h1 : o ≤ 65536) (h : c ≠ o - 1) : Calls Tryd.prog 34 #[.agg #[.int .i64 k, .int .i64 f, .int .u64 s, .int .u64 b, .int .i64 o, .int .i64 c, .int .i64 n, .int .i64 z]] w fun e w' => e = .returned (.int .i64 0) ∧ Below w.heap.size w w' := by
  go_enter Tryd.func34, Tryd.ntmps34
  go_wp2
  go_ret
  exact ⟨rfl, (Below.refl _ _).alloc (Nat.le_refl _) _⟩
end Go.Proofs.YtgdmagmbkmgdfabDoor.chk
