/-
  SEAT YtgdmagmbkmgdfabDoor: kind 4: what is refused ahead of its flags.
-/
import Derived.Test.YtgdmagmbkmgdfabDoorCkKin
namespace Go.Proofs.YtgdmagmbkmgdfabDoor.chk
open Go.RowKit
set_option linter.unusedVariables false

set_option maxHeartbeats 2000000 in
theorem kind4_o (f s b o c n z : Int) (w : World) (h : o < 1 ∨ 65536 < o) : Calls Tryd.prog 24 #[.agg #[.int .i64 4, .int .i64 f, .int .u64 s, .int .u64 b, .int .i64 o, .int .i64 c, .int .i64 n, .int .i64 z]] w fun e w' => e = .returned (.bool (Kin 4 f o c n)) ∧ Below w.heap.size w w' := by
  go_enter Tryd.func24, Tryd.ntmps24
  go_wp2
  go_quiet (first
      | (go_at_call 32; refine Calls.quiet_of_same ((within_t _ _ _ _ ?_ ?_).mono fun e u h => ⟨h.1, h.2.symm⟩) <;> omega)
      | (go_at_call 32; refine Calls.quiet_of_same ((within_f _ _ _ _ ?_).mono fun e u h => ⟨h.1, h.2.symm⟩); omega))
  go_wp2
  go_ret
  exact ⟨ret_bool (decide_eq_false (by omega)).symm, (let k := (Below.refl w.heap.size w).alloc (Nat.le_refl _) _; ⟨k.os, k.tape, k.output, k.size, k.block⟩)⟩

set_option maxHeartbeats 2000000 in
theorem kind4_c (f s b o c n z : Int) (w : World) (h0 : 1 ≤ o) (h1 : o ≤ 65536) (h : c < 0 ∨ o - 1 < c) : Calls Tryd.prog 24 #[.agg #[.int .i64 4, .int .i64 f, .int .u64 s, .int .u64 b, .int .i64 o, .int .i64 c, .int .i64 n, .int .i64 z]] w fun e w' => e = .returned (.bool (Kin 4 f o c n)) ∧ Below w.heap.size w w' := by
  go_enter Tryd.func24, Tryd.ntmps24
  go_wp2
  go_quiet (first
      | (go_at_call 32; refine Calls.quiet_of_same ((within_t _ _ _ _ ?_ ?_).mono fun e u h => ⟨h.1, h.2.symm⟩) <;> omega)
      | (go_at_call 32; refine Calls.quiet_of_same ((within_f _ _ _ _ ?_).mono fun e u h => ⟨h.1, h.2.symm⟩); omega))
  go_wp2
  go_ret
  exact ⟨ret_bool (decide_eq_false (by omega)).symm, (let k := (Below.refl w.heap.size w).alloc (Nat.le_refl _) _; ⟨k.os, k.tape, k.output, k.size, k.block⟩)⟩
end Go.Proofs.YtgdmagmbkmgdfabDoor.chk
