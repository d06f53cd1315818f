/-
  SEAT YtgdmagmbkmgdfabDoor: kept, Same, high.
-/
import Derived.Test.YtgdmagmbkmgdfabDoorWd
namespace Go.Proofs.YtgdmagmbkmgdfabDoor
open Go.RowKit
set_option linter.unusedVariables false

/-- Tags, by value. -/
abbrev T8 (k f s b o c n z : Int) : Value := .agg #[.int .i64 k, .int .i64 f, .int .u64 s, .int .u64 b, .int .i64 o, .int .i64 c, .int .i64 n, .int .i64 z]

set_option maxHeartbeats 400000 in
theorem same8 (k f s b o c n z : Int) (w : World) : Calls Tryd.prog 13 #[T8 k f s b o c n z, T8 k f s b o c n z] w fun e w' => e = .returned (.bool true) ∧ Below w.heap.size w w' := by
  go_enter Tryd.func13, Tryd.ntmps13
  go_wp2
  go_ret
  exact ⟨rfl, ((Below.refl _ _).alloc (Nat.le_refl _) _).alloc (by simp) _⟩

/-- The number in m bytes from place t on, the highest first. -/
theorem getL_cons (zs : List Int) (t m : Nat) : getL zs t (m + 1) = zs.getD t 0 + 256 * getL zs (t + 1) m := by
  induction m with
  | zero => simp [getL]
  | succ m ih =>
    have e1 : getL zs t (m + 1 + 1) = getL zs t (m + 1) + zs.getD (t + (m + 1)) 0 * 256 ^ (m + 1) := rfl
    have e2 : getL zs (t + 1) (m + 1) = getL zs (t + 1) m + zs.getD (t + 1 + m) 0 * 256 ^ m := rfl
    rw [e1, e2, ih, show t + 1 + m = t + (m + 1) by omega, Int.pow_succ, Int.mul_add]
    have : zs.getD (t + (m + 1)) 0 * (256 ^ m * 256) = 256 * (zs.getD (t + (m + 1)) 0 * 256 ^ m) := by
      rw [Int.mul_comm (256 ^ m) 256, ← Int.mul_assoc, ← Int.mul_assoc, Int.mul_comm (zs.getD (t + (m + 1)) 0) 256]
    rw [this]
    omega

theorem hstep {q z : Int} {m : Nat} (hm : m < 8) (hq0 : 0 ≤ q) (hq : q < 256 ^ m) (hz0 : 0 ≤ z) (hz1 : z ≤ 255) :
    IntKind.u64.wrap (IntKind.u64.wrap (q * 256) + z) = q * 256 + z ∧ 0 ≤ q * 256 + z ∧ q * 256 + z < 256 ^ (m + 1) := by
  have h1 : (256 : Int) ^ (m + 1) ≤ 256 ^ 8 := pow256_le (by omega)
  have h2 : (256 : Int) ^ 8 = 18446744073709551616 := by decide
  have h3 : (256 : Int) ^ (m + 1) = 256 ^ m * 256 := Int.pow_succ ..
  rw [IntKind.wrap_u64, IntKind.wrap_u64, Int.emod_eq_of_lt (a := q * 256) (by omega) (by omega), Int.emod_eq_of_lt (by omega) (by omega)]
  omega

end Go.Proofs.YtgdmagmbkmgdfabDoor
