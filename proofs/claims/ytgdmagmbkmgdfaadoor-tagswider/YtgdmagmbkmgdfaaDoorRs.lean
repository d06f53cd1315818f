/-
  SEAT YtgdmagmbkmgdfaaDoor: kept, Same, high.
-/
import Derived.Test.YtgdmagmbkmgdfaaDoorWd
namespace Go.Proofs.YtgdmagmbkmgdfaaDoor
open Go.RowKit
set_option linter.unusedVariables false

/-- Tags, by value. -/
abbrev T8 (k f s b o c n z : Int) : Value := .agg #[.int .i64 k, .int .i64 f, .int .u64 s, .int .u64 b, .int .i64 o, .int .i64 c, .int .i64 n, .int .i64 z]

set_option maxHeartbeats 400000 in
theorem same8 (k f s b o c n z : Int) (w : World) : Calls Tryd.prog 12 #[T8 k f s b o c n z, T8 k f s b o c n z] w fun e w' => e = .returned (.bool true) ∧ Below w.heap.size w w' := by
  go_enter Tryd.func12, Tryd.ntmps12
  go_wp2
  go_ret
  exact ⟨rfl, ((Below.refl _ _).alloc (Nat.le_refl _) _).alloc (by simp) _⟩

/-- The number in m bytes from place t on, the highest first. -/
theorem getL_cons (zs : List Int) (t m : Nat) : getL zs t (m + 1) = zs.getD t 0 + 256 * getL zs (t + 1) m := by
  induction m with
  | zero => simp [getL]
  | succ m ih =>
    have e1 : getL zs t (m + 1 + 1) = getL zs t (m + 1) + zs.getD (t + (m + 1)) 0 * 256 ^ (m + 1) := rfl
    have e2 : getL zs (t + 1) (m + 1) = getL zs (t + 1) m + zs.getD (t + 1 + m) 0 * 256 ^ m := rfl
    rw [e1, e2, ih, show t + 1 + m = t + (m + 1) by omega, Int.pow_succ, Int.mul_add]
    have : zs.getD (t + (m + 1)) 0 * (256 ^ m * 256) = 256 * (zs.getD (t + (m + 1)) 0 * 256 ^ m) := by
      rw [Int.mul_comm (256 ^ m) 256, ← Int.mul_assoc, ← Int.mul_assoc, Int.mul_comm (zs.getD (t + (m + 1)) 0) 256]
    rw [this]
    omega

theorem hstep {q z : Int} {m : Nat} (hm : m < 8) (hq0 : 0 ≤ q) (hq : q < 256 ^ m) (hz0 : 0 ≤ z) (hz1 : z ≤ 255) :
    IntKind.u64.wrap (IntKind.u64.wrap (q * 256) + z) = q * 256 + z ∧ 0 ≤ q * 256 + z ∧ q * 256 + z < 256 ^ (m + 1) := by
  have h1 : (256 : Int) ^ (m + 1) ≤ 256 ^ 8 := pow256_le (by omega)
  have h2 : (256 : Int) ^ 8 = 18446744073709551616 := by decide
  have h3 : (256 : Int) ^ (m + 1) = 256 ^ m * 256 := Int.pow_succ ..
  rw [IntKind.wrap_u64, IntKind.wrap_u64, Int.emod_eq_of_lt (a := q * 256) (by omega) (by omega), Int.emod_eq_of_lt (by omega) (by omega)]
  omega

set_option maxHeartbeats 400000 in
theorem high_any (a : Option Addr) (l cap : Nat) (zs : List Int) (w : World) (hl : l ≤ 8) (h : Reads w a l zs) :
    Calls Tryd.prog 23 #[.slice a l cap] w fun e w' => e = .returned (.int .u64 (getL zs 0 l)) ∧ w = w' := by
  go_enter Tryd.func23, Tryd.ntmps23
  go_wp2
  go_loop [3, 4] (fun x i => ∃ (k : Nat) (q : Int), k ≤ l ∧ i = .int .i64 ((k : Int) - 1) ∧ x = .int .u64 q ∧ Hid (q = getL zs k (l - k)))
    (fun _ i => (intOf i + 1).toNat)
  case atStart => exact ⟨l, 0, Nat.le_refl _, rfl, rfl, by simp [Hid, getL]⟩
  case round =>
    obtain ⟨k, q, hk, rfl, rfl, HQ⟩ := hrel
    by_cases hlt : 0 < k
    · obtain ⟨j, rfl⟩ : ∃ j, k = j + 1 := ⟨k - 1, by omega⟩
      obtain ⟨b, off, rfl, hb, hcell⟩ := h.pos (by omega)
      obtain ⟨z, hz⟩ : ∃ z, z = zs.getD j 0 := ⟨_, rfl⟩
      have hcx : w.cell? ⟨b, off + j, none⟩ = some (.int .u8 z) := by rw [hz]; exact hcell j (by omega)
      have hz0 : 0 ≤ z ∧ z ≤ 255 := by rw [hz]; exact byteAt h.2.1 _
      have hqr : 0 ≤ q ∧ q < 256 ^ (l - (j + 1)) := by rw [HQ.out]; exact getL_range h.2.1 _ _
      have hst := hstep (show l - (j + 1) < 8 by omega) hqr.1 hqr.2 hz0.1 hz0.2
      have HS : Hid (q * 256 + z = getL zs j (l - j)) := by
        unfold Hid
        rw [show l - j = (l - (j + 1)) + 1 by omega, getL_cons, ← HQ.out, ← hz]
        omega
      have e1 : ((j + 1 : Nat) : Int) - 1 = (j : Int) := by omega
      have hw1 := hst.1
      obtain ⟨z1, z2⟩ := hz0
      have hjl : (j : Int) < (l : Int) := by omega
      clear hz hqr hst hcell h HQ
      rw [e1]
      go_wp2
      go_round
      case rel => exact ⟨j, _, by omega, by go_num, rfl, by first | exact HS | (rw [hw1]; exact HS)⟩
      case measure => simp [intOf]
    · have hk0 : k = 0 := by omega
      subst hk0
      go_wp2
      go_ret
      exact ⟨by rw [HQ.out]; rfl, rfl⟩

set_option maxHeartbeats 400000 in
theorem kept_d (B g c n cap : Nat) (a : Option Addr) (zs : List Int) (w : World) (hr : n ≤ 140737488351232) (h : Reads w a n zs) (hown : Own w B g (n + 70) c (room zs 70)) :
    Calls Tryd.prog 13 #[.slice (some ⟨g, 0, none⟩) (n + 70) c, .slice a n cap] w fun e w' => e = .returned (.bool true) ∧ ∃ k, w' = w.drewN k := by
  have hlen := h.1
  go_enter Tryd.func13, Tryd.ntmps13
  go_wp2
  go_loopw [5] (fun i wr => ∃ k j : Nat, k ≤ n + 70 ∧ i = .int .i64 k ∧ wr = w.drewN j)
    (fun i _ => n + 70 - (intOf i).toNat)
  case atStart => exact ⟨0, 0, Nat.zero_le _, rfl, rfl⟩
  case round =>
    obtain ⟨k, j, hk, rfl, rfl⟩ := hrel
    by_cases hlt : k < n + 70
    · have i2 : (k : Int) < (n : Int) + 70 := by omega
      have hd2 : decide ((k : Int) < (n : Int) + 70) = true := decide_eq_true i2
      by_cases h1 : k < n
      · obtain ⟨b, off, rfl, hb, hcell⟩ := h.pos (by omega)
        obtain ⟨z, hz⟩ : ∃ z, z = zs.getD k 0 := ⟨_, rfl⟩
        have hcx : w.cell? ⟨b, off + k, none⟩ = some (.int .u8 z) := by rw [hz]; exact hcell k h1
        have hcy : w.cell? ⟨g, k, none⟩ = some (.int .u8 z) := by rw [hz, ← room_getD zs k 70 (by omega)]; exact hown.cell k (by omega)
        have i1 : (k : Int) < (n : Int) := by omega
        have hd1 : decide ((k : Int) < (n : Int)) = true := decide_eq_true i1
        clear hcell hz h hown hlen
        go_wp2
        go_quiet (fail)
        all_goals go_wp2
        all_goals
          go_roundw
          case rel => exact ⟨k + 1, _, by omega, by go_num, rfl⟩
          case measure => simp [intOf]; omega
      · have hcy : w.cell? ⟨g, k, none⟩ = some (.int .u8 92) := by rw [← room_getD2 zs k 70 (by omega) (by omega)]; exact hown.cell k (by omega)
        have i1 : (n : Int) ≤ (k : Int) := by omega
        have hd1 : decide ((k : Int) < (n : Int)) = false := decide_eq_false (by omega)
        clear h hown hlen
        go_wp2
        go_quiet (fail)
        all_goals go_wp2
        all_goals
          go_roundw
          case rel => exact ⟨k + 1, _, by omega, by go_num, rfl⟩
          case measure => simp [intOf]; omega
    · have hkn : n + 70 = k := by omega
      subst hkn
      go_wp2
      go_ret
      exact ⟨rfl, j, rfl⟩
end Go.Proofs.YtgdmagmbkmgdfaaDoor
