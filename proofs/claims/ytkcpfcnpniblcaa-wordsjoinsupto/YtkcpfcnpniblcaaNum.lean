/-
  SEAT Ytkcpfcnpniblcaa: numbers in bytes, the plain arithmetic.
-/
import Derived.Test.YtkcpfcnpniblcaaKitD
namespace Go.Proofs.Ytkcpfcnpniblcaa
open Go.RowKit

theorem p256 (k : Nat) : (256 : Int) ^ k = 2 ^ (8 * k) := by
  rw [Int.pow_mul]
  rfl
theorem p256n (k : Nat) : (256 : Nat) ^ k = 2 ^ (8 * k) := by
  rw [Nat.pow_mul]

theorem or_step (q z : Int) (k : Nat) (hk : k < 8) (hq0 : 0 ≤ q) (hq : q < 256 ^ k) (hz0 : 0 ≤ z) (hz1 : z ≤ 255) :
    bits .or .u64 q (IntKind.u64.wrap (z * 2 ^ (8 * k))) = q + z * 256 ^ k := by
  obtain ⟨q, rfl⟩ := Int.eq_ofNat_of_zero_le hq0
  obtain ⟨z, rfl⟩ := Int.eq_ofNat_of_zero_le hz0
  have hp : 2 ^ (8 * k) ≤ 2 ^ 56 := Nat.pow_le_pow_right (by decide) (by omega)
  have hq' : q < 2 ^ (8 * k) := by
    rw [p256] at hq
    exact_mod_cast hq
  have hm : z * 2 ^ (8 * k) ≤ 255 * 2 ^ 56 := Nat.mul_le_mul (by omega) hp
  have e : (z : Int) * 2 ^ (8 * k) = ((z * 2 ^ (8 * k) : Nat) : Int) := by push_cast; rfl
  rw [IntKind.wrap_u64, e, Int.emod_eq_of_lt (by omega) (by omega), u64_or_nat _ _ (by omega) (by omega), Nat.or_comm, nat_join (8 * k) _ _ (Nat.mul_mod_left _ _) hq', p256]
  push_cast
  omega

/-- The number in k bytes from place t on, the lowest first. -/
def getL (zs : List Int) (t : Nat) : Nat → Int
  | 0 => 0
  | k + 1 => getL zs t k + zs.getD (t + k) 0 * 256 ^ k

theorem byteAt {zs : List Int} (h : ∀ x ∈ zs, 0 ≤ x ∧ x ≤ 255) (i : Nat) : 0 ≤ zs.getD i 0 ∧ zs.getD i 0 ≤ 255 := by
  rcases Nat.lt_or_ge i zs.length with h1 | h1
  · rw [List.getD_eq_getElem?_getD, List.getElem?_eq_getElem h1]
    exact h _ (List.getElem_mem h1)
  · rw [List.getD_eq_getElem?_getD, List.getElem?_eq_none h1]
    simp

theorem pow256_pos (k : Nat) : (0 : Int) < 256 ^ k := Int.pow_pos (by decide)

theorem getL_range {zs : List Int} (h : ∀ x ∈ zs, 0 ≤ x ∧ x ≤ 255) (t k : Nat) : 0 ≤ getL zs t k ∧ getL zs t k < 256 ^ k := by
  induction k with
  | zero => simp [getL]
  | succ k ih =>
    have hb := byteAt h (t + k)
    have hp := pow256_pos k
    have h1 : 0 ≤ zs.getD (t + k) 0 * 256 ^ k := Int.mul_nonneg hb.1 (by omega)
    have h2 : zs.getD (t + k) 0 * 256 ^ k ≤ 255 * 256 ^ k := Int.mul_le_mul_of_nonneg_right hb.2 (by omega)
    rw [getL, Int.pow_succ]
    omega

theorem pow256_le {k n : Nat} (h : k ≤ n) : (256 : Int) ^ k ≤ 256 ^ n := by
  have h1 := Int.ofNat_le.2 (Nat.pow_le_pow_right (show 0 < 256 by decide) h)
  rwa [Int.natCast_pow, Int.natCast_pow] at h1

/-- One step of the reference's Get. -/
theorem rstep {q z : Int} {m : Nat} (hm : m < 8) (hq0 : 0 ≤ q) (hq : q < 256 ^ m) (hz0 : 0 ≤ z) (hz1 : z ≤ 255) :
    IntKind.u64.wrap (IntKind.u64.wrap (q * 256) + z) = q * 256 + z ∧ 0 ≤ q * 256 + z ∧ q * 256 + z < 256 ^ (m + 1) := by
  have h1 : (256 : Int) ^ (m + 1) ≤ 256 ^ 8 := pow256_le (by omega)
  have h2 : (256 : Int) ^ 8 = 18446744073709551616 := by decide
  rw [Int.pow_succ] at *
  rw [IntKind.wrap_u64, IntKind.wrap_u64]
  omega

theorem map_step (f : Int → Int) (zs ys : List Int) (k : Nat) (h : k < zs.length) (xs : List Int) (hx : xs = (zs.take k).map f ++ zs.drop k ++ ys) :
    xs.set k (f (xs.getD k 0)) = (zs.take (k + 1)).map f ++ zs.drop (k + 1) ++ ys := by
  have hl : ((zs.take k).map f).length = k := by simp; omega
  have e0 : xs = (zs.take k).map f ++ (zs[k] :: (zs.drop (k + 1) ++ ys)) := by rw [hx, List.append_assoc, List.drop_eq_getElem_cons h]; rfl
  have e : xs.getD k 0 = zs[k] := by
    rw [e0, List.getD_eq_getElem?_getD, List.getElem?_append_right (by omega), hl]
    simp
  rw [e, e0, List.set_append_right _ _ (by omega), hl, Nat.sub_self, List.set_cons_zero, List.take_succ_eq_append_getElem h, List.map_append]
  simp

end Go.Proofs.Ytkcpfcnpniblcaa
