/-
  SEAT Ytoaahellfflooaa.
-/
import Derived.Test.YtoaahellfflooaaVKB
namespace Go.Proofs.Ytoaahellfflooaa
open Go.RowKit
set_option linter.unusedVariables false

theorem sizeMayBe_yes (n : Int) (w : World) (h1 : 1 ≤ n) (h2 : n ≤ 8) : Calls Try.prog 62 #[.int .i64 n] w fun e w' => e = .returned (.bool true) ∧ w = w' := by
  go_enter Try.func62, Try.ntmps62
  go_wp2
  go_ret
  exact ⟨rfl, rfl⟩

theorem sizeMayBe_no (n : Int) (w : World) (h : n < 1 ∨ 8 < n) : Calls Try.prog 62 #[.int .i64 n] w fun e w' => e = .returned (.bool false) ∧ w = w' := by
  rcases h with h | h
  · go_enter Try.func62, Try.ntmps62
    go_wp2
    go_ret
    exact ⟨rfl, rfl⟩
  · have h1 : 1 ≤ n := by omega
    go_enter Try.func62, Try.ntmps62
    go_wp2
    go_ret
    exact ⟨ret_bool (decide_eq_false (by omega)), rfl⟩

theorem fits_any (v n : Int) (w : World) (h1 : 1 ≤ n) (h2 : n ≤ 8) : Calls Try.prog 63 #[.int .u64 v, .int .i64 n] w fun e w' => e = .returned (.bool (v / 2 ^ (8 * n).toNat == 0)) ∧ w = w' := by
  go_enter Try.func63, Try.ntmps63
  go_wp2
  go_ret
  exact ⟨rfl, rfl⟩

theorem reaches_yes (a : Option Addr) (l c : Nat) (t n : Int) (w : World) (hl : (l : Int) ≤ 9223372036854775807) (h1 : 1 ≤ n) (h2 : n ≤ 8) (h3 : 0 ≤ t) (h4 : t ≤ l - n) :
    Calls Try.prog 64 #[.slice a l c, .int .i64 t, .int .i64 n] w fun e w' => e = .returned (.bool true) ∧ w = w' := by
  go_enter Try.func64, Try.ntmps64
  go_wp2
  go_ret
  exact ⟨rfl, rfl⟩

theorem reaches_no (a : Option Addr) (l c : Nat) (t n : Int) (w : World) (hl : (l : Int) ≤ 9223372036854775807) (h1 : 1 ≤ n) (h2 : n ≤ 8) (h : t < 0 ∨ l - n < t) :
    Calls Try.prog 64 #[.slice a l c, .int .i64 t, .int .i64 n] w fun e w' => e = .returned (.bool false) ∧ w = w' := by
  by_cases h3 : 0 ≤ t
  · go_enter Try.func64, Try.ntmps64
    go_wp2
    go_ret
    exact ⟨ret_bool (decide_eq_false (by omega)), rfl⟩
  · go_enter Try.func64, Try.ntmps64
    go_wp2
    go_ret
    exact ⟨rfl, rfl⟩

def putL (xs : List Int) (p : Nat) (v : Int) : Nat → List Int
  | 0 => xs
  | k + 1 => (putL xs p v k).set (p + k) (v / 256 ^ k % 256)

theorem put_size (a : Option Addr) (l c : Nat) (t n v : Int) (w : World) (h : n < 1 ∨ 8 < n) :
    Calls Try.prog 45 #[.slice a l c, .int .i64 t, .int .i64 n, .int .u64 v] w fun e w' => e = .returned (.int .i64 11) ∧ w = w' := by
  go_enter Try.func45, Try.ntmps45
  go_wp2_with (first | (go_at_call 62; refine (sizeMayBe_no _ _ h).mono ?_; rintro e w' ⟨rfl, rfl⟩))
  go_ret
  exact ⟨rfl, rfl⟩

theorem put_wide (a : Option Addr) (l c : Nat) (t n v : Int) (w : World) (h1 : 1 ≤ n) (h2 : n ≤ 8) (hf : (v / 2 ^ (8 * n).toNat == 0) = false) :
    Calls Try.prog 45 #[.slice a l c, .int .i64 t, .int .i64 n, .int .u64 v] w fun e w' => e = .returned (.int .i64 11) ∧ w = w' := by
  go_enter Try.func45, Try.ntmps45
  go_wp2_with (first | (go_at_call 62; refine (sizeMayBe_yes _ _ h1 h2).mono ?_; rintro e w' ⟨rfl, rfl⟩) | (go_at_call 63; refine (fits_any _ _ _ h1 h2).mono ?_; rintro e w' ⟨rfl, rfl⟩))
  go_ret
  exact ⟨rfl, rfl⟩

theorem put_short (a : Option Addr) (l c : Nat) (t n v : Int) (w : World) (hl : (l : Int) ≤ 9223372036854775807) (h1 : 1 ≤ n) (h2 : n ≤ 8) (hf : (v / 2 ^ (8 * n).toNat == 0) = true) (h : t < 0 ∨ l - n < t) :
    Calls Try.prog 45 #[.slice a l c, .int .i64 t, .int .i64 n, .int .u64 v] w fun e w' => e = .returned (.int .i64 10) ∧ w = w' := by
  go_enter Try.func45, Try.ntmps45
  go_wp2_with (first | (go_at_call 62; refine (sizeMayBe_yes _ _ h1 h2).mono ?_; rintro e w' ⟨rfl, rfl⟩) | (go_at_call 63; refine (fits_any _ _ _ h1 h2).mono ?_; rintro e w' ⟨rfl, rfl⟩) | (go_at_call 64; refine (reaches_no _ _ _ _ _ _ hl h1 h2 h).mono ?_; rintro e w' ⟨rfl, rfl⟩))
  go_ret
  exact ⟨rfl, rfl⟩

theorem pow256 (v : Int) (k : Nat) : v / 256 ^ k % 256 = v / 2 ^ (8 * k) % 256 := by
  rw [Int.pow_mul]
  rfl

theorem quo256 {v q : Int} {k : Nat} (h : Hid (q = v / 256 ^ k)) : Hid (q / 256 = v / 256 ^ (k + 1)) := by
  unfold Hid at *
  rw [h, Int.pow_succ, Int.ediv_ediv_of_nonneg (Int.le_of_lt (Int.pow_pos (by decide)))]

theorem putL_step (zs : List Int) (t : Nat) {v q : Int} {k : Nat} (h : Hid (q = v / 256 ^ k)) : putL zs t v (k + 1) = (putL zs t v k).set (t + k) (q % 256) := by
  rw [putL, h.out]

theorem putL_length (xs : List Int) (p : Nat) (v : Int) (k : Nat) : (putL xs p v k).length = xs.length := by
  induction k with
  | zero => rfl
  | succ k ih => simp [putL, ih]

set_option maxHeartbeats 400000 in
theorem put_ok (B g m cap l : Nat) (t n : Nat) (v : Int) (xs : List Int) (w : World) (hl : (l : Int) ≤ 140737488355000) (h1 : 1 ≤ n) (h2 : n ≤ 8) (hf : (v / 2 ^ (8 * (n : Int)).toNat == 0) = true) (ht : t + n ≤ l) (hlm : l ≤ m) (_hv : 0 ≤ v)
    (hown : Own w B g m cap xs) :
    Calls Try.prog 45 #[.slice (some ⟨g, 0, none⟩) l cap, .int .i64 t, .int .i64 n, .int .u64 v] w fun e w' => e = .returned (.int .i64 0) ∧ Own w' B g m cap (putL xs t v n) ∧ w.grownBy w' (some g) := by
  go_enter Try.func45, Try.ntmps45
  go_wp2_with (first | (go_at_call 62; refine (sizeMayBe_yes _ _ (by omega) (by omega)).mono ?_; rintro e w' ⟨rfl, rfl⟩) | (go_at_call 63; refine (fits_any _ _ _ (by omega) (by omega)).mono ?_; rintro e w' ⟨rfl, rfl⟩) | (go_at_call 64; refine (reaches_yes _ _ _ _ _ _ (by omega) (by omega) (by omega) (by omega) (by omega)).mono ?_; rintro e w' ⟨rfl, rfl⟩))
  go_loopw [25] (fun i wr => ∃ k : Nat, k ≤ n ∧ i = .int .i64 k ∧ Own wr B g m cap (putL xs t v k) ∧ w.grownBy wr (some g))
    (fun i _ => n - (intOf i).toNat)
  case atStart => exact ⟨0, Nat.zero_le _, rfl, hown, World.grownBy.refl _ _⟩
  case round =>
    obtain ⟨k, hk, rfl, hownr, hg⟩ := hrel
    by_cases hlt : k < n
    · have hcx := hownr.cell (t + k) (by omega)
      have hfz : wr.frozen? ⟨g, t + k, none⟩ = false := World.ownsRow.frozenAt hownr (t + k)
      have hs := hownr.set (t + k) (v / 2 ^ (8 * k) % 256)
      have hp : putL xs t v (k + 1) = (putL xs t v k).set (t + k) (v / 2 ^ (8 * k) % 256) := by rw [putL, pow256]
      rw [← hp] at hs
      obtain ⟨hs1, hs2⟩ := hs
      have HS : Hid (Own (wr.setCell ⟨g, t + k, none⟩ (.int .u8 (v / 2 ^ (8 * k) % 256))) B g m cap (putL xs t v (k + 1))) := hs1
      have HG : Hid (w.grownBy (wr.setCell ⟨g, t + k, none⟩ (.int .u8 (v / 2 ^ (8 * k) % 256))) (some g)) := grownBy_trans hg hs2
      clear hs1 hs2 hp
      go_wp2
      go_roundw
      case rel => exact ⟨k + 1, by omega, by go_num, HS.out, HG.out⟩
      case measure => simp [intOf]; omega
    · have hkn : k = n := by omega
      subst hkn
      go_wp2
      go_ret
      exact ⟨rfl, hownr, hg⟩

theorem putL_append (xs ys : List Int) (t n : Nat) (v : Int) (k : Nat) (hk : k ≤ n) (h : t + n ≤ xs.length) : putL (xs ++ ys) t v k = putL xs t v k ++ ys := by
  induction k with
  | zero => rfl
  | succ k ih =>
    rw [putL, putL, ih (by omega), List.set_append_left]
    rw [putL_length]
    omega

theorem putL_range (xs : List Int) (t : Nat) (v : Int) (k : Nat) (h : ∀ x ∈ xs, 0 ≤ x ∧ x ≤ 255) : ∀ x ∈ putL xs t v k, 0 ≤ x ∧ x ≤ 255 := by
  induction k with
  | zero => exact h
  | succ k ih =>
    intro x hx
    rw [putL] at hx
    rcases List.mem_or_eq_of_mem_set hx with h1 | h1
    · exact ih x h1
    · rw [h1]; omega

theorem p256 (k : Nat) : (256 : Int) ^ k = 2 ^ (8 * k) := by
  rw [Int.pow_mul]
  rfl

theorem p256n (k : Nat) : (256 : Nat) ^ k = 2 ^ (8 * k) := by
  rw [Nat.pow_mul]

theorem or_step (q z : Int) (k : Nat) (hk : k < 8) (hq0 : 0 ≤ q) (hq : q < 256 ^ k) (hz0 : 0 ≤ z) (hz1 : z ≤ 255) :
    bits .or .u64 q (IntKind.u64.wrap (z * 2 ^ (8 * k))) = q + z * 256 ^ k := by
  obtain ⟨q, rfl⟩ := Int.eq_ofNat_of_zero_le hq0
  obtain ⟨z, rfl⟩ := Int.eq_ofNat_of_zero_le hz0
  have hp : 2 ^ (8 * k) ≤ 2 ^ 56 := Nat.pow_le_pow_right (by decide) (by omega)
  have hq' : q < 2 ^ (8 * k) := by
    rw [p256] at hq
    exact_mod_cast hq
  have hm : z * 2 ^ (8 * k) ≤ 255 * 2 ^ 56 := Nat.mul_le_mul (by omega) hp
  have e : (z : Int) * 2 ^ (8 * k) = ((z * 2 ^ (8 * k) : Nat) : Int) := by push_cast; rfl
  rw [IntKind.wrap_u64, e, Int.emod_eq_of_lt (by omega) (by omega), u64_or_nat _ _ (by omega) (by omega), Nat.or_comm, nat_join (8 * k) _ _ (Nat.mul_mod_left _ _) hq', p256]
  push_cast
  omega

/-- The number in k bytes from place t on, the lowest first. -/
def getL (zs : List Int) (t : Nat) : Nat → Int
  | 0 => 0
  | k + 1 => getL zs t k + zs.getD (t + k) 0 * 256 ^ k

theorem pow256_pos (k : Nat) : (0 : Int) < 256 ^ k := Int.pow_pos (by decide)

theorem getL_range {zs : List Int} (h : ∀ x ∈ zs, 0 ≤ x ∧ x ≤ 255) (t k : Nat) : 0 ≤ getL zs t k ∧ getL zs t k < 256 ^ k := by
  induction k with
  | zero => simp [getL]
  | succ k ih =>
    have hb := byteAt h (t + k)
    have hp := pow256_pos k
    have h1 : 0 ≤ zs.getD (t + k) 0 * 256 ^ k := Int.mul_nonneg hb.1 (by omega)
    have h2 : zs.getD (t + k) 0 * 256 ^ k ≤ 255 * 256 ^ k := Int.mul_le_mul_of_nonneg_right hb.2 (by omega)
    rw [getL, Int.pow_succ]
    omega

theorem pow256_le {k n : Nat} (h : k ≤ n) : (256 : Int) ^ k ≤ 256 ^ n := by
  have h1 := Int.ofNat_le.2 (Nat.pow_le_pow_right (show 0 < 256 by decide) h)
  rwa [Int.natCast_pow, Int.natCast_pow] at h1

theorem get_size (a : Option Addr) (l c : Nat) (t n : Int) (w : World) (h : n < 1 ∨ 8 < n) :
    Calls Try.prog 51 #[.slice a l c, .int .i64 t, .int .i64 n] w fun e w' => e = .returned (.tuple #[.int .u64 0, .int .i64 11]) ∧ w = w' := by
  go_enter Try.func51, Try.ntmps51
  go_wp2_with (first | (go_at_call 62; refine (sizeMayBe_no _ _ h).mono ?_; rintro e w' ⟨rfl, rfl⟩))
  go_ret2
  exact ⟨rfl, rfl⟩

theorem get_short (a : Option Addr) (l c : Nat) (t n : Int) (w : World) (hl : (l : Int) ≤ 9223372036854775807) (h1 : 1 ≤ n) (h2 : n ≤ 8) (h : t < 0 ∨ l - n < t) :
    Calls Try.prog 51 #[.slice a l c, .int .i64 t, .int .i64 n] w fun e w' => e = .returned (.tuple #[.int .u64 0, .int .i64 10]) ∧ w = w' := by
  go_enter Try.func51, Try.ntmps51
  go_wp2_with (first | (go_at_call 62; refine (sizeMayBe_yes _ _ h1 h2).mono ?_; rintro e w' ⟨rfl, rfl⟩) | (go_at_call 64; refine (reaches_no _ _ _ _ _ _ hl h1 h2 h).mono ?_; rintro e w' ⟨rfl, rfl⟩))
  go_ret2
  exact ⟨rfl, rfl⟩

set_option maxHeartbeats 400000 in
theorem get_ok (a : Option Addr) (l cap t n : Nat) (zs : List Int) (w : World) (hl : l ≤ 140737488355000) (h1 : 1 ≤ n) (h2 : n ≤ 8) (ht : t + n ≤ l) (h : Reads w a l zs) :
    Calls Try.prog 51 #[.slice a l cap, .int .i64 t, .int .i64 n] w fun e w' => e = .returned (.tuple #[.int .u64 (getL zs t n), .int .i64 0]) ∧ w = w' := by
  obtain ⟨b, off, rfl, hb, hcell⟩ := h.pos (by omega)
  go_enter Try.func51, Try.ntmps51
  go_wp2_with (first | (go_at_call 62; refine (sizeMayBe_yes _ _ (by omega) (by omega)).mono ?_; rintro e w' ⟨rfl, rfl⟩) | (go_at_call 64; refine (reaches_yes _ _ _ _ _ _ (by omega) (by omega) (by omega) (by omega) (by omega)).mono ?_; rintro e w' ⟨rfl, rfl⟩))
  go_loop [8, 19] (fun x i => ∃ (k : Nat) (q : Int), k ≤ n ∧ i = .int .i64 k ∧ x = .int .u64 q ∧ Hid (q = getL zs t k))
    (fun _ i => n - (intOf i).toNat)
  case atStart => exact ⟨0, 0, Nat.zero_le _, rfl, rfl, rfl⟩
  case round =>
    obtain ⟨k, q, hk, rfl, rfl, HQ⟩ := hrel
    by_cases hlt : k < n
    · obtain ⟨z, hz⟩ : ∃ z, z = zs.getD (t + k) 0 := ⟨_, rfl⟩
      have hcx : w.cell? ⟨b, off + (t + k), none⟩ = some (.int .u8 z) := by rw [hz]; exact hcell (t + k) (by omega)
      have HZ : Hid (z = zs.getD (t + k) 0) := hz
      have hz0 : 0 ≤ z ∧ z ≤ 255 := by rw [hz]; exact byteAt h.2.1 _
      have hqr : 0 ≤ q ∧ q < 256 ^ k := by rw [HQ.out]; exact getL_range h.2.1 t k
      have hst := or_step q z k (by omega) hqr.1 hqr.2 hz0.1 hz0.2
      have HS : Hid (bits .or .u64 q (IntKind.u64.wrap (z * 2 ^ (8 * k))) = getL zs t (k + 1)) := by unfold Hid; rw [hst, getL, ← hz, ← HQ.out]
      obtain ⟨hz1, hz2⟩ := hz0
      clear hz hqr hst
      go_wp2
      go_round
      case rel => exact ⟨k + 1, _, by omega, by go_num, rfl, HS⟩
      case measure => simp [intOf]; omega
    · have hkn : k = n := by omega
      subst hkn
      go_wp2
      go_ret2
      exact ⟨by rw [← HQ.out]; rfl, rfl⟩

theorem getL_congr {xs ys : List Int} {t : Nat} : ∀ n, (∀ i, i < n → xs.getD (t + i) 0 = ys.getD (t + i) 0) → getL xs t n = getL ys t n
  | 0, _ => rfl
  | n + 1, h => by rw [getL, getL, getL_congr n (fun i hi => h i (by omega)), h n (by omega)]

theorem putL_getD (xs : List Int) (t : Nat) (v : Int) (n : Nat) (h : t + n ≤ xs.length) (j : Nat) : (putL xs t v n).getD j 0 = if t ≤ j ∧ j < t + n then v / 256 ^ (j - t) % 256 else xs.getD j 0 := by
  induction n with
  | zero => rw [putL, if_neg (by omega)]
  | succ n ih =>
    rw [putL, getD_set _ _ _ _ (by rw [putL_length]; omega), ih (by omega)]
    by_cases h1 : t + n = j
    · subst h1; rw [if_pos rfl, if_pos (by omega)]; simp
    · rw [if_neg h1]
      by_cases h2 : t ≤ j ∧ j < t + n
      · rw [if_pos h2, if_pos (by omega)]
      · rw [if_neg h2, if_neg (by omega)]

theorem emod_mul' (v p : Int) (hv : 0 ≤ v) (hp : 0 < p) : v % p + v / p % 256 * p = v % (p * 256) := by
  obtain ⟨v, rfl⟩ := Int.eq_ofNat_of_zero_le hv
  obtain ⟨p, rfl⟩ := Int.eq_ofNat_of_zero_le (Int.le_of_lt hp)
  have h := Nat.mod_mul (a := p) (b := 256) (x := v)
  rw [Nat.mul_comm p (v / p % 256)] at h
  have h2 : ((v % (p * 256) : Nat) : Int) = ((v % p + v / p % 256 * p : Nat) : Int) := by rw [h]
  simpa using h2.symm

theorem get_put (xs : List Int) (t : Nat) (v : Int) (m : Nat) (h : t + m ≤ xs.length) (hv : 0 ≤ v) : ∀ n, n ≤ m → getL (putL xs t v m) t n = v % 256 ^ n
  | 0, _ => by simp [getL]
  | n + 1, hn => by
    rw [getL, get_put xs t v m h hv n (by omega), putL_getD xs t v m h, if_pos (by omega), Nat.add_sub_cancel_left, Int.pow_succ, emod_mul' v _ hv (pow256_pos n)]

end Go.Proofs.Ytoaahellfflooaa
