/-
  SEAT Ytkcpfcnpniblcaa: words.Get, the reference's Get, changed.
-/
import Derived.Test.YtkcpfcnpniblcaaNum
namespace Go.Proofs.Ytkcpfcnpniblcaa
open Go.RowKit
set_option linter.unusedVariables false

theorem get_size (a : Option Addr) (l c : Nat) (t n : Int) (w : World) (h : n < 1 ∨ 8 < n) :
    Calls Try.prog 12 #[.slice a l c, .int .i64 t, .int .i64 n] w fun e w' => e = .returned (.tuple #[.int .u64 0, .int .i64 11]) ∧ w = w' := by
  go_enter Try.func12, Try.ntmps12
  go_wp2_with (first | (go_at_call 18; refine (sizeMayBe_no _ _ h).mono ?_; rintro e w' ⟨rfl, rfl⟩))
  go_ret2
  exact ⟨rfl, rfl⟩

theorem get_short (a : Option Addr) (l c : Nat) (t n : Int) (w : World) (hl : (l : Int) ≤ 9223372036854775807) (h1 : 1 ≤ n) (h2 : n ≤ 8) (h : t < 0 ∨ l - n < t) :
    Calls Try.prog 12 #[.slice a l c, .int .i64 t, .int .i64 n] w fun e w' => e = .returned (.tuple #[.int .u64 0, .int .i64 10]) ∧ w = w' := by
  go_enter Try.func12, Try.ntmps12
  go_wp2_with (first | (go_at_call 18; refine (sizeMayBe_yes _ _ h1 h2).mono ?_; rintro e w' ⟨rfl, rfl⟩) | (go_at_call 19; refine (reaches_no _ _ _ _ _ _ hl h1 h2 h).mono ?_; rintro e w' ⟨rfl, rfl⟩))
  go_ret2
  exact ⟨rfl, rfl⟩

theorem rget_size (a : Option Addr) (l c : Nat) (t n : Int) (w : World) (h : n < 1 ∨ 8 < n) :
    Calls Try.prog 13 #[.slice a l c, .int .i64 t, .int .i64 n] w fun e w' => e = .returned (.tuple #[.int .u64 0, .int .i64 11]) ∧ w = w' := by
  by_cases h1 : n < 1
  · go_enter Try.func13, Try.ntmps13
    go_wp2
    go_ret2
    exact ⟨rfl, rfl⟩
  · have h2 : 8 < n := by omega
    go_enter Try.func13, Try.ntmps13
    go_wp2
    go_ret2
    exact ⟨rfl, rfl⟩

theorem rget_short (a : Option Addr) (l c : Nat) (t n : Int) (w : World) (hl : (l : Int) ≤ 9223372036854775807) (h1 : 1 ≤ n) (h2 : n ≤ 8) (h : t < 0 ∨ l - n < t) :
    Calls Try.prog 13 #[.slice a l c, .int .i64 t, .int .i64 n] w fun e w' => e = .returned (.tuple #[.int .u64 0, .int .i64 10]) ∧ w = w' := by
  by_cases h3 : t < 0
  · go_enter Try.func13, Try.ntmps13
    go_wp2
    go_ret2
    exact ⟨rfl, rfl⟩
  · by_cases h4 : (l : Int) < t
    · go_enter Try.func13, Try.ntmps13
      go_wp2
      go_ret2
      exact ⟨rfl, rfl⟩
    · have h5 : (l : Int) - t < n := by omega
      go_enter Try.func13, Try.ntmps13
      go_wp2
      go_ret2
      exact ⟨rfl, rfl⟩

set_option maxHeartbeats 400000 in
theorem get_ok (a : Option Addr) (l cap t n : Nat) (zs : List Int) (w : World) (hl : l ≤ 140737488355000) (h1 : 1 ≤ n) (h2 : n ≤ 8) (ht : t + n ≤ l) (h : Reads w a l zs) :
    Calls Try.prog 12 #[.slice a l cap, .int .i64 t, .int .i64 n] w fun e w' => e = .returned (.tuple #[.int .u64 (getL zs t n), .int .i64 0]) ∧ w = w' := by
  obtain ⟨b, off, rfl, hb, hcell⟩ := h.pos (by omega)
  go_enter Try.func12, Try.ntmps12
  go_wp2_with (first | (go_at_call 18; refine (sizeMayBe_yes _ _ (by omega) (by omega)).mono ?_; rintro e w' ⟨rfl, rfl⟩) | (go_at_call 19; refine (reaches_yes _ _ _ _ _ _ (by omega) (by omega) (by omega) (by omega) (by omega)).mono ?_; rintro e w' ⟨rfl, rfl⟩))
  go_loop [8, 19] (fun x i => ∃ (k : Nat) (q : Int), k ≤ n ∧ i = .int .i64 k ∧ x = .int .u64 q ∧ Hid (q = getL zs t k))
    (fun _ i => n - (intOf i).toNat)
  case atStart => exact ⟨0, 0, Nat.zero_le _, rfl, rfl, rfl⟩
  case round =>
    obtain ⟨k, q, hk, rfl, rfl, HQ⟩ := hrel
    by_cases hlt : k < n
    · obtain ⟨z, hz⟩ : ∃ z, z = zs.getD (t + k) 0 := ⟨_, rfl⟩
      have hcx : w.cell? ⟨b, off + (t + k), none⟩ = some (.int .u8 z) := by rw [hz]; exact hcell (t + k) (by omega)
      have HZ : Hid (z = zs.getD (t + k) 0) := hz
      have hz0 : 0 ≤ z ∧ z ≤ 255 := by rw [hz]; exact byteAt h.2.1 _
      have hqr : 0 ≤ q ∧ q < 256 ^ k := by rw [HQ.out]; exact getL_range h.2.1 t k
      have hst := or_step q z k (by omega) hqr.1 hqr.2 hz0.1 hz0.2
      have HS : Hid (bits .or .u64 q (IntKind.u64.wrap (z * 2 ^ (8 * k))) = getL zs t (k + 1)) := by unfold Hid; rw [hst, getL, ← hz, ← HQ.out]
      obtain ⟨hz1, hz2⟩ := hz0
      clear hz hqr hst
      go_wp2
      go_round
      case rel => exact ⟨k + 1, _, by omega, by go_num, rfl, HS⟩
      case measure => simp [intOf]; omega
    · have hkn : k = n := by omega
      subst hkn
      go_wp2
      go_ret2
      exact ⟨by rw [← HQ.out]; rfl, rfl⟩

set_option maxHeartbeats 400000 in
theorem rget_ok (a : Option Addr) (l cap t n : Nat) (zs : List Int) (w : World) (hl : l ≤ 140737488355000) (h1 : 1 ≤ n) (h2 : n ≤ 8) (ht : t + n ≤ l) (h : Reads w a l zs) :
    Calls Try.prog 13 #[.slice a l cap, .int .i64 t, .int .i64 n] w fun e w' => e = .returned (.tuple #[.int .u64 (getL zs t n), .int .i64 0]) ∧ w = w' := by
  obtain ⟨b, off, rfl, hb, hcell⟩ := h.pos (by omega)
  go_enter Try.func13, Try.ntmps13
  go_wp2
  go_loop [8, 9] (fun x i => ∃ (k : Nat) (q : Int), k ≤ n ∧ i = .int .i64 ((k : Int) - 1) ∧ x = .int .u64 q ∧ Hid (getL zs t n = getL zs t k + q * 256 ^ k) ∧ Hid (0 ≤ q ∧ q < 256 ^ (n - k)))
    (fun _ i => (intOf i + 1).toNat)
  case atStart => exact ⟨n, 0, Nat.le_refl _, rfl, rfl, by simp [Hid], by simp [Hid]⟩
  case round =>
    obtain ⟨k, q, hk, rfl, rfl, HQ, HR⟩ := hrel
    by_cases hlt : 0 < k
    · obtain ⟨k, rfl⟩ : ∃ j, k = j + 1 := ⟨k - 1, by omega⟩
      obtain ⟨z, hz⟩ : ∃ z, z = zs.getD (t + k) 0 := ⟨_, rfl⟩
      have hcx : w.cell? ⟨b, off + (t + k), none⟩ = some (.int .u8 z) := by rw [hz]; exact hcell (t + k) (by omega)
      have hz0 : 0 ≤ z ∧ z ≤ 255 := by rw [hz]; exact byteAt h.2.1 _
      have hst := rstep (show n - (k + 1) < 8 by omega) HR.out.1 HR.out.2 hz0.1 hz0.2
      rw [show n - (k + 1) + 1 = n - k by omega] at hst
      have HS : Hid (IntKind.u64.wrap (IntKind.u64.wrap (q * 256) + z) = q * 256 + z) := hst.1
      have HT : Hid (0 ≤ q * 256 + z ∧ q * 256 + z < 256 ^ (n - k)) := hst.2
      have HU : Hid (getL zs t n = getL zs t k + (q * 256 + z) * 256 ^ k) := by
        have := HQ.out
        unfold Hid
        rw [this, getL, Int.pow_succ, hz, Int.add_mul, Int.mul_assoc, Int.mul_comm 256 (256 ^ k)]
        omega
      obtain ⟨hz1, hz2⟩ := hz0
      clear hz hst
      go_wp2
      go_round
      case rel => exact ⟨k, _, by omega, by go_num, rfl, by rw [HS.out]; exact HU, by rw [HS.out]; exact HT⟩
      case measure => simp [intOf]
    · have hkn : k = 0 := by omega
      subst hkn
      have hq : q = getL zs t n := by have := HQ.out; simp [getL] at this; exact this.symm
      go_wp2
      go_ret2
      exact ⟨by rw [← hq]; rfl, rfl⟩

/-- changed: other bytes, in the same memory. -/
theorem xor_range (z : Int) (h0 : 0 ≤ z) (h1 : z ≤ 255) : 0 ≤ bits .xor .u8 z 90 ∧ bits .xor .u8 z 90 ≤ 255 := by
  rw [u8_xor z 90 h0 (by omega) (by decide) (by decide)]
  have : z.toNat ^^^ 90 < 2 ^ 8 := Nat.xor_lt_two_pow (by omega) (by decide)
  exact ⟨by omega, by simp; omega⟩

set_option maxHeartbeats 400000 in
theorem changed_any (B g l m cap : Nat) (zs ys : List Int) (w : World) (hl : l ≤ 140737488355000) (hz : zs.length = l) (hr : ∀ x ∈ zs, 0 ≤ x ∧ x ≤ 255) (hown : Own w B g m cap (zs ++ ys)) :
    Calls Try.prog 10 #[.slice (some ⟨g, 0, none⟩) l cap] w fun e w' => e = .returned (.tuple #[]) ∧ Own w' B g m cap (zs.map (fun z => bits .xor .u8 z 90) ++ ys) ∧ w.grownBy w' (some g) := by
  have hm : l + ys.length = m := by have := hown.len; simp at this; omega
  go_enter Try.func10, Try.ntmps10
  go_wp2
  go_loopw [2] (fun i wr => ∃ (k : Nat) (xs : List Int), k ≤ l ∧ i = .int .i64 k ∧ Own wr B g m cap xs ∧ w.grownBy wr (some g) ∧ Hid (xs = (zs.take k).map (fun z => bits .xor .u8 z 90) ++ zs.drop k ++ ys))
    (fun i _ => l - (intOf i).toNat)
  case atStart => exact ⟨0, _, Nat.zero_le _, rfl, hown, World.grownBy.refl _ _, by simp [Hid]⟩
  case round =>
    obtain ⟨k, xs, hk, rfl, hownr, hg, HX⟩ := hrel
    by_cases hlt : k < l
    · obtain ⟨z, hz'⟩ : ∃ z, z = xs.getD k 0 := ⟨_, rfl⟩
      have hcx : wr.cell? ⟨g, k, none⟩ = some (.int .u8 z) := by rw [hz']; exact hownr.cell k (by omega)
      have hfz : wr.frozen? ⟨g, k, none⟩ = false := World.ownsRow.frozenAt hownr k
      obtain ⟨hs1, hs2⟩ := hownr.set k (bits .xor .u8 z 90)
      have HS : Hid (Own (wr.setCell ⟨g, k, none⟩ (.int .u8 (bits .xor .u8 z 90))) B g m cap (xs.set k (bits .xor .u8 z 90))) := hs1
      have HG : Hid (w.grownBy (wr.setCell ⟨g, k, none⟩ (.int .u8 (bits .xor .u8 z 90))) (some g)) := grownBy_trans hg hs2
      have HY : Hid (xs.set k (bits .xor .u8 z 90) = (zs.take (k + 1)).map (fun z => bits .xor .u8 z 90) ++ zs.drop (k + 1) ++ ys) := by
        rw [hz']
        exact map_step (fun z => bits .xor .u8 z 90) zs ys k (by omega) xs HX.out
      clear hs1 hs2 hz'
      go_wp2
      go_roundw
      case rel => exact ⟨k + 1, _, by omega, by go_num, HS.out, HG.out, HY⟩
      case measure => simp [intOf]; omega
    · have hkn : k = l := by omega
      subst hkn
      have hx := HX.out
      rw [List.take_of_length_le (by omega), List.drop_of_length_le (by omega), List.append_nil] at hx
      subst hx
      go_wp2
      go_end0
      exact ⟨rfl, hownr, hg⟩

theorem own_any {w : World} {B n : Nat} {v : Value} {xs : List Int} (h : w.ownsRow B 5 1 v n (xs.map (Value.int .u8))) (hr : ∀ x ∈ xs, 0 ≤ x ∧ x ≤ 255) : ∃ a c, v = .slice a n c ∧ Reads w a n xs := by
  have hl : xs.length = n := by have := h.1; simpa using this
  rcases h.2 with ⟨hv, h0⟩ | ⟨g, cap, cur, hv, _⟩
  · subst h0
    exact ⟨none, 0, hv, hl, hr, fun _ => rfl, fun _ h => by cases h⟩
  · subst hv
    have := Own.reads h hr n (Nat.le_refl _)
    rw [List.take_of_length_le (by omega)] at this
    exact ⟨_, _, rfl, this⟩

theorem gets_any (l : Nat) (t n : Int) (zs : List Int) (hl : l ≤ 140737488355000) : ∃ val code : Int,
    (∀ (w : World) (a : Option Addr) (cap : Nat), Reads w a l zs → Calls Try.prog 12 #[.slice a l cap, .int .i64 t, .int .i64 n] w fun e w' => e = .returned (.tuple #[.int .u64 val, .int .i64 code]) ∧ w = w') ∧
    (∀ (w : World) (a : Option Addr) (cap : Nat), Reads w a l zs → Calls Try.prog 13 #[.slice a l cap, .int .i64 t, .int .i64 n] w fun e w' => e = .returned (.tuple #[.int .u64 val, .int .i64 code]) ∧ w = w') := by
  by_cases hn : n < 1 ∨ 8 < n
  · exact ⟨0, 11, fun w a cap _ => get_size _ _ _ _ _ _ hn, fun w a cap _ => rget_size _ _ _ _ _ _ hn⟩
  · by_cases ht : t < 0 ∨ l - n < t
    · exact ⟨0, 10, fun w a cap _ => get_short _ _ _ _ _ _ (by omega) (by omega) (by omega) ht, fun w a cap _ => rget_short _ _ _ _ _ _ (by omega) (by omega) (by omega) ht⟩
    · obtain ⟨t', rfl⟩ := Int.eq_ofNat_of_zero_le (show 0 ≤ t by omega)
      obtain ⟨n', rfl⟩ := Int.eq_ofNat_of_zero_le (show 0 ≤ n by omega)
      exact ⟨getL zs t' n', 0, fun w a cap h => get_ok _ _ _ _ _ _ _ hl (by omega) (by omega) (by omega) h, fun w a cap h => rget_ok _ _ _ _ _ _ _ hl (by omega) (by omega) (by omega) h⟩

end Go.Proofs.Ytkcpfcnpniblcaa
