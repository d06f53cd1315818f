/-
  SEAT Ytkcpfcnpniblcab: Bit, Zeros, Flip.
-/
import Derived.Test.YtkcpfcnpniblcabOnes
import Derived.RegionTactic
import Derived.ChangeAlike
namespace Go.Proofs.Ytkcpfcnpniblcab
open Go.RowKit
set_option linter.unusedVariables false

theorem bit_any (a : Option Addr) (l cap : Nat) (zs : List Int) (j : Nat) (w : World) (hl : l ≤ 140737488355000) (h : Reads w a l zs) (hj : j < 8 * l) :
    Calls Try.prog 27 #[.slice a l cap, .int .i64 j] w fun e w' => e = .returned (.int .i64 (zs.getD (j / 8) 0 / 2 ^ (j % 8) % 2)) ∧ w = w' := by
  obtain ⟨b, off, rfl, hb, hcell⟩ := h.pos (by omega)
  obtain ⟨z, hz⟩ : ∃ z, z = zs.getD (j / 8) 0 := ⟨_, rfl⟩
  have hcx : w.cell? ⟨b, off + j / 8, none⟩ = some (.int .u8 z) := by rw [hz]; exact hcell (j / 8) (by omega)
  have hz0 : 0 ≤ z ∧ z ≤ 255 := by rw [hz]; exact byteAt h.2.1 _
  obtain ⟨hz1, hz2⟩ := hz0
  rw [← hz]
  clear hz
  have hm : (z / 2 ^ (j % 8)).tmod 2 = z / 2 ^ (j % 8) % 2 := Int.tmod_eq_emod_of_nonneg (Int.ediv_nonneg hz1 (Int.le_of_lt (Int.pow_pos (by decide))))
  have HM : Hid ((z / 2 ^ (j % 8)).tmod 2 = z / 2 ^ (j % 8) % 2) := hm
  clear hm
  go_enter Try.func27, Try.ntmps27
  go_wp2
  go_ret
  exact ⟨ret_int HM.out, rfl⟩

/-- The zeros of a byte; of bytes. -/
def zb (z : Int) : Nat := 8 - popN z.toNat 8
def zsum : List Int → Nat
  | [] => 0
  | z :: r => zb z + zsum r

theorem zb_le (z : Int) : zb z ≤ 8 := by unfold zb; omega
theorem zsum_le (zs : List Int) : zsum zs ≤ 8 * zs.length := by
  induction zs with
  | nil => simp [zsum]
  | cons z r ih => have := zb_le z; simp only [zsum, List.length_cons]; omega
theorem zsum_append (a b : List Int) : zsum (a ++ b) = zsum a + zsum b := by
  induction a with
  | nil => simp [zsum]
  | cons z r ih => simp only [List.cons_append, zsum, ih]; omega
theorem zsum_take (zs : List Int) (k : Nat) (h : k < zs.length) : zsum (zs.take (k + 1)) = zsum (zs.take k) + zb (zs.getD k 0) := by
  rw [List.take_succ_eq_append_getElem h, zsum_append]
  simp [zsum, List.getD_eq_getElem?_getD, List.getElem?_eq_getElem h]

theorem pop_not (n : Nat) (h : n < 256) : popN (255 - n) 8 = 8 - popN n 8 := by
  have : ∀ n, n < 256 → popN (255 - n) 8 = 8 - popN n 8 := by decide +kernel
  exact this n h

theorem xor_max (z : Int) (h0 : 0 ≤ z) (h1 : z ≤ 255) : bits .xor .u8 IntKind.u8.max z = 255 - z := by
  obtain ⟨n, rfl⟩ := Int.eq_ofNat_of_zero_le h0
  have e : IntKind.u8.max = ((255 : Nat) : Int) := by decide
  have : ∀ n, n < 256 → 255 ^^^ n = 255 - n := by decide +kernel
  rw [e, u8_xor_nat 255 n (by decide) (by omega), this n (by omega)]
  omega

theorem zeros_any (a : Option Addr) (l cap : Nat) (zs : List Int) (w : World) (hl : l ≤ 140737488355000) (h : Reads w a l zs) :
    Calls Try.prog 11 #[.slice a l cap] w fun e w' => e = .returned (.int .i64 (zsum zs)) ∧ w = w' := by
  have hlen := h.1
  go_enter Try.func11, Try.ntmps11
  go_wp2
  go_loop [3, 8] (fun x i => ∃ (k q : Nat), k ≤ l ∧ i = .int .i64 k ∧ x = .int .i64 q ∧ Hid (q = zsum (zs.take k)))
    (fun _ i => l - (intOf i).toNat)
  case atStart => exact ⟨0, 0, Nat.zero_le _, rfl, rfl, rfl⟩
  case round =>
    obtain ⟨k, q, hk, rfl, rfl, HQ⟩ := hrel
    by_cases hlt : k < l
    · obtain ⟨b, off, rfl, hb, hcell⟩ := h.pos (by omega)
      obtain ⟨z, hz⟩ : ∃ z, z = zs.getD k 0 := ⟨_, rfl⟩
      have hcx : w.cell? ⟨b, off + k, none⟩ = some (.int .u8 z) := by rw [hz]; exact hcell k (by omega)
      have hz0 : 0 ≤ z ∧ z ≤ 255 := by rw [hz]; exact byteAt h.2.1 _
      have hq : q ≤ 8 * k := by rw [HQ.out]; have := zsum_le (zs.take k); simp at this; omega
      have HS : Hid (q + zb z = zsum (zs.take (k + 1))) := by unfold Hid; rw [zsum_take zs k (by omega), HQ.out, hz]
      obtain ⟨p, hp⟩ : ∃ p, p = zb z := ⟨_, rfl⟩
      have hp8 : p ≤ 8 := by rw [hp]; exact zb_le z
      have hx : bits .xor .u8 IntKind.u8.max z = 255 - z := xor_max z hz0.1 hz0.2
      have hq1 : popN (255 - z).toNat 8 = p := by
        rw [hp, zb, ← pop_not z.toNat (by omega)]
        congr 1
        omega
      rw [← hp] at HS
      obtain ⟨hz1, hz2⟩ := hz0
      clear hz HQ hcell h hlen hp
      go_wp2_with (go_at_call 26; refine (ones_any _ ?_ ?_ _).mono ?_; omega; omega; rintro e u ⟨rfl, rfl⟩)
      go_round
      case rel => exact ⟨k + 1, q + p, by omega, by go_num, by go_num, HS⟩
      case measure => simp [intOf]; omega
    · have hkl : k = l := by omega
      subst hkl
      have hq := HQ.out
      rw [List.take_of_length_le (by omega)] at hq
      go_wp2
      go_ret
      exact ⟨by rw [← hq]; rfl, rfl⟩

theorem flip_bad (a : Option Addr) (l cap : Nat) (j : Int) (w : World) (hl : l ≤ 140737488355000) (hm : j ≤ 9223372036854775807) (h : j < 0 ∨ l ≤ j / 8) :
    Calls Try.prog 15 #[.slice a l cap, .int .i64 j] w fun e w' => e = .returned (.int .i64 10) ∧ w = w' := by
  by_cases h1 : j < 0
  · go_enter Try.func15, Try.ntmps15
    go_wp2
    go_ret
    exact ⟨rfl, rfl⟩
  · obtain ⟨j, rfl⟩ := Int.eq_ofNat_of_zero_le (show 0 ≤ j by omega)
    have h2 : (l : Int) ≤ (j : Int) / 8 := by omega
    go_enter Try.func15, Try.ntmps15
    go_wp2
    go_ret
    exact ⟨rfl, rfl⟩

theorem rflip_bad (a : Option Addr) (l cap : Nat) (zs : List Int) (j : Int) (w : World) (hl : l ≤ 140737488355000) (hm : j ≤ 9223372036854775807) (hj : j < 0 ∨ l ≤ j / 8) (h : Reads w a l zs) :
    Calls Try.prog 16 #[.slice a l cap, .int .i64 j] w fun e w' => ∃ g c, e = .returned (.tuple #[.slice (some ⟨g, 0, none⟩) l c, .int .i64 10]) ∧ Own w' w.heap.size g l c zs ∧ Below w.heap.size w w' := by
  by_cases h1 : j < 0
  · go_enter Try.func16, Try.ntmps16
    go_wp2_with (go_at_call 28; refine (join_any _ _ _ _ _ h hl).mono ?_; rintro e w1 ⟨g, c, rfl, hown, hbel⟩)
    go_ret2
    exact ⟨g, c, rfl, hown, hbel⟩
  · obtain ⟨j, rfl⟩ := Int.eq_ofNat_of_zero_le (show 0 ≤ j by omega)
    have h2 : (l : Int) ≤ (j : Int) / 8 := by omega
    go_enter Try.func16, Try.ntmps16
    go_wp2_with (go_at_call 28; refine (join_any _ _ _ _ _ h hl).mono ?_; rintro e w1 ⟨g, c, rfl, hown, hbel⟩)
    go_ret2
    exact ⟨g, c, rfl, hown, hbel⟩

theorem grownBy_drew {a b : World} {r : Option Nat} (h : a.grownBy b r) : a.grownBy b.drew r := ⟨h.os, h.tape, h.output, h.size, h.block⟩
theorem Own.drew {w : World} {B g n cap : Nat} {xs : List Int} (h : Own w B g n cap xs) : Own w.drew B g n cap xs := h

/-- One bit turned round. -/
def flipL (xs : List Int) (j : Nat) : List Int := xs.set (j / 8) (bits .xor .u8 (xs.getD (j / 8) 0) (2 ^ (j % 8) % 256))

theorem flip_ok (B g m cap l j : Nat) (xs : List Int) (w : World) (hl : l ≤ 140737488355000) (hj : j < 8 * l) (hlm : l ≤ m) (hown : Own w B g m cap xs) :
    Calls Try.prog 15 #[.slice (some ⟨g, 0, none⟩) l cap, .int .i64 j] w fun e w' => e = .returned (.int .i64 0) ∧ Own w' B g m cap (flipL xs j) ∧ w.grownBy w' (some g) := by
  obtain ⟨z, hz⟩ : ∃ z, z = xs.getD (j / 8) 0 := ⟨_, rfl⟩
  have hcx : w.cell? ⟨g, j / 8, none⟩ = some (.int .u8 z) := by rw [hz]; exact hown.cell (j / 8) (by omega)
  have hfz : w.frozen? ⟨g, j / 8, none⟩ = false := World.ownsRow.frozenAt hown (j / 8)
  have i1 : (j : Int) / 8 < (l : Int) := by omega
  obtain ⟨hs1, hs2⟩ := hown.set (j / 8) (bits .xor .u8 z (2 ^ (j % 8) % 256))
  have HS1 : Hid (Own (w.setCell ⟨g, j / 8, none⟩ (.int .u8 (bits .xor .u8 z (2 ^ (j % 8) % 256)))) B g m cap (flipL xs j)) := by unfold flipL; rw [← hz]; exact hs1
  have HS2 : Hid (w.grownBy (w.setCell ⟨g, j / 8, none⟩ (.int .u8 (bits .xor .u8 z (2 ^ (j % 8) % 256)))) (some g)) := hs2
  clear hz hs1 hs2 hown
  go_enter Try.func15, Try.ntmps15
  go_wp2
  go_region
  all_goals go_wp2
  all_goals go_ret
  exact ⟨rfl, HS1.out.drew, grownBy_drew HS2.out⟩

set_option maxHeartbeats 400000 in
theorem rflip_ok (a : Option Addr) (cap l j : Nat) (xs : List Int) (w : World) (hl : l ≤ 140737488355000) (hj : j < 8 * l) (h : Reads w a l xs) :
    Calls Try.prog 16 #[.slice a l cap, .int .i64 j] w fun e w' => ∃ g c, e = .returned (.tuple #[.slice (some ⟨g, 0, none⟩) l c, .int .i64 0]) ∧ Own w' w.heap.size g l c (flipL xs j) ∧ Below w.heap.size w w' := by
  obtain ⟨z, hz⟩ : ∃ z, z = xs.getD (j / 8) 0 := ⟨_, rfl⟩
  have i1 : (j : Int) / 8 < (l : Int) := by omega
  have HZ : Hid (flipL xs j = xs.set (j / 8) (bits .xor .u8 z (2 ^ (j % 8) % 256))) := by unfold Hid flipL; rw [hz]
  go_enter Try.func16, Try.ntmps16
  go_wp2_with (go_at_call 28; refine (join_any _ _ _ _ _ h hl).mono ?_; rintro e w1 ⟨g, c, rfl, hown, hbel⟩; have hcx : w1.cell? ⟨g, j / 8, none⟩ = some (.int .u8 z) := (by rw [hz]; exact hown.cell (j / 8) (by omega)); have hfz : w1.frozen? ⟨g, j / 8, none⟩ = false := World.ownsRow.frozenAt hown (j / 8); clear hz)
  go_region
  all_goals go_wp2
  all_goals go_ret2
  refine ⟨g, c, rfl, ?_, ?_⟩
  · rw [HZ.out]
    exact (hown.set _ _).1.drew
  · exact (hbel.setCell (by exact hown.lt.1) _).drew

/-- The reference's count, bit by bit. -/
def zcount (zs : List Int) : Nat → Nat
  | 0 => 0
  | j + 1 => zcount zs j + if zs.getD (j / 8) 0 / 2 ^ (j % 8) % 2 = 0 then 1 else 0

theorem zcount_le (zs : List Int) (j : Nat) : zcount zs j ≤ j := by
  induction j with
  | zero => exact Nat.le_refl _
  | succ j ih => rw [zcount]; split <;> omega

theorem zcount_byte {zs : List Int} (h : ∀ x ∈ zs, 0 ≤ x ∧ x ≤ 255) (k : Nat) (i : Nat) (hi : i ≤ 8) : zcount zs (8 * k + i) + popN (zs.getD k 0).toNat i = zcount zs (8 * k) + i := by
  induction i with
  | zero => simp [popN]
  | succ i ih =>
    have ih := ih (by omega)
    have hb := byteAt h k
    obtain ⟨n, hn⟩ := Int.eq_ofNat_of_zero_le hb.1
    have e1 : (8 * k + i) / 8 = k := by omega
    have e2 : (8 * k + i) % 8 = i := by omega
    rw [← Nat.add_assoc, zcount, popN, e1, e2, hn]
    rw [hn] at ih
    have e3 : ((n : Int) / 2 ^ i % 2 = 0) ↔ n / 2 ^ i % 2 = 0 := by
      have : (n : Int) / 2 ^ i % 2 = ((n / 2 ^ i % 2 : Nat) : Int) := by simp
      rw [this]; omega
    have e4 : n / 2 ^ i % 2 = 0 ∨ n / 2 ^ i % 2 = 1 := by omega
    simp only [Int.toNat_natCast] at ih ⊢
    by_cases h0 : n / 2 ^ i % 2 = 0
    · rw [if_pos (e3.2 h0)]; omega
    · rw [if_neg (fun h => h0 (e3.1 h))]; omega

theorem zcount_all {zs : List Int} (h : ∀ x ∈ zs, 0 ≤ x ∧ x ≤ 255) (k : Nat) (hk : k ≤ zs.length) : zcount zs (8 * k) = zsum (zs.take k) := by
  induction k with
  | zero => simp [zcount, zsum]
  | succ k ih =>
    have := zcount_byte h k 8 (Nat.le_refl _)
    have h2 := popN_le (zs.getD k 0).toNat 8
    rw [zsum_take zs k (by omega), ← ih (by omega), zb]
    have e : 8 * (k + 1) = 8 * k + 8 := by omega
    rw [e]
    omega

theorem rzeros_any (a : Option Addr) (l cap : Nat) (zs : List Int) (w : World) (hl : l ≤ 140737488355000) (h : Reads w a l zs) :
    Calls Try.prog 13 #[.slice a l cap] w fun e w' => e = .returned (.int .i64 (zsum zs)) ∧ w = w' := by
  have hlen := h.1
  go_enter Try.func13, Try.ntmps13
  go_wp2
  go_loop [3, 4] (fun x i => ∃ (k q : Nat), k ≤ 8 * l ∧ i = .int .i64 k ∧ x = .int .i64 q ∧ Hid (q = zcount zs k))
    (fun _ i => 8 * l - (intOf i).toNat)
  case atStart => exact ⟨0, 0, Nat.zero_le _, rfl, rfl, rfl⟩
  case round =>
    obtain ⟨k, q, hk, rfl, rfl, HQ⟩ := hrel
    by_cases hlt : k < 8 * l
    · have hq : q ≤ k := by rw [HQ.out]; exact zcount_le zs k
      obtain ⟨r, hr⟩ : ∃ r, r = zs.getD (k / 8) 0 / 2 ^ (k % 8) % 2 := ⟨_, rfl⟩
      have hb := bit_any a l cap zs k w hl h (by omega)
      rw [← hr] at hb
      by_cases h0 : r = 0
      · have HS : Hid (q + 1 = zcount zs (k + 1)) := by unfold Hid; rw [zcount, if_pos (by rw [← hr]; exact h0), HQ.out]
        subst h0
        clear hr HQ
        go_wp2_with (go_at_call 27; refine hb.mono ?_; rintro e u ⟨rfl, rfl⟩)
        go_round
        case rel => exact ⟨k + 1, q + 1, by omega, by go_num, by go_num, HS⟩
        case measure => simp [intOf]; omega
      · have HS : Hid (q = zcount zs (k + 1)) := by unfold Hid; rw [zcount, if_neg (by rw [← hr]; exact h0), ← HQ.out]; omega
        have h1 : (r == 0) = false := by simpa using h0
        clear hr HQ h0
        go_wp2_with (go_at_call 27; refine hb.mono ?_; rintro e u ⟨rfl, rfl⟩)
        go_round
        case rel => exact ⟨k + 1, q, by omega, by go_num, by go_num, HS⟩
        case measure => simp [intOf]; omega
    · have hkl : k = 8 * l := by omega
      have hq := HQ.out
      rw [hkl, zcount_all h.2.1 l (by omega), List.take_of_length_le (by omega)] at hq
      clear hkl
      go_wp2
      go_ret
      exact ⟨by rw [← hq]; rfl, rfl⟩


theorem pow_mod_range (j : Nat) : (0 : Int) ≤ 2 ^ (j % 8) % 256 ∧ (2 : Int) ^ (j % 8) % 256 ≤ 255 := by omega

theorem flipL_append (xs ys : List Int) (j : Nat) (h : j / 8 < xs.length) : flipL (xs ++ ys) j = flipL xs j ++ ys := by
  unfold flipL
  rw [List.set_append_left _ _ h, List.getD_eq_getElem?_getD, List.getElem?_append_left h, List.getD_eq_getElem?_getD]

theorem flipL_length (xs : List Int) (j : Nat) : (flipL xs j).length = xs.length := by simp [flipL]

theorem xor_b (z y : Int) (h0 : 0 ≤ z) (h1 : z ≤ 255) (h2 : 0 ≤ y) (h3 : y ≤ 255) : 0 ≤ bits .xor .u8 z y ∧ bits .xor .u8 z y ≤ 255 ∧ bits .xor .u8 (bits .xor .u8 z y) y = z := by
  obtain ⟨z, rfl⟩ := Int.eq_ofNat_of_zero_le h0
  obtain ⟨y, rfl⟩ := Int.eq_ofNat_of_zero_le h2
  have hx : z ^^^ y < 2 ^ 8 := Nat.xor_lt_two_pow (by omega) (by omega)
  rw [u8_xor_nat z y (by omega) (by omega), u8_xor_nat _ y (by omega) (by omega), Nat.xor_assoc, Nat.xor_self, Nat.xor_zero]
  omega

theorem flipL_range (xs : List Int) (j : Nat) (h : ∀ x ∈ xs, 0 ≤ x ∧ x ≤ 255) : ∀ x ∈ flipL xs j, 0 ≤ x ∧ x ≤ 255 := by
  intro x hx
  unfold flipL at hx
  rcases List.mem_or_eq_of_mem_set hx with h1 | h1
  · exact h x h1
  · have hb := byteAt h (j / 8)
    have hp := pow_mod_range j
    have := xor_b _ _ hb.1 hb.2 hp.1 hp.2
    rw [h1]
    exact ⟨this.1, this.2.1⟩

theorem flipL_twice (xs : List Int) (j : Nat) (h : ∀ x ∈ xs, 0 ≤ x ∧ x ≤ 255) (hj : j / 8 < xs.length) : flipL (flipL xs j) j = xs := by
  have hb := byteAt h (j / 8)
  have hp := pow_mod_range j
  have := xor_b _ _ hb.1 hb.2 hp.1 hp.2
  have e : (flipL xs j).getD (j / 8) 0 = bits .xor .u8 (xs.getD (j / 8) 0) (2 ^ (j % 8) % 256) := by
    unfold flipL
    rw [getD_set _ _ _ _ hj, if_pos rfl]
  rw [flipL, e, this.2.2, flipL, List.set_set, List.getD_eq_getElem?_getD, List.getElem?_eq_getElem hj]
  exact List.set_getElem_self hj

/-- Both flips, as one. -/
theorem flips_any (l : Nat) (j : Int) (hl : l ≤ 140737488355000) (hm : j ≤ 9223372036854775807) : ∃ (code : Int) (F : List Int → List Int),
    (∀ zs : List Int, zs.length = l → (∀ x ∈ zs, 0 ≤ x ∧ x ≤ 255) → (F zs).length = l ∧ (∀ x ∈ F zs, 0 ≤ x ∧ x ≤ 255) ∧ F (F zs) = zs) ∧
    (∀ (w : World) (B g cap : Nat) (zs : List Int), zs.length = l → Own w B g (l + 3) cap (zs ++ [161, 178, 195]) →
      Calls Try.prog 15 #[.slice (some ⟨g, 0, none⟩) l cap, .int .i64 j] w fun e w' => e = .returned (.int .i64 code) ∧ Own w' B g (l + 3) cap (F zs ++ [161, 178, 195]) ∧ w.grownBy w' (some g)) ∧
    (∀ (w : World) (a : Option Addr) (cap : Nat) (zs : List Int), Reads w a l zs →
      Calls Try.prog 16 #[.slice a l cap, .int .i64 j] w fun e w' => ∃ g c, e = .returned (.tuple #[.slice (some ⟨g, 0, none⟩) l c, .int .i64 code]) ∧ Own w' w.heap.size g l c (F zs) ∧ Below w.heap.size w w') := by
  by_cases hj : j < 0 ∨ l ≤ j / 8
  · refine ⟨10, id, fun zs h1 h2 => ⟨h1, h2, rfl⟩, fun w B g cap zs h1 ho => (flip_bad _ _ _ _ _ hl hm hj).mono ?_, fun w a cap zs h => rflip_bad _ _ _ _ _ _ hl hm hj h⟩
    rintro e w' ⟨rfl, rfl⟩
    exact ⟨rfl, ho, World.grownBy.refl _ _⟩
  · obtain ⟨j, rfl⟩ := Int.eq_ofNat_of_zero_le (show 0 ≤ j by omega)
    refine ⟨0, fun zs => flipL zs j, fun zs h1 h2 => ⟨by rw [flipL_length, h1], flipL_range zs j h2, flipL_twice zs j h2 (by omega)⟩, fun w B g cap zs h1 ho => ?_, fun w a cap zs h => rflip_ok _ _ _ _ _ _ hl (by omega) h⟩
    have := flip_ok B g (l + 3) cap l j _ w hl (by omega) (by omega) ho
    rwa [flipL_append zs _ j (by omega)] at this

end Go.Proofs.Ytkcpfcnpniblcab
