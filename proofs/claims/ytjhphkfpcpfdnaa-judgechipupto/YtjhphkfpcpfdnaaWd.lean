/-
  SEAT Ytjhphkfpcpfdnaa: words: Bit, Zeros, Flip, Rise, Fall.
-/
import Derived.Test.YtjhphkfpcpfdnaaBase
import Derived.RegionTactic
import Derived.ChangeAlike
import Derived.Deep.RegionHeld3
import Derived.Deep.AppendLies
namespace Go.Proofs.Ytjhphkfpcpfdnaa
open Go.RowKit
set_option linter.unusedVariables false

/-- How many of the lowest k bits of n are 1. -/
def popN (n : Nat) : Nat → Nat
  | 0 => 0
  | k + 1 => popN n k + n / 2 ^ k % 2

theorem popN_le (n k : Nat) : popN n k ≤ k := by
  induction k with
  | zero => exact Nat.le_refl _
  | succ k ih => have := Nat.mod_lt (n / 2 ^ k) (show 2 > 0 by decide); rw [popN]; omega

/-- The zeros of a byte; of bytes. -/
def zb (z : Int) : Nat := 8 - popN z.toNat 8

def zsum : List Int → Nat
  | [] => 0
  | z :: r => zb z + zsum r

theorem zb_le (z : Int) : zb z ≤ 8 := by unfold zb; omega

theorem zsum_le (zs : List Int) : zsum zs ≤ 8 * zs.length := by
  induction zs with
  | nil => simp [zsum]
  | cons z r ih => have := zb_le z; simp only [zsum, List.length_cons]; omega

theorem zsum_append (a b : List Int) : zsum (a ++ b) = zsum a + zsum b := by
  induction a with
  | nil => simp [zsum]
  | cons z r ih => simp only [List.cons_append, zsum, ih]; omega

theorem zsum_take (zs : List Int) (k : Nat) (h : k < zs.length) : zsum (zs.take (k + 1)) = zsum (zs.take k) + zb (zs.getD k 0) := by
  rw [List.take_succ_eq_append_getElem h, zsum_append]
  simp [zsum, List.getD_eq_getElem?_getD, List.getElem?_eq_getElem h]

theorem xor_max (z : Int) (h0 : 0 ≤ z) (h1 : z ≤ 255) : bits .xor .u8 IntKind.u8.max z = 255 - z := by
  obtain ⟨n, rfl⟩ := Int.eq_ofNat_of_zero_le h0
  have e : IntKind.u8.max = ((255 : Nat) : Int) := by decide
  have : ∀ n, n < 256 → 255 ^^^ n = 255 - n := by decide +kernel
  rw [e, u8_xor_nat 255 n (by decide) (by omega), this n (by omega)]
  omega

theorem flip_bad (a : Option Addr) (l cap : Nat) (j : Int) (w : World) (hl : l ≤ 140737488355000) (hm : j ≤ 9223372036854775807) (h : j < 0 ∨ l ≤ j / 8) :
    Calls Try.prog 55 #[.slice a l cap, .int .i64 j] w fun e w' => e = .returned (.int .i64 10) ∧ w = w' := by
  by_cases h1 : j < 0
  · go_enter Try.func55, Try.ntmps55
    go_wp2
    go_ret
    exact ⟨rfl, rfl⟩
  · obtain ⟨j, rfl⟩ := Int.eq_ofNat_of_zero_le (show 0 ≤ j by omega)
    have h2 : (l : Int) ≤ (j : Int) / 8 := by omega
    go_enter Try.func55, Try.ntmps55
    go_wp2
    go_ret
    exact ⟨rfl, rfl⟩

theorem grownBy_drew {a b : World} {r : Option Nat} (h : a.grownBy b r) : a.grownBy b.drew r := ⟨h.os, h.tape, h.output, h.size, h.block⟩

theorem Own.drew {w : World} {B g n cap : Nat} {xs : List Int} (h : Own w B g n cap xs) : Own w.drew B g n cap xs := h

/-- One bit turned round. -/
def flipL (xs : List Int) (j : Nat) : List Int := xs.set (j / 8) (bits .xor .u8 (xs.getD (j / 8) 0) (2 ^ (j % 8) % 256))

theorem flip_ok (B g m cap l j : Nat) (xs : List Int) (w : World) (hl : l ≤ 140737488355000) (hj : j < 8 * l) (hlm : l ≤ m) (hown : Own w B g m cap xs) :
    Calls Try.prog 55 #[.slice (some ⟨g, 0, none⟩) l cap, .int .i64 j] w fun e w' => e = .returned (.int .i64 0) ∧ Own w' B g m cap (flipL xs j) ∧ w.grownBy w' (some g) := by
  obtain ⟨z, hz⟩ : ∃ z, z = xs.getD (j / 8) 0 := ⟨_, rfl⟩
  have hcx : w.cell? ⟨g, j / 8, none⟩ = some (.int .u8 z) := by rw [hz]; exact hown.cell (j / 8) (by omega)
  have hfz : w.frozen? ⟨g, j / 8, none⟩ = false := World.ownsRow.frozenAt hown (j / 8)
  have i1 : (j : Int) / 8 < (l : Int) := by omega
  obtain ⟨hs1, hs2⟩ := hown.set (j / 8) (bits .xor .u8 z (2 ^ (j % 8) % 256))
  have HS1 : Hid (Own (w.setCell ⟨g, j / 8, none⟩ (.int .u8 (bits .xor .u8 z (2 ^ (j % 8) % 256)))) B g m cap (flipL xs j)) := by unfold flipL; rw [← hz]; exact hs1
  have HS2 : Hid (w.grownBy (w.setCell ⟨g, j / 8, none⟩ (.int .u8 (bits .xor .u8 z (2 ^ (j % 8) % 256)))) (some g)) := hs2
  clear hz hs1 hs2 hown
  go_enter Try.func55, Try.ntmps55
  go_wp2
  go_region
  all_goals go_wp2
  all_goals go_ret
  exact ⟨rfl, HS1.out.drew, grownBy_drew HS2.out⟩

/-- The reference's count, bit by bit. -/
def zcount (zs : List Int) : Nat → Nat
  | 0 => 0
  | j + 1 => zcount zs j + if zs.getD (j / 8) 0 / 2 ^ (j % 8) % 2 = 0 then 1 else 0

theorem zcount_le (zs : List Int) (j : Nat) : zcount zs j ≤ j := by
  induction j with
  | zero => exact Nat.le_refl _
  | succ j ih => rw [zcount]; split <;> omega

theorem zcount_byte {zs : List Int} (h : ∀ x ∈ zs, 0 ≤ x ∧ x ≤ 255) (k : Nat) (i : Nat) (hi : i ≤ 8) : zcount zs (8 * k + i) + popN (zs.getD k 0).toNat i = zcount zs (8 * k) + i := by
  induction i with
  | zero => simp [popN]
  | succ i ih =>
    have ih := ih (by omega)
    have hb := byteAt h k
    obtain ⟨n, hn⟩ := Int.eq_ofNat_of_zero_le hb.1
    have e1 : (8 * k + i) / 8 = k := by omega
    have e2 : (8 * k + i) % 8 = i := by omega
    rw [← Nat.add_assoc, zcount, popN, e1, e2, hn]
    rw [hn] at ih
    have e3 : ((n : Int) / 2 ^ i % 2 = 0) ↔ n / 2 ^ i % 2 = 0 := by
      have : (n : Int) / 2 ^ i % 2 = ((n / 2 ^ i % 2 : Nat) : Int) := by simp
      rw [this]; omega
    have e4 : n / 2 ^ i % 2 = 0 ∨ n / 2 ^ i % 2 = 1 := by omega
    simp only [Int.toNat_natCast] at ih ⊢
    by_cases h0 : n / 2 ^ i % 2 = 0
    · rw [if_pos (e3.2 h0)]; omega
    · rw [if_neg (fun h => h0 (e3.1 h))]; omega

theorem zcount_all {zs : List Int} (h : ∀ x ∈ zs, 0 ≤ x ∧ x ≤ 255) (k : Nat) (hk : k ≤ zs.length) : zcount zs (8 * k) = zsum (zs.take k) := by
  induction k with
  | zero => simp [zcount, zsum]
  | succ k ih =>
    have := zcount_byte h k 8 (Nat.le_refl _)
    have h2 := popN_le (zs.getD k 0).toNat 8
    rw [zsum_take zs k (by omega), ← ih (by omega), zb]
    have e : 8 * (k + 1) = 8 * k + 8 := by omega
    rw [e]
    omega

theorem pow_mod_range (j : Nat) : (0 : Int) ≤ 2 ^ (j % 8) % 256 ∧ (2 : Int) ^ (j % 8) % 256 ≤ 255 := by omega

theorem flipL_length (xs : List Int) (j : Nat) : (flipL xs j).length = xs.length := by simp [flipL]

theorem xor_b (z y : Int) (h0 : 0 ≤ z) (h1 : z ≤ 255) (h2 : 0 ≤ y) (h3 : y ≤ 255) : 0 ≤ bits .xor .u8 z y ∧ bits .xor .u8 z y ≤ 255 ∧ bits .xor .u8 (bits .xor .u8 z y) y = z := by
  obtain ⟨z, rfl⟩ := Int.eq_ofNat_of_zero_le h0
  obtain ⟨y, rfl⟩ := Int.eq_ofNat_of_zero_le h2
  have hx : z ^^^ y < 2 ^ 8 := Nat.xor_lt_two_pow (by omega) (by omega)
  rw [u8_xor_nat z y (by omega) (by omega), u8_xor_nat _ y (by omega) (by omega), Nat.xor_assoc, Nat.xor_self, Nat.xor_zero]
  omega

theorem flipL_range (xs : List Int) (j : Nat) (h : ∀ x ∈ xs, 0 ≤ x ∧ x ≤ 255) : ∀ x ∈ flipL xs j, 0 ≤ x ∧ x ≤ 255 := by
  intro x hx
  unfold flipL at hx
  rcases List.mem_or_eq_of_mem_set hx with h1 | h1
  · exact h x h1
  · have hb := byteAt h (j / 8)
    have hp := pow_mod_range j
    have := xor_b _ _ hb.1 hb.2 hp.1 hp.2
    rw [h1]
    exact ⟨this.1, this.2.1⟩

theorem flipL_twice (xs : List Int) (j : Nat) (h : ∀ x ∈ xs, 0 ≤ x ∧ x ≤ 255) (hj : j / 8 < xs.length) : flipL (flipL xs j) j = xs := by
  have hb := byteAt h (j / 8)
  have hp := pow_mod_range j
  have := xor_b _ _ hb.1 hb.2 hp.1 hp.2
  have e : (flipL xs j).getD (j / 8) 0 = bits .xor .u8 (xs.getD (j / 8) 0) (2 ^ (j % 8) % 256) := by
    unfold flipL
    rw [getD_set _ _ _ _ hj, if_pos rfl]
  rw [flipL, e, this.2.2, flipL, List.set_set, List.getD_eq_getElem?_getD, List.getElem?_eq_getElem hj]
  exact List.set_getElem_self hj

/-- The mask's byte of a number. -/
def mk (zs : List Int) (fill : Int) (i : Nat) : Int := if i < zs.length then zs.getD i 0 else fill

theorem mk_range {zs : List Int} {fill : Int} (h : ∀ x ∈ zs, 0 ≤ x ∧ x ≤ 255) (hf : 0 ≤ fill ∧ fill ≤ 255) (i : Nat) : 0 ≤ mk zs fill i ∧ mk zs fill i ≤ 255 := by
  unfold mk
  split
  · exact byteAt h i
  · exact hf

theorem maskAt_any (a : Option Addr) (l cap : Nat) (zs : List Int) (fill : Int) (i : Nat) (w : World) (hl : l ≤ 140737488355000) (hi : i ≤ 140737488355000) (h : Reads w a l zs) :
    Calls Try.prog 66 #[.slice a l cap, .int .u8 fill, .int .i64 i] w fun e w' => e = .returned (.int .u8 (mk zs fill i)) ∧ w = w' := by
  have hlen := h.1
  by_cases hlt : i < l
  · obtain ⟨b, off, rfl, hb, hcell⟩ := h.pos (by omega)
    have hm : mk zs fill i = zs.getD i 0 := if_pos (by omega)
    obtain ⟨z, hz⟩ : ∃ z, z = zs.getD i 0 := ⟨_, rfl⟩
    have hcx : w.cell? ⟨b, off + i, none⟩ = some (.int .u8 z) := by rw [hz]; exact hcell i hlt
    rw [hm, ← hz]
    clear hcell hz h hlen hm
    go_enter Try.func66, Try.ntmps66
    go_wp2
    go_ret
    exact ⟨rfl, rfl⟩
  · have hm : mk zs fill i = fill := if_neg (by omega)
    rw [hm]
    clear hm
    go_enter Try.func66, Try.ntmps66
    go_wp2
    go_ret
    exact ⟨rfl, rfl⟩

/-- Rise, byte by byte. -/
def riseL (old mask : List Int) (fill : Int) : Nat → List Int
  | 0 => []
  | k + 1 => riseL old mask fill k ++ [bits .or .u8 (old.getD k 0) (mk mask fill k)]

theorem riseL_length (old mask : List Int) (fill : Int) (k : Nat) : (riseL old mask fill k).length = k := by
  induction k with
  | zero => rfl
  | succ k ih => simp [riseL, ih]

theorem made_full (w : World) (n : Nat) (hn : n ≤ 9223372036854775807) : Own (w.alloc (.cells (madeCells #[.int .u8 0] n) 5)) w.heap.size w.heap.size n n (List.replicate n 0) := by
  have h := World.ownsRow_lit (base := w.heap.size) (e := 5) (size := 1) w (madeCells #[.int .u8 0] n) n (Nat.le_refl _) (by simp [maxLen]; omega) (by simp [madeCells])
  have e : (madeCells #[Value.int .u8 0] n).toList = (List.replicate n (0 : Int)).map (Value.int .u8) := by
    refine List.ext_getElem (by simp [madeCells]) fun i h1 h2 => ?_
    simp [madeCells, Nat.mod_one]
  rw [e] at h
  exact h

theorem Reads.drew {w : World} {a : Option Addr} {len : Nat} {zs : List Int} (h : Reads w a len zs) : Reads w.drew a len zs := h

theorem grow_set (xs : List Int) {k : Nat} (hx : xs.length = k) (l : Nat) (h : k < l) (z : Int) : (xs ++ List.replicate (l - k) 0).set k z = xs ++ [z] ++ List.replicate (l - (k + 1)) 0 := by
  rw [List.set_append_right _ _ (by omega), hx, Nat.sub_self]
  have e : l - k = (l - (k + 1)) + 1 := by omega
  rw [e, List.replicate_succ, List.set_cons_zero]
  simp

set_option maxHeartbeats 1000000 in
theorem rise_any (a : Option Addr) (l cap : Nat) (zs : List Int) (am : Option Addr) (lm cm : Nat) (ms : List Int) (fill : Int) (w : World) (hl : l ≤ 140737488351232) (hlm : lm ≤ 140737488351232) (h : Reads w a l zs) (hm : Reads w am lm ms) :
    Calls Try.prog 63 #[.slice a l cap, .slice am lm cm, .int .u8 fill] w fun e w' => ∃ g c, e = .returned (.slice (some ⟨g, 0, none⟩) l c) ∧ Own w' w.heap.size g l c (riseL zs ms fill l) ∧ Below w.heap.size w w' := by
  obtain ⟨i0, hi, hz0, hz1, hz2⟩ := info_parts info5
  have hlen := h.1
  have hmk : ∀ u : World, (Instr.makeSlice 32 (.int .i64 (l : Int)) (.int .i64 (l : Int))).run Try.prog u =
      .ok (.slice (some ⟨u.heap.size, 0, none⟩) l l) (u.alloc (.cells (madeCells #[.int .u8 0] l) 5)) := fun u => by
    have h := run_make (P := Try.prog) u 32 5 i0 (.int .u8 0) Try.underlying32 hi hz0 .i64 .i64 (l : Int) (l : Int) (by omega) (Int.le_refl _) (by rw [hz2]; omega) (by omega)
    simpa [hz1, Value.cells] using h
  have hmf := made_full w l (by omega)
  go_enter Try.func63, Try.ntmps63
  go_wp2
  go_loopw [14] (fun i wr => ∃ k : Nat, k ≤ l ∧ i = .int .i64 k ∧ Own wr w.heap.size w.heap.size l l (riseL zs ms fill k ++ List.replicate (l - k) 0) ∧ Below w.heap.size w wr)
    (fun i _ => l - (intOf i).toNat)
  case atStart => exact ⟨0, Nat.zero_le _, rfl, by simpa [riseL] using hmf, (Below.refl w.heap.size w).alloc (Nat.le_refl _) _⟩
  case round =>
    obtain ⟨k, hk, rfl, hown, hbel⟩ := hrel
    by_cases hlt : k < l
    · obtain ⟨b, off, rfl, hb, hcell⟩ := h.pos (by omega)
      obtain ⟨z, hz⟩ : ∃ z, z = zs.getD k 0 := ⟨_, rfl⟩
      have hcx : wr.cell? ⟨b, off + k, none⟩ = some (.int .u8 z) := by rw [hz]; exact (hbel.cell (by exact hb)).trans (hcell k hlt)
      have hcy := hown.cell k hlt
      have hfz : wr.frozen? ⟨w.heap.size, k, none⟩ = false := World.ownsRow.frozenAt hown k
      have hmr := hm.below hbel
      have i1 : (k : Int) < (l : Int) := by omega
      have i2 : (0 : Int) ≤ (k : Int) := by omega
      have hd1 : decide ((k : Int) < (l : Int)) = true := decide_eq_true i1
      have hbn : b ≠ w.heap.size := by omega
      have hS := hown.set k (bits .or .u8 z (mk ms fill k))
      have HS : Hid (Own (wr.setCell ⟨w.heap.size, k, none⟩ (.int .u8 (bits .or .u8 z (mk ms fill k)))) w.heap.size w.heap.size l l (riseL zs ms fill (k + 1) ++ List.replicate (l - (k + 1)) 0)) := by
        have h1 := hS.1
        rw [grow_set (riseL zs ms fill k) (riseL_length _ _ _ _) l hlt] at h1
        rw [riseL, ← hz]
        exact h1
      have HB : Hid (Below w.heap.size w (wr.setCell ⟨w.heap.size, k, none⟩ (.int .u8 (bits .or .u8 z (mk ms fill k))))) := hbel.setCell (Nat.le_refl _) _
      clear hcell hz h hS hown hlen hm
      go_wp2
      go_region_held3 (fun w' => w'.cell? ⟨b, off + k, none⟩ = some (.int .u8 z))
        (first | exact hcx | exact (Below.cell ((Below.setCell (Below.refl w.heap.size wr) (p := ⟨w.heap.size, k, none⟩) (Nat.le_refl _) _).drew) (by exact hb)).trans hcx)
        (first | (go_at_call 66; refine (maskAt_any _ _ _ ms _ k _ ?_ ?_ ?_).mono ?_; omega; omega; exact hmr.drew; rintro e u ⟨rfl, rfl⟩))
      go_wp2
      go_roundw
      case rel => exact ⟨k + 1, by omega, by go_num, HS.out, HB.out.drew⟩
      case measure => simp [intOf]; omega
    · have hkl : k = l := by omega
      subst hkl
      rw [Nat.sub_self, List.replicate_zero, List.append_nil] at hown
      go_wp2
      go_ret
      exact ⟨_, _, rfl, hown, hbel⟩

/-- Fall, byte by byte. -/
def fb (o x m : Int) : Int := bits .and .u8 o (bits .or .u8 x (bits .xor .u8 IntKind.u8.max m))

def fallL (old want mask : List Int) (fill : Int) : Nat → List Int
  | 0 => []
  | k + 1 => fallL old want mask fill k ++ [fb (old.getD k 0) (want.getD k 0) (mk mask fill k)]

theorem fallL_length (old want mask : List Int) (fill : Int) (k : Nat) : (fallL old want mask fill k).length = k := by
  induction k with
  | zero => rfl
  | succ k ih => simp [fallL, ih]

set_option maxHeartbeats 1000000 in
theorem fall_ok (a : Option Addr) (l cap : Nat) (zs : List Int) (a' : Option Addr) (cap' : Nat) (xs : List Int) (am : Option Addr) (lm cm : Nat) (ms : List Int) (fill : Int) (w : World) (hl : l ≤ 140737488351232) (hlm : lm ≤ 140737488355000) (h : Reads w a l zs) (hx : Reads w a' l xs) (hm : Reads w am lm ms) :
    Calls Try.prog 58 #[.slice a l cap, .slice a' l cap', .slice am lm cm, .int .u8 fill] w fun e w' => ∃ g c, e = .returned (.tuple #[.slice (some ⟨g, 0, none⟩) l c, .int .i64 0]) ∧ Own w' w.heap.size g l c (fallL zs xs ms fill l) ∧ Below w.heap.size w w' := by
  obtain ⟨i0, hi, hz0, hz1, hz2⟩ := info_parts info5
  have hlen := h.1
  have hmk : ∀ u : World, (Instr.makeSlice 32 (.int .i64 (l : Int)) (.int .i64 (l : Int))).run Try.prog u =
      .ok (.slice (some ⟨u.heap.size, 0, none⟩) l l) (u.alloc (.cells (madeCells #[.int .u8 0] l) 5)) := fun u => by
    have h := run_make (P := Try.prog) u 32 5 i0 (.int .u8 0) Try.underlying32 hi hz0 .i64 .i64 (l : Int) (l : Int) (by omega) (Int.le_refl _) (by rw [hz2]; omega) (by omega)
    simpa [hz1, Value.cells] using h
  have hmf := made_full w l (by omega)
  go_enter Try.func58, Try.ntmps58
  go_wp2
  go_loopw [22] (fun i wr => ∃ k : Nat, k ≤ l ∧ i = .int .i64 k ∧ Own wr w.heap.size w.heap.size l l (fallL zs xs ms fill k ++ List.replicate (l - k) 0) ∧ Below w.heap.size w wr)
    (fun i _ => l - (intOf i).toNat)
  case atStart => exact ⟨0, Nat.zero_le _, rfl, by simpa [fallL] using hmf, (Below.refl w.heap.size w).alloc (Nat.le_refl _) _⟩
  case round =>
    obtain ⟨k, hk, rfl, hown, hbel⟩ := hrel
    by_cases hlt : k < l
    · obtain ⟨b, off, rfl, hb, hcell⟩ := h.pos (by omega)
      obtain ⟨b', off', rfl, hb', hcell'⟩ := hx.pos (by omega)
      obtain ⟨z, hz⟩ : ∃ z, z = zs.getD k 0 := ⟨_, rfl⟩
      obtain ⟨x, hxx⟩ : ∃ x, x = xs.getD k 0 := ⟨_, rfl⟩
      have hcx : wr.cell? ⟨b, off + k, none⟩ = some (.int .u8 z) := by rw [hz]; exact (hbel.cell (by exact hb)).trans (hcell k hlt)
      have hcx' : wr.cell? ⟨b', off' + k, none⟩ = some (.int .u8 x) := by rw [hxx]; exact (hbel.cell (by exact hb')).trans (hcell' k hlt)
      have hcy := hown.cell k hlt
      have hfz : wr.frozen? ⟨w.heap.size, k, none⟩ = false := World.ownsRow.frozenAt hown k
      have hmr := hm.below hbel
      have i1 : (k : Int) < (l : Int) := by omega
      have i2 : (0 : Int) ≤ (k : Int) := by omega
      have hd1 : decide ((k : Int) < (l : Int)) = true := decide_eq_true i1
      have hS := hown.set k (fb z x (mk ms fill k))
      have HS : Hid (Own (wr.setCell ⟨w.heap.size, k, none⟩ (.int .u8 (fb z x (mk ms fill k)))) w.heap.size w.heap.size l l (fallL zs xs ms fill (k + 1) ++ List.replicate (l - (k + 1)) 0)) := by
        have h1 := hS.1
        rw [grow_set (fallL zs xs ms fill k) (fallL_length _ _ _ _ _) l hlt] at h1
        rw [fallL, ← hz, ← hxx]
        exact h1
      have HB : Hid (Below w.heap.size w (wr.setCell ⟨w.heap.size, k, none⟩ (.int .u8 (fb z x (mk ms fill k))))) := hbel.setCell (Nat.le_refl _) _
      clear hcell hcell' hz hxx h hx hS hown hlen hm
      go_wp2
      go_region_held3 (fun w' => w'.cell? ⟨b, off + k, none⟩ = some (.int .u8 z) ∧ w'.cell? ⟨b', off' + k, none⟩ = some (.int .u8 x))
        (first | exact ⟨hcx, hcx'⟩ | exact ⟨(Below.cell ((Below.setCell (Below.refl w.heap.size wr) (p := ⟨w.heap.size, k, none⟩) (Nat.le_refl _) _).drew) (by exact hb)).trans hcx, (Below.cell ((Below.setCell (Below.refl w.heap.size wr) (p := ⟨w.heap.size, k, none⟩) (Nat.le_refl _) _).drew) (by exact hb')).trans hcx'⟩)
        (first | (go_at_call 66; refine (maskAt_any _ _ _ ms _ k _ ?_ ?_ ?_).mono ?_; omega; omega; exact hmr.drew; rintro e u ⟨rfl, rfl⟩))
      go_wp2
      go_roundw
      case rel => exact ⟨k + 1, by omega, by go_num, HS.out, HB.out.drew⟩
      case measure => simp [intOf]; omega
    · have hkl : k = l := by omega
      subst hkl
      rw [Nat.sub_self, List.replicate_zero, List.append_nil] at hown
      go_wp2
      go_ret2
      exact ⟨_, _, rfl, hown, hbel⟩

theorem max8 : IntKind.u8.max = ((255 : Nat) : Int) := by decide

theorem nat_of {z : Int} (h : 0 ≤ z ∧ z ≤ 255) : ∃ n : Nat, z = n ∧ n < 256 := by
  obtain ⟨n, rfl⟩ := Int.eq_ofNat_of_zero_le h.1
  exact ⟨n, rfl, by omega⟩

theorem fb_nat (o x m : Nat) (ho : o < 256) (hx : x < 256) (hm : m < 256) : fb (o : Int) (x : Int) (m : Int) = ((o &&& (x ||| (255 ^^^ m)) : Nat) : Int) := by
  have h1 : 255 ^^^ m < 256 := Nat.xor_lt_two_pow (n := 8) (by omega) hm
  have h2 : x ||| (255 ^^^ m) < 256 := Nat.or_lt_two_pow (n := 8) hx h1
  unfold fb
  rw [max8, u8_xor_nat 255 m (by omega) hm, u8_or_nat x _ hx h1, u8_and_nat o _ ho h2]

theorem fb_range {o x m : Int} (ho : 0 ≤ o ∧ o ≤ 255) (hx : 0 ≤ x ∧ x ≤ 255) (hm : 0 ≤ m ∧ m ≤ 255) : 0 ≤ fb o x m ∧ fb o x m ≤ 255 := by
  obtain ⟨o, rfl, ho'⟩ := nat_of ho
  replace ho := ho'
  obtain ⟨x, rfl, hx'⟩ := nat_of hx
  replace hx := hx'
  obtain ⟨m, rfl, hm'⟩ := nat_of hm
  replace hm := hm'
  have h3 : o &&& (x ||| (255 ^^^ m)) < 256 := Nat.lt_of_le_of_lt Nat.and_le_left ho
  rw [fb_nat o x m ho hx hm]
  omega

theorem fallL_range (zs xs ms : List Int) (fill : Int) (hz : ∀ x ∈ zs, 0 ≤ x ∧ x ≤ 255) (hx : ∀ x ∈ xs, 0 ≤ x ∧ x ≤ 255) (hm : ∀ x ∈ ms, 0 ≤ x ∧ x ≤ 255) (hf : 0 ≤ fill ∧ fill ≤ 255) (k : Nat) : ∀ x ∈ fallL zs xs ms fill k, 0 ≤ x ∧ x ≤ 255 := by
  induction k with
  | zero => intro x h; simp [fallL] at h
  | succ k ih =>
    intro x h
    rcases List.mem_append.1 h with h | h
    · exact ih x h
    · obtain rfl := List.mem_singleton.1 h
      exact fb_range (byteAt hz k) (byteAt hx k) (mk_range hm hf k)

theorem or_range {o m : Int} (ho : 0 ≤ o ∧ o ≤ 255) (hm : 0 ≤ m ∧ m ≤ 255) : 0 ≤ bits .or .u8 o m ∧ bits .or .u8 o m ≤ 255 := by
  obtain ⟨o, rfl, h1⟩ := nat_of ho
  obtain ⟨m, rfl, h2⟩ := nat_of hm
  rw [u8_or o m (by omega) (by omega) (by omega) (by omega)]
  have : o ||| m < 2 ^ 8 := Nat.or_lt_two_pow h1 h2
  simp
  omega

theorem riseL_range (zs ms : List Int) (fill : Int) (hz : ∀ x ∈ zs, 0 ≤ x ∧ x ≤ 255) (hm : ∀ x ∈ ms, 0 ≤ x ∧ x ≤ 255) (hf : 0 ≤ fill ∧ fill ≤ 255) (k : Nat) : ∀ x ∈ riseL zs ms fill k, 0 ≤ x ∧ x ≤ 255 := by
  induction k with
  | zero => intro x h; simp [riseL] at h
  | succ k ih =>
    intro x h
    rcases List.mem_append.1 h with h | h
    · exact ih x h
    · obtain rfl := List.mem_singleton.1 h
      exact or_range (byteAt hz k) (mk_range hm hf k)

theorem own_base {w : World} {B B' n : Nat} {v : Value} {xs : List Value} (h : w.ownsRow B 5 1 v n xs) (hb : B' ≤ B) : w.ownsRow B' 5 1 v n xs :=
  ⟨h.1, h.2.imp id fun ⟨g, c, cur, h1, h2, h3⟩ => ⟨g, c, cur, h1, Nat.le_trans hb h2, h3⟩⟩

theorem reads_of {w : World} {B n c : Nat} {a : Option Addr} {xs : List Int} (h : w.ownsRow B 5 1 (.slice a n c) n (xs.map (Value.int .u8))) (hr : ∀ x ∈ xs, 0 ≤ x ∧ x ≤ 255) : Reads w a n xs := by
  obtain ⟨a', c', e, hrd⟩ := own_any h hr
  cases e
  exact hrd
end Go.Proofs.Ytjhphkfpcpfdnaa
