/-
  SEAT Ytkcpfcnpniblcaa: words.Put, the reference's Put, kept.
-/
import Derived.Test.YtkcpfcnpniblcaaKitB
import Derived.Deep.QuietTactic
import Derived.BigQuiet
namespace Go.Proofs.Ytkcpfcnpniblcaa
open Go.RowKit

def putL (xs : List Int) (p : Nat) (v : Int) : Nat → List Int
  | 0 => xs
  | k + 1 => (putL xs p v k).set (p + k) (v / 256 ^ k % 256)

theorem put_size (a : Option Addr) (l c : Nat) (t n v : Int) (w : World) (h : n < 1 ∨ 8 < n) :
    Calls Try.prog 16 #[.slice a l c, .int .i64 t, .int .i64 n, .int .u64 v] w fun e w' => e = .returned (.int .i64 11) ∧ w = w' := by
  go_enter Try.func16, Try.ntmps16
  go_wp2_with (first | (go_at_call 18; refine (sizeMayBe_no _ _ h).mono ?_; rintro e w' ⟨rfl, rfl⟩))
  go_ret
  exact ⟨rfl, rfl⟩

theorem put_wide (a : Option Addr) (l c : Nat) (t n v : Int) (w : World) (h1 : 1 ≤ n) (h2 : n ≤ 8) (hf : (v / 2 ^ (8 * n).toNat == 0) = false) :
    Calls Try.prog 16 #[.slice a l c, .int .i64 t, .int .i64 n, .int .u64 v] w fun e w' => e = .returned (.int .i64 11) ∧ w = w' := by
  go_enter Try.func16, Try.ntmps16
  go_wp2_with (first | (go_at_call 18; refine (sizeMayBe_yes _ _ h1 h2).mono ?_; rintro e w' ⟨rfl, rfl⟩) | (go_at_call 20; refine (fits_any _ _ _ h1 h2).mono ?_; rintro e w' ⟨rfl, rfl⟩))
  go_ret
  exact ⟨rfl, rfl⟩

theorem put_short (a : Option Addr) (l c : Nat) (t n v : Int) (w : World) (hl : (l : Int) ≤ 9223372036854775807) (h1 : 1 ≤ n) (h2 : n ≤ 8) (hf : (v / 2 ^ (8 * n).toNat == 0) = true) (h : t < 0 ∨ l - n < t) :
    Calls Try.prog 16 #[.slice a l c, .int .i64 t, .int .i64 n, .int .u64 v] w fun e w' => e = .returned (.int .i64 10) ∧ w = w' := by
  go_enter Try.func16, Try.ntmps16
  go_wp2_with (first | (go_at_call 18; refine (sizeMayBe_yes _ _ h1 h2).mono ?_; rintro e w' ⟨rfl, rfl⟩) | (go_at_call 20; refine (fits_any _ _ _ h1 h2).mono ?_; rintro e w' ⟨rfl, rfl⟩) | (go_at_call 19; refine (reaches_no _ _ _ _ _ _ hl h1 h2 h).mono ?_; rintro e w' ⟨rfl, rfl⟩))
  go_ret
  exact ⟨rfl, rfl⟩

theorem pow256 (v : Int) (k : Nat) : v / 256 ^ k % 256 = v / 2 ^ (8 * k) % 256 := by
  rw [Int.pow_mul]
  rfl

theorem quo256 {v q : Int} {k : Nat} (h : Hid (q = v / 256 ^ k)) : Hid (q / 256 = v / 256 ^ (k + 1)) := by
  unfold Hid at *
  rw [h, Int.pow_succ, Int.ediv_ediv_of_nonneg (Int.le_of_lt (Int.pow_pos (by decide)))]

theorem putL_step (zs : List Int) (t : Nat) {v q : Int} {k : Nat} (h : Hid (q = v / 256 ^ k)) : putL zs t v (k + 1) = (putL zs t v k).set (t + k) (q % 256) := by
  rw [putL, h.out]

theorem grownBy_trans {a b c : World} {r : Option Nat} (h : a.grownBy b r) (k : b.grownBy c r) : a.grownBy c r :=
  ⟨k.os.trans h.os, k.tape.trans h.tape, k.output.trans h.output, Nat.le_trans h.size k.size, fun i hi hr => (k.block i (Nat.lt_of_lt_of_le hi h.size) hr).trans (h.block i hi hr)⟩

theorem putL_length (xs : List Int) (p : Nat) (v : Int) (k : Nat) : (putL xs p v k).length = xs.length := by
  induction k with
  | zero => rfl
  | succ k ih => simp [putL, ih]

theorem Own.set {w : World} {B g n cap : Nat} {xs : List Int} (h : Own w B g n cap xs) (j : Nat) (z : Int) : Own (w.setCell ⟨g, j, none⟩ (.int .u8 z)) B g n cap (xs.set j z) ∧ w.grownBy (w.setCell ⟨g, j, none⟩ (.int .u8 z)) (some g) := by
  unfold Own at *
  rw [List.map_set]
  exact World.ownsRow.stored h j (.int .u8 z)

theorem Own.len {w : World} {B g n cap : Nat} {xs : List Int} (h : Own w B g n cap xs) : xs.length = n := by
  have := h.1
  simpa using this

theorem Own.cell {w : World} {B g n cap : Nat} {xs : List Int} (h : Own w B g n cap xs) (j : Nat) (hj : j < n) : w.cell? ⟨g, j, none⟩ = some (.int .u8 (xs.getD j 0)) := by
  have hl := h.len
  have h1 := World.ownsRow.cellAt h j (by omega)
  rw [h1, List.getElem?_map, List.getElem?_eq_getElem (by omega)]
  simp [List.getD, List.getElem?_eq_getElem (show j < xs.length by omega)]

set_option maxHeartbeats 400000 in
theorem put_ok (B g m cap l : Nat) (t n : Nat) (v : Int) (xs : List Int) (w : World) (hl : (l : Int) ≤ 140737488355000) (h1 : 1 ≤ n) (h2 : n ≤ 8) (hf : (v / 2 ^ (8 * (n : Int)).toNat == 0) = true) (ht : t + n ≤ l) (hlm : l ≤ m) (_hv : 0 ≤ v)
    (hown : Own w B g m cap xs) :
    Calls Try.prog 16 #[.slice (some ⟨g, 0, none⟩) l cap, .int .i64 t, .int .i64 n, .int .u64 v] w fun e w' => e = .returned (.int .i64 0) ∧ Own w' B g m cap (putL xs t v n) ∧ w.grownBy w' (some g) := by
  go_enter Try.func16, Try.ntmps16
  go_wp2_with (first | (go_at_call 18; refine (sizeMayBe_yes _ _ (by omega) (by omega)).mono ?_; rintro e w' ⟨rfl, rfl⟩) | (go_at_call 20; refine (fits_any _ _ _ (by omega) (by omega)).mono ?_; rintro e w' ⟨rfl, rfl⟩) | (go_at_call 19; refine (reaches_yes _ _ _ _ _ _ (by omega) (by omega) (by omega) (by omega) (by omega)).mono ?_; rintro e w' ⟨rfl, rfl⟩))
  go_loopw [25] (fun i wr => ∃ k : Nat, k ≤ n ∧ i = .int .i64 k ∧ Own wr B g m cap (putL xs t v k) ∧ w.grownBy wr (some g))
    (fun i _ => n - (intOf i).toNat)
  case atStart => exact ⟨0, Nat.zero_le _, rfl, hown, World.grownBy.refl _ _⟩
  case round =>
    obtain ⟨k, hk, rfl, hownr, hg⟩ := hrel
    by_cases hlt : k < n
    · have hcx := hownr.cell (t + k) (by omega)
      have hfz : wr.frozen? ⟨g, t + k, none⟩ = false := World.ownsRow.frozenAt hownr (t + k)
      have hs := hownr.set (t + k) (v / 2 ^ (8 * k) % 256)
      have hp : putL xs t v (k + 1) = (putL xs t v k).set (t + k) (v / 2 ^ (8 * k) % 256) := by rw [putL, pow256]
      rw [← hp] at hs
      obtain ⟨hs1, hs2⟩ := hs
      have HS : Hid (Own (wr.setCell ⟨g, t + k, none⟩ (.int .u8 (v / 2 ^ (8 * k) % 256))) B g m cap (putL xs t v (k + 1))) := hs1
      have HG : Hid (w.grownBy (wr.setCell ⟨g, t + k, none⟩ (.int .u8 (v / 2 ^ (8 * k) % 256))) (some g)) := grownBy_trans hg hs2
      clear hs1 hs2 hp
      go_wp2
      go_roundw
      case rel => exact ⟨k + 1, by omega, by go_num, HS.out, HG.out⟩
      case measure => simp [intOf]; omega
    · have hkn : k = n := by omega
      subst hkn
      go_wp2
      go_ret
      exact ⟨rfl, hownr, hg⟩

set_option maxHeartbeats 400000 in
theorem rput_ok (a : Option Addr) (l cap : Nat) (t n : Nat) (v : Int) (zs : List Int) (w : World) (hl : l ≤ 140737488355000) (h1 : 1 ≤ n) (h2 : n ≤ 8) (hf : (v / 2 ^ (8 * (n : Int)).toNat == 0) = true) (ht : t + n ≤ l) (hv : 0 ≤ v) (hv2 : v < 18446744073709551616)
    (h : Reads w a l zs) :
    Calls Try.prog 17 #[.slice a l cap, .int .i64 t, .int .i64 n, .int .u64 v] w fun e w' => ∃ g c, e = .returned (.tuple #[.slice (some ⟨g, 0, none⟩) l c, .int .i64 0]) ∧ Own w' w.heap.size g l c (putL zs t v n) ∧ Below w.heap.size w w' := by
  go_enter Try.func17, Try.ntmps17
  go_wp2_with (first | (go_at_call 21; refine (power_any _ _ _ (by omega) (by omega) hv2 hv).mono ?_; rintro e w' ⟨rfl, rfl⟩) | (go_at_call 22; refine (join_any _ _ _ _ _ h hl).mono ?_; rintro e w1 ⟨g, c, rfl, hown, hbel⟩))
  go_loopw [3, 11] (fun x i wr => ∃ k : Nat, k ≤ n ∧ i = .int .i64 k ∧ (∃ q, x = .int .u64 q ∧ Hid (q = v / 256 ^ k) ∧ 0 ≤ q ∧ q < 18446744073709551616) ∧ Own wr w.heap.size g l c (putL zs t v k) ∧ Below w.heap.size w wr)
    (fun _ i _ => n - (intOf i).toNat)
  case atStart => exact ⟨0, Nat.zero_le _, rfl, ⟨v, rfl, by simp [Hid], hv, hv2⟩, hown, hbel⟩
  case round =>
    obtain ⟨k, hk, rfl, ⟨q, rfl, HQ, hq0, hq1⟩, hownr, hg⟩ := hrel
    by_cases hlt : k < n
    · have hcx := hownr.cell (t + k) (by omega)
      have hfz : wr.frozen? ⟨g, t + k, none⟩ = false := World.ownsRow.frozenAt hownr (t + k)
      have hgB : w.heap.size ≤ g := by obtain ⟨_, _, e, _, _, h3, _⟩ := own_shape hownr (by omega); simp at e; omega
      go_wp2
      go_roundw
      case rel => exact ⟨k + 1, by omega, by go_num, ⟨q / 256, rfl, quo256 HQ, by omega, by omega⟩, by rw [putL_step zs t HQ]; exact (hownr.set (t + k) (q % 256)).1, hg.setCell (by exact hgB) _⟩
      case measure => simp [intOf]; omega
    · have hkn : k = n := by omega
      subst hkn
      go_wp2
      go_ret2
      exact ⟨g, c, rfl, hownr, hg⟩

theorem rput_size (a : Option Addr) (l cap : Nat) (t n v : Int) (zs : List Int) (w : World) (hl : l ≤ 140737488355000) (hn : n < 1 ∨ 8 < n) (h : Reads w a l zs) :
    Calls Try.prog 17 #[.slice a l cap, .int .i64 t, .int .i64 n, .int .u64 v] w fun e w' => ∃ g c, e = .returned (.tuple #[.slice (some ⟨g, 0, none⟩) l c, .int .i64 11]) ∧ Own w' w.heap.size g l c zs ∧ Below w.heap.size w w' := by
  by_cases h1 : n < 1
  · go_enter Try.func17, Try.ntmps17
    go_wp2_with (first | (go_at_call 22; refine (join_any _ _ _ _ _ h hl).mono ?_; rintro e w1 ⟨g, c, rfl, hown, hbel⟩))
    go_ret2
    exact ⟨g, c, rfl, hown, hbel⟩
  · have h2 : 8 < n := by omega
    go_enter Try.func17, Try.ntmps17
    go_wp2_with (first | (go_at_call 22; refine (join_any _ _ _ _ _ h hl).mono ?_; rintro e w1 ⟨g, c, rfl, hown, hbel⟩))
    go_ret2
    exact ⟨g, c, rfl, hown, hbel⟩

theorem rput_wide (a : Option Addr) (l cap : Nat) (t n v : Int) (zs : List Int) (w : World) (hl : l ≤ 140737488355000) (h1 : 1 ≤ n) (h2 : n ≤ 8) (hf : (v / 2 ^ (8 * n).toNat == 0) = false) (hv : 0 ≤ v) (hv2 : v < 18446744073709551616) (h : Reads w a l zs) :
    Calls Try.prog 17 #[.slice a l cap, .int .i64 t, .int .i64 n, .int .u64 v] w fun e w' => ∃ g c, e = .returned (.tuple #[.slice (some ⟨g, 0, none⟩) l c, .int .i64 11]) ∧ Own w' w.heap.size g l c zs ∧ Below w.heap.size w w' := by
  go_enter Try.func17, Try.ntmps17
  go_wp2_with (first | (go_at_call 21; refine (power_any _ _ _ (by omega) (by omega) hv2 hv).mono ?_; rintro e w' ⟨rfl, rfl⟩) | (go_at_call 22; refine (join_any _ _ _ _ _ h hl).mono ?_; rintro e w1 ⟨g, c, rfl, hown, hbel⟩))
  go_ret2
  exact ⟨g, c, rfl, hown, hbel⟩

theorem rput_short (a : Option Addr) (l cap : Nat) (t n v : Int) (zs : List Int) (w : World) (hl : l ≤ 140737488355000) (h1 : 1 ≤ n) (h2 : n ≤ 8) (hf : (v / 2 ^ (8 * n).toNat == 0) = true) (hv : 0 ≤ v) (hv2 : v < 18446744073709551616) (ht : t < 0 ∨ l - n < t) (h : Reads w a l zs) :
    Calls Try.prog 17 #[.slice a l cap, .int .i64 t, .int .i64 n, .int .u64 v] w fun e w' => ∃ g c, e = .returned (.tuple #[.slice (some ⟨g, 0, none⟩) l c, .int .i64 10]) ∧ Own w' w.heap.size g l c zs ∧ Below w.heap.size w w' := by
  by_cases h3 : t < 0
  · go_enter Try.func17, Try.ntmps17
    go_wp2_with (first | (go_at_call 21; refine (power_any _ _ _ (by omega) (by omega) hv2 hv).mono ?_; rintro e w' ⟨rfl, rfl⟩) | (go_at_call 22; refine (join_any _ _ _ _ _ h hl).mono ?_; rintro e w1 ⟨g, c, rfl, hown, hbel⟩))
    go_ret2
    exact ⟨g, c, rfl, hown, hbel⟩
  · by_cases h4 : (l : Int) < t
    · go_enter Try.func17, Try.ntmps17
      go_wp2_with (first | (go_at_call 21; refine (power_any _ _ _ (by omega) (by omega) hv2 hv).mono ?_; rintro e w' ⟨rfl, rfl⟩) | (go_at_call 22; refine (join_any _ _ _ _ _ h hl).mono ?_; rintro e w1 ⟨g, c, rfl, hown, hbel⟩))
      go_ret2
      exact ⟨g, c, rfl, hown, hbel⟩
    · have h5 : (l : Int) - t < n := by omega
      go_enter Try.func17, Try.ntmps17
      go_wp2_with (first | (go_at_call 21; refine (power_any _ _ _ (by omega) (by omega) hv2 hv).mono ?_; rintro e w' ⟨rfl, rfl⟩) | (go_at_call 22; refine (join_any _ _ _ _ _ h hl).mono ?_; rintro e w1 ⟨g, c, rfl, hown, hbel⟩))
      go_ret2
      exact ⟨g, c, rfl, hown, hbel⟩

end Go.Proofs.Ytkcpfcnpniblcaa
