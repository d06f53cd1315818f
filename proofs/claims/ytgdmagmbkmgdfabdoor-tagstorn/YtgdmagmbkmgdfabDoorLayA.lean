/-
  SEAT YtgdmagmbkmgdfabDoor: rail: pairsOf, columnSum, Size; the reference's columns, pair, bit.
-/
import Derived.Test.YtgdmagmbkmgdfabDoorFns
namespace Go.Proofs.YtgdmagmbkmgdfabDoor
open Go.RowKit
set_option linter.unusedVariables false

theorem size_ok (n : Nat) (w : World) (h : n ≤ 4095) : Calls Tryd.prog 25 #[.int .i64 n] w fun e w' => e = .returned (.tuple #[.int .i64 (2 * ((n : Int) + 1)), .int .i64 0]) ∧ w = w' := by
  go_enter Tryd.func25, Tryd.ntmps25
  go_wp2
  go_ret2
  exact ⟨rfl, rfl⟩

theorem size_bad (n : Int) (w : World) (h : n < 0 ∨ 4095 < n) : Calls Tryd.prog 25 #[.int .i64 n] w fun e w' => e = .returned (.tuple #[.int .i64 0, .int .i64 31]) ∧ w = w' := by
  by_cases h1 : n < 0
  · go_enter Tryd.func25, Tryd.ntmps25
    go_wp2
    go_ret2
    exact ⟨rfl, rfl⟩
  · have h2 : 4095 < n := by omega
    go_enter Tryd.func25, Tryd.ntmps25
    go_wp2
    go_ret2
    exact ⟨rfl, rfl⟩

/-- Four bits, each with its opposite above it. -/
def layN (n : Nat) : Nat := (2 - n % 2) + 4 * (2 - n / 2 % 2) + 16 * (2 - n / 4 % 2) + 64 * (2 - n / 8 % 2)

theorem pairs_eq : ∀ n : Nat, n < 256 → bits BinOp.or IntKind.u8
    (bits BinOp.or IntKind.u8
      (bits BinOp.or IntKind.u8
        (bits BinOp.or IntKind.u8 0
          (bits BinOp.or IntKind.u8 (bits BinOp.and IntKind.u8 (n : Int) 1)
              (bits BinOp.xor IntKind.u8 (bits BinOp.and IntKind.u8 (n : Int) 1) 1 * 2 % 256) %
            256))
        (bits BinOp.or IntKind.u8 (bits BinOp.and IntKind.u8 ((n : Int) / 2) 1)
              (bits BinOp.xor IntKind.u8 (bits BinOp.and IntKind.u8 ((n : Int) / 2) 1) 1 * 2 % 256) *
            4 %
          256))
      (bits BinOp.or IntKind.u8 (bits BinOp.and IntKind.u8 ((n : Int) / 4) 1)
            (bits BinOp.xor IntKind.u8 (bits BinOp.and IntKind.u8 ((n : Int) / 4) 1) 1 * 2 % 256) *
          16 %
        256))
    (bits BinOp.or IntKind.u8 (bits BinOp.and IntKind.u8 ((n : Int) / 8) 1)
          (bits BinOp.xor IntKind.u8 (bits BinOp.and IntKind.u8 ((n : Int) / 8) 1) 1 * 2 % 256) *
        64 %
      256) = ((layN n : Nat) : Int) := by decide +kernel

theorem pairs_any (x : Int) (w : World) (h0 : 0 ≤ x) (h1 : x ≤ 255) : Calls Tryd.prog 26 #[.int .u8 x] w fun e w' => e = .returned (.int .u8 (layN x.toNat)) ∧ w = w' := by
  go_enter Tryd.func26, Tryd.ntmps26
  go_wp2
  refine wp_loop_rounds 5 ?_
  rw [rounds_succ]
  go_wp2
  rw [rounds_succ]
  go_wp2
  rw [rounds_succ]
  go_wp2
  rw [rounds_succ]
  go_wp2
  rw [rounds_succ]
  go_wp2
  go_ret
  refine ⟨ret_int ?_, rfl⟩
  obtain ⟨n, rfl⟩ := Int.eq_ofNat_of_zero_le h0
  exact pairs_eq n (by omega)

/-- The column sum. -/
def colF (zs : List Int) : Int := zs.foldl (fun s z => bits .xor .u8 s z) 0

theorem colF_snoc (zs : List Int) (z : Int) : colF (zs ++ [z]) = bits .xor .u8 (colF zs) z := by simp [colF]

theorem xor_bd (z y : Int) (h0 : 0 ≤ z) (h1 : z ≤ 255) (h2 : 0 ≤ y) (h3 : y ≤ 255) : 0 ≤ bits .xor .u8 z y ∧ bits .xor .u8 z y ≤ 255 := by
  obtain ⟨z, rfl⟩ := Int.eq_ofNat_of_zero_le h0
  obtain ⟨y, rfl⟩ := Int.eq_ofNat_of_zero_le h2
  have hx : z ^^^ y < 2 ^ 8 := Nat.xor_lt_two_pow (by omega) (by omega)
  rw [u8_xor_nat z y (by omega) (by omega)]
  omega

theorem colF_take (zs : List Int) (k : Nat) (h : k < zs.length) : colF (zs.take (k + 1)) = bits .xor .u8 (colF (zs.take k)) (zs.getD k 0) := by
  rw [List.take_succ_eq_append_getElem h, colF_snoc]
  simp [List.getD_eq_getElem?_getD, List.getElem?_eq_getElem h]

theorem colF_range (zs : List Int) (h : ∀ x ∈ zs, 0 ≤ x ∧ x ≤ 255) (k : Nat) (hk : k ≤ zs.length) : 0 ≤ colF (zs.take k) ∧ colF (zs.take k) ≤ 255 := by
  induction k with
  | zero => simp [colF]
  | succ k ih =>
    have hb := byteAt h k
    have ih := ih (by omega)
    rw [colF_take zs k (by omega)]
    exact xor_bd _ _ ih.1 ih.2 hb.1 hb.2

theorem column_any (a : Option Addr) (l cap : Nat) (zs : List Int) (w : World) (hl : l ≤ 140737488355000) (h : Reads w a l zs) :
    Calls Tryd.prog 27 #[.slice a l cap] w fun e w' => e = .returned (.int .u8 (colF zs)) ∧ w = w' := by
  have hlen := h.1
  go_enter Tryd.func27, Tryd.ntmps27
  go_wp2
  go_loop [3, 7] (fun x i => ∃ (k : Nat) (q : Int), k ≤ l ∧ i = .int .i64 k ∧ x = .int .u8 q ∧ Hid (q = colF (zs.take k)))
    (fun _ i => l - (intOf i).toNat)
  case atStart => exact ⟨0, 0, Nat.zero_le _, rfl, rfl, rfl⟩
  case round =>
    obtain ⟨k, q, hk, rfl, rfl, HQ⟩ := hrel
    by_cases hlt : k < l
    · obtain ⟨b, off, rfl, hb, hcell⟩ := h.pos (by omega)
      obtain ⟨z, hz⟩ : ∃ z, z = zs.getD k 0 := ⟨_, rfl⟩
      have hcx : w.cell? ⟨b, off + k, none⟩ = some (.int .u8 z) := by rw [hz]; exact hcell k (by omega)
      have HS : Hid (bits .xor .u8 q z = colF (zs.take (k + 1))) := by unfold Hid; rw [colF_take zs k (by omega), HQ.out, hz]
      clear hz HQ hcell h hlen
      go_wp2
      go_round
      case rel => exact ⟨k + 1, _, by omega, by go_num, rfl, HS⟩
      case measure => simp [intOf]; omega
    · have hkl : k = l := by omega
      subst hkl
      have hq := HQ.out
      rw [List.take_of_length_le (by omega)] at hq
      go_wp2
      go_ret
      exact ⟨by rw [← hq]; rfl, rfl⟩

end Go.Proofs.YtgdmagmbkmgdfabDoor
