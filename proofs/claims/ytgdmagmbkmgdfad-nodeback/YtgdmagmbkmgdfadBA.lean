/-
  SEAT Ytgdmagmbkmgdfad: bytes that are read are the only ones of what they are.
-/
import Derived.Test.YtgdmagmbkmgdfadRL
import Derived.Test.YtgdmagmbkmgdfadNC
namespace Go.Proofs.Ytgdmagmbkmgdfad
open Go.RowKit
set_option linter.unusedVariables false

theorem dg_getD (v : Int) (n i : Nat) (hi : i < n) : (dg v n).getD i 0 = v / 256 ^ i % 256 := by
  have h := putL_getD (List.replicate n 0) 0 v n (by simp) i
  rw [if_pos ⟨by omega, by omega⟩, Nat.sub_zero] at h
  exact h
theorem dg_succ (v : Int) (k : Nat) : dg v (k + 1) = dg v k ++ [v / 256 ^ k % 256] := by
  have hl : (dg v k).length = k := dg_length v k
  apply List.ext_getElem (by rw [dg_length, List.length_append, dg_length]; rfl)
  intro i h1 h2
  have key : (dg v (k + 1)).getD i 0 = (dg v k ++ [v / 256 ^ k % 256]).getD i 0 := by
    have hi : i < k + 1 := by rw [dg_length] at h1; exact h1
    rw [dg_getD v (k + 1) i hi]
    by_cases e : i < k
    · rw [List.getD_eq_getElem?_getD, List.getElem?_append_left (by omega), ← List.getD_eq_getElem?_getD, dg_getD v k i e]
    · have : i = k := by omega
      subst this
      rw [List.getD_eq_getElem?_getD, List.getElem?_append_right (by omega), hl]
      simp
  rw [List.getD_eq_getElem?_getD, List.getD_eq_getElem?_getD, List.getElem?_eq_getElem h1, List.getElem?_eq_getElem h2] at key
  exact key

theorem nodeL_length (k p : Int) (N : ByteArray) (z m st h : Int) (T : ByteArray) : (nodeL k p N z m st h T).length = 1 + 4 + 4 + 2 + 8 + 4 + (1 + N.size) + (1 + T.size) := by
  simp only [nodeL, List.length_append, dg_length, strL_length]
theorem nodeL_range (k p : Int) (N : ByteArray) (z m st h : Int) (T : ByteArray) : ∀ x ∈ nodeL k p N z m st h T, 0 ≤ x ∧ x ≤ 255 := by
  intro x hx
  simp only [nodeL, List.mem_append] at hx
  rcases hx with ((((((h1 | h1) | h1) | h1) | h1) | h1) | (h1 | h1)) | (h1 | h1)
  all_goals first | exact dg_range _ _ x h1 | exact strL_range _ x h1


theorem drop_cut (zs : List Int) (a n : Nat) : (zs.drop a).take n ++ zs.drop (a + n) = zs.drop a := by
  rw [← List.drop_drop]
  exact List.take_append_drop n (zs.drop a)
theorem dg_getL (zs : List Int) (hz : ∀ x ∈ zs, 0 ≤ x ∧ x ≤ 255) (t : Nat) : ∀ (n : Nat) (x : Int), 0 ≤ x → t + n ≤ zs.length → dg (getL zs t n + x * 256 ^ n) n = (zs.drop t).take n
  | 0, _, _, _ => by simp [dg, putL]
  | n + 1, x, hx, h => by
    have hb := byteAt hz (t + n)
    obtain ⟨y, hy⟩ : ∃ y, zs.getD (t + n) 0 = y := ⟨_, rfl⟩
    have hp : (0 : Int) < 256 ^ n := Int.pow_pos (by decide)
    have hr := getL_range hz t n
    have e : getL zs t (n + 1) + x * 256 ^ (n + 1) = getL zs t n + (y + 256 * x) * 256 ^ n := by
      rw [getL, hy, Int.pow_succ, Int.add_mul, Int.add_assoc, Int.mul_comm (256 ^ n) 256, ← Int.mul_assoc, Int.mul_comm x 256]
    rw [hy] at hb
    have q : (getL zs t n + (y + 256 * x) * 256 ^ n) / 256 ^ n % 256 = y := by
      rw [Int.add_mul_ediv_right _ _ (by omega), Int.ediv_eq_zero_of_lt hr.1 hr.2]
      omega
    rw [e, dg_succ, dg_getL zs hz t n (y + 256 * x) (by omega) (by omega), q, List.take_add_one, List.getElem?_drop]
    congr 1
    rw [List.getD_eq_getElem?_getD] at hy
    rw [List.getElem?_eq_getElem (by omega)] at hy ⊢
    simp at hy ⊢
    exact hy.symm
theorem dg_get (zs : List Int) (hz : ∀ x ∈ zs, 0 ≤ x ∧ x ≤ 255) (t n : Nat) (v : Int) (hv : getL zs t n = v) (h : t + n ≤ zs.length) : dg v n = (zs.drop t).take n := by
  have h1 := dg_getL zs hz t n 0 (by omega) h
  rw [Int.zero_mul, Int.add_zero, hv] at h1
  exact h1
theorem strL_back (l : List Int) (hl : ∀ x ∈ l, 0 ≤ x ∧ x ≤ 255) : strL (strOfNums l) = l := by
  rw [strL, strOfNums_data, List.map_map]
  conv => rhs; rw [← List.map_id l]
  apply List.map_congr_left
  intro x hx
  have := hl x hx
  simp
  omega
theorem node_back (zs : List Int) (len : Nat) (k p : Int) (N : ByteArray) (z m st h : Int) (T : ByteArray) (f : Flp zs len k p N z m st h T) (hz : ∀ x ∈ zs, 0 ≤ x ∧ x ≤ 255) (hl : zs.length = len) : nodeL k p N z m st h T = zs := by
  obtain ⟨f1, f2, f3⟩ := f.hf
  have sN : N.size = kN zs := by rw [← f.eN, strOfNums_size]; simp; omega
  have sT : T.size = tN zs := by rw [← f.eT, strOfNums_size]; simp; omega
  have n0 := dg_get zs hz 0 1 k (by rw [getL_one]; exact f.e0) (by omega)
  have n1 := dg_get zs hz 1 4 p f.e1 (by omega)
  have n2 := dg_get zs hz 5 4 z f.e2 (by omega)
  have n3 := dg_get zs hz 9 2 m f.e3 (by omega)
  have n4 := dg_get zs hz 11 8 st f.e4 (by omega)
  have n5 := dg_get zs hz 19 4 h f.e5 (by omega)
  have n6 := dg_get zs hz 23 1 (N.size : Int) (by rw [getL_one, kN_int hz, sN]) (by omega)
  have n7 := dg_get zs hz (24 + kN zs) 1 (T.size : Int) (by rw [getL_one, tN_int hz, sT]) (by omega)
  have t1 : strL N = (zs.drop 24).take (kN zs) := by rw [← f.eN]; exact strL_back _ (fun x hx => hz x (List.mem_of_mem_drop (List.mem_of_mem_take hx)))
  have t2 : strL T = zs.drop (24 + kN zs + 1) := by rw [show 24 + kN zs + 1 = 25 + kN zs by omega, ← f.eT]; exact strL_back _ (fun x hx => hz x (List.mem_of_mem_drop hx))
  simp only [nodeL, List.append_assoc]
  rw [n0, n1, n2, n3, n4, n5, n6, n7, t1, t2, drop_cut zs (24 + kN zs) 1, drop_cut zs 24 (kN zs), drop_cut zs 23 1, drop_cut zs 19 4, drop_cut zs 11 8, drop_cut zs 9 2, drop_cut zs 5 4, drop_cut zs 1 4, drop_cut zs 0 1]
  rfl

theorem xor_byte (y b : Int) (hy : 0 ≤ y ∧ y ≤ 255) (hb : 0 ≤ b ∧ b ≤ 255) : 0 ≤ bits .xor .u8 y b ∧ bits .xor .u8 y b ≤ 255 := by
  rw [u8_xor y b hy.1 (by omega) hb.1 (by omega)]
  have : y.toNat ^^^ b.toNat < 2 ^ 8 := Nat.xor_lt_two_pow (by omega) (by omega)
  exact ⟨by omega, by omega⟩
theorem xor_zero (y : Int) (hy : 0 ≤ y ∧ y ≤ 255) : bits .xor .u8 y 0 = y := by
  rw [u8_xor y 0 hy.1 (by omega) (by decide) (by decide)]
  simp
  omega
theorem xor_ne (y b : Int) (hy : 0 ≤ y ∧ y ≤ 255) (hb : 0 ≤ b ∧ b ≤ 255) (h : b ≠ 0) : bits .xor .u8 y b ≠ y := by
  rw [u8_xor y b hy.1 (by omega) hb.1 (by omega)]
  intro e
  have e2 : y.toNat ^^^ b.toNat = y.toNat := by omega
  have e3 : y.toNat ^^^ (y.toNat ^^^ b.toNat) = y.toNat ^^^ y.toNat := by rw [e2]
  rw [← Nat.xor_assoc, Nat.xor_self, Nat.zero_xor] at e3
  omega

end Go.Proofs.Ytgdmagmbkmgdfad
