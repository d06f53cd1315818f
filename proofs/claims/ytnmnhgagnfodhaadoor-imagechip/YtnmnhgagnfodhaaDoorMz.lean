/-
  SEAT YtnmnhgagnfodhaaDoor: Sum, Pk, Pl, Na.
-/
import Derived.Test.YtnmnhgagnfodhaaDoorMx
import Derived.Test.YtnmnhgagnfodhaaDoorMy
import Derived.Lib.AppendZerosOnto
import Derived.RangeFuncBox
namespace Go.Proofs.YtnmnhgagnfodhaaDoor
open Go.RowKit
set_option linter.unusedVariables false
def nats (zs : List Int) : List Nat := zs.map Int.toNat
theorem nats_lt {zs : List Int} (h : ∀ x ∈ zs, 0 ≤ x ∧ x ≤ 255) : ∀ z ∈ nats zs, z < 256 := by
 intro z hz
 obtain ⟨x, hx, rfl⟩ := List.mem_map.1 hz
 have := h x hx
 omega
theorem crc_take (zs : List Int) (k : Nat) (h : k < zs.length) : crcL (nats (zs.take (k + 1))) = crcB (crcL (nats (zs.take k))) (zs.getD k 0).toNat := by
 rw [List.take_succ_eq_append_getElem h, nats, List.map_append, ← nats]
 simp only [List.map_cons, List.map_nil]
 rw [crcL_snoc]
 simp [List.getD_eq_getElem?_getD, List.getElem?_eq_getElem h]
theorem crc_take_lt {zs : List Int} (h : ∀ x ∈ zs, 0 ≤ x ∧ x ≤ 255) (k : Nat) : crcL (nats (zs.take k)) < 4294967296 :=
 crcL_lt _ (nats_lt fun x hx => h x (List.mem_of_mem_take hx))
def Tab (w : World) : Prop := ∀ i, i < 16 → w.cell? ⟨0, i, none⟩ = some (.int .u32 ((tab.getD i 0 : Nat) : Int))
theorem tab_lt (i : Nat) : tab.getD i 0 < 4294967296 := by
 by_cases h : i < 16
 ·rw [tab_eq i h]
  exact stepN_lt _ _ (by omega)
 ·rw [List.getD_eq_getElem?_getD, List.getElem?_eq_none (by simp [tab]; omega)]
  decide
theorem and15 (r : Nat) (h : r < 4294967296) : bits .and .u32 (r : Int) 15 = ((r % 16 : Nat) : Int) := by
 have := u32_and_nat r 15 h (by decide)
 rw [show ((15 : Nat) : Int) = 15 from rfl] at this
 rw [this, nat_mask4]
theorem xor32i (a b : Nat) (ha : a < 4294967296) (hb : b < 4294967296) : bits .xor .u32 (a : Int) (b : Int) = ((a ^^^ b : Nat) : Int) := u32_xor_nat a b ha hb
theorem not32 (r : Nat) (h : r < 4294967296) : bits .xor .u32 IntKind.u32.max (r : Int) = ((r ^^^ 4294967295 : Nat) : Int) := by
 have e : IntKind.u32.max = ((4294967295 : Nat) : Int) := by decide
 rw [e, u32_xor_nat _ _ (by omega) h, Nat.xor_comm]
set_option maxHeartbeats 400000 in
set_option maxRecDepth 100000 in
theorem sum_any (a : Option Addr) (l cap : Nat) (zs : List Int) (w : World) (hl : l ≤ 200000000000000) (h : Reads w a l zs) (ht : Tab w) :
  Calls Tryd.prog 36 #[.slice a l cap] w fun e w' => e = .returned (.int .u32 ((sumL (nats zs) : Nat) : Int)) ∧ w = w' := by
 have hlen := h.1
 go_enter Tryd.func36, Tryd.ntmps36
 go_wp2
 go_loop [3, 8] (fun x i => ∃ (k q : Nat), k ≤ l ∧ i = .int .i64 k ∧ x = .int .u32 q ∧ Hid (q = crcL (nats (zs.take k))))
  (fun _ i => l - (intOf i).toNat)
 case atStart => exact ⟨0, 4294967295, Nat.zero_le _, rfl, rfl, by simp [Hid, nats, crcL]⟩
 case round =>
  obtain ⟨k, q, hk, rfl, rfl, HQ⟩ := hrel
  by_cases hlt : k < l
  ·obtain ⟨b, off, rfl, hb, hcell⟩ := h.pos (by omega)
   have hz0 := byteAt h.2.1 k
   obtain ⟨z, hz⟩ := Int.eq_ofNat_of_zero_le hz0.1
   have hcx : w.cell? ⟨b, off + k, none⟩ = some (.int .u8 (z : Int)) := by rw [← hz]; exact hcell k (by omega)
   have hz1 : z ≤ 255 := by omega
   have hq : q < 4294967296 := by rw [HQ.out]; exact crc_take_lt h.2.1 k
   obtain ⟨r1, hr1⟩ : ∃ r1, r1 = q ^^^ z := ⟨_, rfl⟩
   have hr1l : r1 < 4294967296 := by rw [hr1]; exact xor32 _ _ hq (by omega)
   have e1 : bits .xor .u32 (q : Int) (z : Int) = (r1 : Int) := by rw [hr1]; exact xor32i q z hq (by omega)
   have e2 : bits .and .u32 (r1 : Int) 15 = ((r1 % 16 : Nat) : Int) := and15 r1 hr1l
   have c1 : w.cell? ⟨0, r1 % 16, none⟩ = some (.int .u32 ((tab.getD (r1 % 16) 0 : Nat) : Int)) := ht _ (by omega)
   obtain ⟨t1, ht1⟩ : ∃ t1, t1 = tab.getD (r1 % 16) 0 := ⟨_, rfl⟩
   have ht1l : t1 < 4294967296 := by rw [ht1]; exact tab_lt _
   rw [← ht1] at c1
   obtain ⟨i1, hi1⟩ : ∃ i1, i1 = r1 % 16 := ⟨_, rfl⟩
   have hi1l : i1 < 16 := by omega
   rw [← hi1] at e2 c1
   obtain ⟨r2, hr2⟩ : ∃ r2, r2 = r1 / 16 ^^^ t1 := ⟨_, rfl⟩
   have hr2l : r2 < 4294967296 := by rw [hr2]; exact xor32 _ _ (by omega) ht1l
   have e3 : bits .xor .u32 ((r1 : Int) / 16) (t1 : Int) = (r2 : Int) := by rw [hr2]; exact xor32i (r1 / 16) t1 (by omega) ht1l
   have e4 : bits .and .u32 (r2 : Int) 15 = ((r2 % 16 : Nat) : Int) := and15 r2 hr2l
   have c2 : w.cell? ⟨0, r2 % 16, none⟩ = some (.int .u32 ((tab.getD (r2 % 16) 0 : Nat) : Int)) := ht _ (by omega)
   obtain ⟨t2, ht2⟩ : ∃ t2, t2 = tab.getD (r2 % 16) 0 := ⟨_, rfl⟩
   have ht2l : t2 < 4294967296 := by rw [ht2]; exact tab_lt _
   rw [← ht2] at c2
   obtain ⟨i2, hi2⟩ : ∃ i2, i2 = r2 % 16 := ⟨_, rfl⟩
   have hi2l : i2 < 16 := by omega
   rw [← hi2] at e4 c2
   obtain ⟨r3, hr3⟩ : ∃ r3, r3 = r2 / 16 ^^^ t2 := ⟨_, rfl⟩
   have e5 : bits .xor .u32 ((r2 : Int) / 16) (t2 : Int) = (r3 : Int) := by rw [hr3]; exact xor32i (r2 / 16) t2 (by omega) ht2l
   have HS : Hid (r3 = crcL (nats (zs.take (k + 1)))) := by
    unfold Hid
    rw [crc_take zs k (by omega), ← HQ.out, hz, Int.toNat_natCast, ← crcB_tab, ← hr1, ← ht1, ← hr2, ← ht2, ← hr3]
   clear hz hz0 HQ hcell h hlen ht hr1 ht1 hr2 ht2 hr3 hi1 hi2
   go_wp2
   go_round
   case rel => exact ⟨k + 1, r3, by omega, by go_num, rfl, HS⟩
   case measure => simp [intOf]; omega
  ·have hkl : k = l := by omega
   subst hkl
   have hq := HQ.out
   rw [List.take_of_length_le (by omega)] at hq
   have hql : q < 4294967296 := by rw [hq]; exact crcL_lt _ (nats_lt h.2.1)
   have e1 := not32 q hql
   have HS : Hid (q ^^^ 4294967295 = sumL (nats zs)) := by unfold Hid; rw [hq]; rfl
   obtain ⟨s, hs⟩ : ∃ s, s = q ^^^ 4294967295 := ⟨_, rfl⟩
   rw [← hs] at HS e1
   clear hq hs
   go_wp2
   go_ret
   exact ⟨by rw [← HS.out]; rfl, rfl⟩
theorem Tab.below {w w' : World} (h : Tab w) (hb : Below w.heap.size w w') : Tab w' := fun i hi => by
 rw [hb.cell (block_lt_of_cell (h i hi))]
 exact h i hi
theorem Reads.front {w : World} {a : Option Addr} {len : Nat} {zs : List Int} (h : Reads w a len zs) (m : Nat) (hm : m ≤ len) : Reads w a m (zs.take m) := by
 obtain ⟨h1, h2, h3, h4⟩ := h
 refine ⟨by simp; omega, fun x hx => h2 x (List.mem_of_mem_take hx), fun e => by have := h3 e; omega, fun x hx i hi => ?_⟩
 rw [h4 x hx i (by omega)]
 simp [List.getD, hi]
end Go.Proofs.YtnmnhgagnfodhaaDoor
namespace Go.Proofs.YtnmnhgagnfodhaaDoor
set_option linter.unusedVariables false
def bitsTo (mk : List Bool) (i : Nat) : Nat → Nat
 | 0 => 0
 | c + 1 => bitsTo mk i c + if mk.getD (8 * i + c) false then 2 ^ c else 0
def bitsOf (mk : List Bool) : List Int := (List.range ((mk.length + 7) / 8)).map fun i => ((bitsTo mk i 8 : Nat) : Int)
def unbits (n : Nat) (bs : List Int) : List Bool := (List.range n).map fun i => (bs.getD (i / 8) 0).toNat / 2 ^ (i % 8) % 2 == 1
theorem bitsTo_lt (mk : List Bool) (i c : Nat) : bitsTo mk i c < 2 ^ c := by
 induction c with
 | zero => simp [bitsTo]
 | succ c ih => rw [bitsTo, Nat.pow_succ]; split <;> omega
theorem bitsTo_bit (mk : List Bool) (i c j : Nat) (h : j < c) : bitsTo mk i c / 2 ^ j % 2 = if mk.getD (8 * i + j) false then 1 else 0 := by
 induction c with
 | zero => omega
 | succ c ih =>
  rw [bitsTo]
  rcases Nat.lt_or_ge j c with h1 | h1
  ·obtain ⟨d, rfl⟩ : ∃ d, c = j + 1 + d := ⟨c - j - 1, by omega⟩
   split
   ·rw [← ih h1]
    have e : 2 ^ (j + 1 + d) = 2 ^ j * (2 * 2 ^ d) := by rw [Nat.pow_add, Nat.pow_succ, Nat.mul_assoc]
    rw [e, Nat.add_mul_div_left _ _ (Nat.two_pow_pos j), Nat.add_mul_mod_self_left]
   ·simpa using ih h1
  ·obtain rfl : j = c := by omega
   have hl := bitsTo_lt mk i j
   split
   ·rw [show bitsTo mk i j + 2 ^ j = bitsTo mk i j + 2 ^ j * 1 by omega, Nat.add_mul_div_left _ _ (Nat.two_pow_pos j), Nat.div_eq_of_lt hl]
   ·rw [Nat.add_zero, Nat.div_eq_of_lt hl]
theorem bitsOf_length (mk : List Bool) : (bitsOf mk).length = (mk.length + 7) / 8 := by simp [bitsOf]
theorem bitsOf_getD (mk : List Bool) (i : Nat) (h : i < (mk.length + 7) / 8) : (bitsOf mk).getD i 0 = ((bitsTo mk i 8 : Nat) : Int) := by
 rw [List.getD_eq_getElem?_getD, List.getElem?_eq_getElem (by rw [bitsOf_length]; exact h)]
 simp [bitsOf]
theorem bitsOf_byt (mk : List Bool) : Byt (bitsOf mk) := by
 intro x hx
 obtain ⟨i, _, rfl⟩ := List.mem_map.1 hx
 have := bitsTo_lt mk i 8
 omega
theorem unbits_length (n : Nat) (bs : List Int) : (unbits n bs).length = n := by simp [unbits]
theorem unbits_bitsOf (mk : List Bool) : unbits mk.length (bitsOf mk) = mk := by
 apply List.ext_getElem
 ·simp [unbits]
 ·intro i h1 h2
  simp only [unbits, List.getElem_map, List.getElem_range]
  rw [bitsOf_getD mk (i / 8) (by omega), Int.toNat_natCast, bitsTo_bit mk (i / 8) 8 (i % 8) (by omega), show 8 * (i / 8) + i % 8 = i by omega, List.getD_eq_getElem?_getD, List.getElem?_eq_getElem h2]
  simp
  cases mk[i] <;> simp
def headL (b p s : Nat) (mk : List Bool) : List Int := [83, 72, 65, 76, 1] ++ (le2 b ++ (le2 p ++ ([(s : Int)] ++ bitsOf mk)))
structure Img where
 b : Nat
 p : Nat
 s : Nat
 cs : List Int
 ms : List Bool
def Img.C (m : Img) : Nat := 256 * m.s
def Img.S (m : Img) : Nat := 54 + 3 * m.s
def Img.Ok (m : Img) : Prop := Fits m.b m.p m.s = true ∧ m.cs.length = m.b * m.p * (m.C + m.S) ∧ m.ms.length = m.b ∧ Byt m.cs
def le4 (n : Nat) : List Int := [((n % 256 : Nat) : Int), ((n / 256 % 256 : Nat) : Int), ((n / 65536 % 256 : Nat) : Int), ((n / 16777216 % 256 : Nat) : Int)]
def sealL (bs : List Int) : List Int := bs ++ le4 (sumL (nats bs))
def bodyL (m : Img) : List Int := (packS m.C ⟨headL m.b m.p m.s m.ms, 0, 0⟩ [] (chunks (m.C + m.S) (m.b * m.p) m.cs)).laid
def packL (m : Img) : List Int := sealL (bodyL m)
def rdHead (bs : List Int) : Except Int (Nat × Nat × Nat × List Bool × List Int) :=
 if bs.take 4 ≠ [83, 72, 65, 76] then .error 210
 else if bs.length < 5 then .error 10
 else if bs.getD 4 0 ≠ 1 then .error 211
 else if bs.length < 10 then .error 10
 else if Fits (bs.getD 5 0 + 256 * bs.getD 6 0) (bs.getD 7 0 + 256 * bs.getD 8 0) (bs.getD 9 0) = false then .error 40
 else if bs.length < 10 + ((bs.getD 5 0 + 256 * bs.getD 6 0).toNat + 7) / 8 then .error 10
 else if bitsOf (unbits (bs.getD 5 0 + 256 * bs.getD 6 0).toNat ((bs.drop 10).take (((bs.getD 5 0 + 256 * bs.getD 6 0).toNat + 7) / 8))) ≠ (bs.drop 10).take (((bs.getD 5 0 + 256 * bs.getD 6 0).toNat + 7) / 8) then .error 47
 else .ok ((bs.getD 5 0 + 256 * bs.getD 6 0).toNat, (bs.getD 7 0 + 256 * bs.getD 8 0).toNat, (bs.getD 9 0).toNat,
  unbits (bs.getD 5 0 + 256 * bs.getD 6 0).toNat ((bs.drop 10).take (((bs.getD 5 0 + 256 * bs.getD 6 0).toNat + 7) / 8)), bs.drop (10 + ((bs.getD 5 0 + 256 * bs.getD 6 0).toNat + 7) / 8))
def val4 (t : List Int) : Int := t.getD 0 0 + 256 * t.getD 1 0 + 65536 * t.getD 2 0 + 16777216 * t.getD 3 0
def rdEnd (bs t : List Int) : Int :=
 if t.length < 4 then 10
 else if val4 t ≠ ((sumL (nats (bs.take (bs.length - t.length))) : Nat) : Int) then 192
 else if 4 < t.length then 212
 else 0
def readR (bs : List Int) : Except Int Img :=
 match rdHead bs with
 | .error e => .error e
 | .ok (b, p, s, mk, r) =>
  match rdPs (256 * s) (54 + 3 * s) (b * p) (b * p) Pc.z r with
  | .error e => .error e
  | .ok (ps, t) => if rdEnd bs t ≠ 0 then .error (rdEnd bs t) else .ok ⟨b, p, s, (pgs ps).flatten, mk⟩
theorem fits_nat {b p s : Nat} (h : Fits b p s = true) : 8 ≤ b ∧ b ≤ 4096 ∧ 4 ≤ p ∧ p ≤ 256 ∧ 1 ≤ s ∧ s ≤ 8 ∧ b * p ≤ 65536 := by
 have h0 := of_decide_eq_true h
 refine ⟨by omega, by omega, by omega, by omega, by omega, by omega, ?_⟩
 have := h0.2.2.2.2.2.2
 rw [← Int.natCast_mul] at this
 omega
theorem head_len (b p s : Nat) (mk : List Bool) : (headL b p s mk).length = 10 + (mk.length + 7) / 8 := by
 simp [headL, le2, bitsOf_length]
 omega
theorem rdHead_head {b p s : Nat} {mk : List Bool} (hf : Fits b p s = true) (hm : mk.length = b) (r : List Int) : rdHead (headL b p s mk ++ r) = .ok (b, p, s, mk, r) := by
 obtain ⟨q1, q2, q3, q4, q5, q6, q7⟩ := fits_nat hf
 have hl := head_len b p s mk
 rw [hm] at hl
 have ex : headL b p s mk ++ r = 83 :: 72 :: 65 :: 76 :: 1 :: ((b % 256 : Nat) : Int) :: ((b / 256 : Nat) : Int) :: ((p % 256 : Nat) : Int) :: ((p / 256 : Nat) : Int) :: (s : Int) :: (bitsOf mk ++ r) := by
  simp [headL, le2]
 have hbl : (bitsOf mk).length = (b + 7) / 8 := by rw [bitsOf_length, hm]
 have e5 : (headL b p s mk ++ r).getD 5 0 + 256 * (headL b p s mk ++ r).getD 6 0 = (b : Int) := by rw [ex]; simp; omega
 have e7 : (headL b p s mk ++ r).getD 7 0 + 256 * (headL b p s mk ++ r).getD 8 0 = (p : Int) := by rw [ex]; simp; omega
 have e9 : (headL b p s mk ++ r).getD 9 0 = (s : Int) := by rw [ex]; simp
 have e10 : (headL b p s mk ++ r).drop 10 = bitsOf mk ++ r := by rw [ex]; simp
 have e11 : (headL b p s mk ++ r).drop (10 + (b + 7) / 8) = r := by rw [← hl, List.drop_left]
 have el : (headL b p s mk ++ r).length = 10 + (b + 7) / 8 + r.length := by rw [List.length_append, hl]
 unfold rdHead
 rw [e5, e7, e9, e10, el, Int.toNat_natCast, Int.toNat_natCast, Int.toNat_natCast, List.take_left' hbl, e11]
 rw [if_neg (by rw [ex]; simp), if_neg (by omega), if_neg (by rw [ex]; simp), if_neg (by omega), if_neg (by rw [hf]; simp), if_neg (by omega)]
 have e12 : unbits b (bitsOf mk) = mk := by rw [← hm]; exact unbits_bitsOf mk
 rw [e12, if_neg (by simp)]
theorem getD_cons5 (bs : List Int) (h : 10 ≤ bs.length) : bs = [bs.getD 0 0, bs.getD 1 0, bs.getD 2 0, bs.getD 3 0, bs.getD 4 0, bs.getD 5 0, bs.getD 6 0, bs.getD 7 0, bs.getD 8 0, bs.getD 9 0] ++ bs.drop 10 := by
 match bs, h with
 | x0 :: x1 :: x2 :: x3 :: x4 :: x5 :: x6 :: x7 :: x8 :: x9 :: r, _ => simp
theorem rdHead_sound {bs r : List Int} {b p s : Nat} {mk : List Bool} (hb : Byt bs) (h : rdHead bs = .ok (b, p, s, mk, r)) :
  bs = headL b p s mk ++ r ∧ Fits b p s = true ∧ mk.length = b := by
 have hx : ∀ i, 0 ≤ bs.getD i 0 ∧ bs.getD i 0 ≤ 255 := by
  intro i
  rcases Nat.lt_or_ge i bs.length with h1 | h1
  ·rw [List.getD_eq_getElem?_getD, List.getElem?_eq_getElem h1]
   exact hb _ (List.getElem_mem h1)
  ·rw [List.getD_eq_getElem?_getD, List.getElem?_eq_none h1]
   simp
 unfold rdHead at h
 split at h
 ·simp at h
 split at h
 ·simp at h
 split at h
 ·simp at h
 split at h
 ·simp at h
 split at h
 ·simp at h
 split at h
 ·simp at h
 split at h
 ·simp at h
 next h4 h5 h6 h7 h8 h9 h10 =>
 simp only [Except.ok.injEq, Prod.mk.injEq] at h
 obtain ⟨rfl, rfl, rfl, rfl, rfl⟩ := h
 have e5 := le2_of (hx 5) (hx 6)
 have e7 := le2_of (hx 7) (hx 8)
 have t5 : 0 ≤ bs.getD 5 0 + 256 * bs.getD 6 0 := by have := hx 5; have := hx 6; omega
 have t7 : 0 ≤ bs.getD 7 0 + 256 * bs.getD 8 0 := by have := hx 7; have := hx 8; omega
 refine ⟨?_, ?_, unbits_length _ _⟩
 ·have h10' := Classical.not_not.1 h10
  have h4' := Classical.not_not.1 h4
  have h6' := Classical.not_not.1 h6
  have hc := getD_cons5 bs (by omega)
  have h4'' : [bs.getD 0 0, bs.getD 1 0, bs.getD 2 0, bs.getD 3 0] = [83, 72, 65, 76] := by
   rw [← h4']
   conv => rhs; rw [hc]
   simp
  simp only [List.cons.injEq, and_true] at h4''
  unfold headL
  rw [e5, e7, h10', Int.toNat_of_nonneg (hx 9).1]
  conv => lhs; rw [hc]
  obtain ⟨f0, f1, f2, f3⟩ := h4''
  rw [f0, f1, f2, f3, h6']
  simp only [List.cons_append, List.nil_append]
  congr 10
  conv => lhs; rw [← List.take_append_drop (((bs.getD 5 0 + 256 * bs.getD 6 0).toNat + 7) / 8) (bs.drop 10), List.drop_drop]
 ·rw [Int.toNat_of_nonneg t5, Int.toNat_of_nonneg t7, Int.toNat_of_nonneg (hx 9).1]
  simpa using h8
theorem rel0 (h : List Int) : Rel ⟨h, 0, 0⟩ Pc.z := ⟨(fun h => by cases h), fun _ => ⟨rfl, rfl⟩⟩
theorem body_chain (m : Img) (ps : List Pc) (hc : chain (m.C + m.S) Pc.z ps) (hp : pgs ps = chunks (m.C + m.S) (m.b * m.p) m.cs) : bodyL m = headL m.b m.p m.s m.ms ++ encs m.C ps := by
 unfold bodyL
 rw [← hp]
 exact pack_chain m.C (m.C + m.S) ps ⟨headL m.b m.p m.s m.ms, 0, 0⟩ Pc.z hc (rel0 _) (Or.inl rfl)
theorem body_pieces (m : Img) (h : m.Ok) : ∃ ps, chain (m.C + m.S) Pc.z ps ∧ pgs ps = chunks (m.C + m.S) (m.b * m.p) m.cs ∧ bodyL m = headL m.b m.p m.s m.ms ++ encs m.C ps := by
 obtain ⟨h1, h2, h3, h4⟩ := h
 obtain ⟨q1, q2, q3, q4, q5, q6, q7⟩ := fits_nat h1
 obtain ⟨ps, c1, c2, _⟩ := chain_exists (m.C + m.S) (by unfold Img.C Img.S; omega) (chunks (m.C + m.S) (m.b * m.p) m.cs) (chunks_len _ _ _ h2)
 exact ⟨ps, c1, c2, body_chain m ps c1 c2⟩
theorem chunks_count (L n : Nat) (cs : List Int) : (chunks L n cs).length = n := by simp [chunks]
theorem sumL_lt {bs : List Int} (h : Byt bs) : sumL (nats bs) < 4294967296 := by
 unfold sumL
 exact xor32 _ _ (crcL_lt _ (nats_lt h)) (by omega)
theorem val4_le4 (n : Nat) (h : n < 4294967296) (t : List Int) : val4 (le4 n ++ t) = (n : Int) := by
 simp [val4, le4]
 omega
theorem encs_byt {C L : Nat} {a : Pc} {ps : List Pc} (hC : C ≤ 65535) (h : chain L a ps) (hp : ∀ g ∈ pgs ps, Byt g) : Byt (encs C ps) := by
 induction ps generalizing a with
 | nil => intro x hx; simp [encs] at hx
 | cons p r ih =>
  intro x hx
  have e : encs C (p :: r) = enc C p ++ encs C r := by simp [encs]
  rw [e] at hx
  have hn := okP_n h.1
  have hg : Byt p.g := hp p.g (by simp [pgs]; exact Or.inl (by omega))
  rcases List.mem_append.1 hx with h1 | h1
  ·have hk : p.k ≤ 2 := by obtain ⟨_, ⟨h, _⟩ | ⟨h, _⟩ | ⟨h, _⟩⟩ := h.1 <;> omega
   have hnn : p.n ≤ 65535 := by obtain ⟨_, ⟨_, _, h, _⟩ | ⟨_, h, _⟩ | ⟨_, _, h, _⟩⟩ := h.1 <;> omega
   unfold enc at h1
   split at h1
   ·have hw := wrN_le (p.g.take C)
    have hw2 : (p.g.take C).length ≤ C := by simp; omega
    simp only [le2, List.cons_append, List.nil_append, List.mem_cons, List.mem_append] at h1
    rcases h1 with rfl | rfl | rfl | h1 | h1
    ·omega
    ·omega
    ·omega
    ·exact hg x (List.mem_of_mem_take h1)
    ·exact hg x (List.mem_of_mem_drop h1)
   ·simp only [le2, List.cons_append, List.nil_append, List.mem_cons, List.not_mem_nil, or_false] at h1
    rcases h1 with rfl | rfl | rfl <;> omega
  ·exact ih h.2 (fun g hg => hp g (by
    have e : pgs (p :: r) = List.replicate p.n p.g ++ pgs r := rfl
    rw [e]; exact List.mem_append_right _ hg)) x h1
theorem head_byt {b p s : Nat} {mk : List Bool} (hf : Fits b p s = true) : Byt (headL b p s mk) := by
 obtain ⟨q1, q2, q3, q4, q5, q6, q7⟩ := fits_nat hf
 intro x hx
 simp only [headL, le2, List.cons_append, List.nil_append, List.mem_cons] at hx
 rcases hx with rfl | rfl | rfl | rfl | rfl | rfl | rfl | rfl | rfl | rfl | hx
 all_goals first | omega | exact bitsOf_byt mk x hx
theorem chunks_byt {L n : Nat} {cs : List Int} (h : Byt cs) : ∀ g ∈ chunks L n cs, Byt g := by
 intro g hg x hx
 obtain ⟨k, _, rfl⟩ := List.mem_map.1 hg
 exact h x (List.mem_of_mem_drop (List.mem_of_mem_take hx))
theorem body_byt (m : Img) (h : m.Ok) : Byt (bodyL m) := by
 obtain ⟨ps, c1, c2, c3⟩ := body_pieces m h
 obtain ⟨q1, q2, q3, q4, q5, q6, q7⟩ := fits_nat h.1
 rw [c3]
 intro x hx
 rcases List.mem_append.1 hx with h1 | h1
 ·exact head_byt h.1 x h1
 ·exact encs_byt (by unfold Img.C; omega) c1 (by rw [c2]; exact chunks_byt h.2.2.2) x h1
theorem le4_byt (n : Nat) : Byt (le4 n) := by
 intro x hx
 simp only [le4, List.mem_cons, List.not_mem_nil, or_false] at hx
 rcases hx with rfl | rfl | rfl | rfl <;> omega
theorem pack_byt (m : Img) (h : m.Ok) : Byt (packL m) := by
 intro x hx
 rcases List.mem_append.1 hx with h1 | h1
 ·exact body_byt m h x h1
 ·exact le4_byt _ x h1
theorem read_pack (m : Img) (h : m.Ok) (more : List Int) : readR (packL m ++ more) = if more = [] then .ok m else .error 212 := by
 obtain ⟨ps, c1, c2, c3⟩ := body_pieces m h
 obtain ⟨q1, q2, q3, q4, q5, q6, q7⟩ := fits_nat h.1
 have hcnt : cnt ps = m.b * m.p := by rw [← pgs_length, c2, chunks_count]
 have e1 : packL m ++ more = headL m.b m.p m.s m.ms ++ (encs m.C ps ++ (le4 (sumL (nats (bodyL m))) ++ more)) := by
  rw [packL, sealL, c3]; simp only [List.append_assoc]
 have e2 : rdHead (packL m ++ more) = .ok (m.b, m.p, m.s, m.ms, encs m.C ps ++ (le4 (sumL (nats (bodyL m))) ++ more)) := by
  rw [e1]; exact rdHead_head h.1 h.2.2.1 _
 have e3 := rdPs_encs (C := m.C) (S := m.S) (by unfold Img.C; omega) c1 hcnt (Nat.le_refl _) (le4 (sumL (nats (bodyL m))) ++ more)
 have e3' : rdPs (256 * m.s) (54 + 3 * m.s) (m.b * m.p) (m.b * m.p) Pc.z (encs m.C ps ++ (le4 (sumL (nats (bodyL m))) ++ more)) = .ok (ps, le4 (sumL (nats (bodyL m))) ++ more) := e3
 unfold readR
 rw [e2]
 simp only
 rw [e3']
 simp only
 have hl : (le4 (sumL (nats (bodyL m))) ++ more).length = 4 + more.length := by simp [le4]; omega
 have htk : (packL m ++ more).take ((packL m ++ more).length - (le4 (sumL (nats (bodyL m))) ++ more).length) = bodyL m := by
  have : packL m ++ more = bodyL m ++ (le4 (sumL (nats (bodyL m))) ++ more) := by rw [packL, sealL, List.append_assoc]
  have e9 : (bodyL m ++ (le4 (sumL (nats (bodyL m))) ++ more)).length - (le4 (sumL (nats (bodyL m))) ++ more).length = (bodyL m).length := by rw [@List.length_append _ (bodyL m)]; omega
  rw [this, e9, List.take_left]
 have he : rdEnd (packL m ++ more) (le4 (sumL (nats (bodyL m))) ++ more) = if more = [] then 0 else 212 := by
  unfold rdEnd
  rw [htk, val4_le4 _ (sumL_lt (body_byt m h)), hl, if_neg (by omega), if_neg (by simp)]
  by_cases hm : more = []
  ·subst hm; simp
  ·have : 0 < more.length := List.length_pos_iff.2 hm
   rw [if_pos (by omega), if_neg hm]
 rw [he]
 by_cases hm : more = []
 ·rw [if_pos hm, if_neg (by simp), if_pos hm, c2, chunks_flat _ _ _ h.2.1]
 ·rw [if_neg hm, if_pos (by decide), if_neg hm]
theorem back (m : Img) (h : m.Ok) : readR (packL m) = .ok m := by
 have := read_pack m h []
 simpa using this
end Go.Proofs.YtnmnhgagnfodhaaDoor
namespace Go.Proofs.YtnmnhgagnfodhaaDoor
set_option linter.unusedVariables false
end Go.Proofs.YtnmnhgagnfodhaaDoor
namespace Go.Proofs.YtnmnhgagnfodhaaDoor
open Go.RowKit
set_option linter.unusedVariables false
theorem zero_cells (k : Nat) : Builtin.zeroCells (Value.int .u8 0).cells k = ((List.replicate k (0 : Int)).map (Value.int .u8)).toArray := by
 apply Array.ext'
 simp [Builtin.zeroCells, Value.cells]
 apply List.ext_getElem
 ·simp
 ·intro i h1 h2
  simp [Nat.mod_one]
theorem run_append_zeros (w : World) (base g n cap k : Nat) (xs : List Int) (ty : TypeId) (hown : Own w base g n cap xs) (h0 : 0 < k) (hb : n + k ≤ 140737488355328) (hbase : base ≤ w.heap.size) :
  ∃ g' cap' w', (Builtin.append_ #[32, 3] ty #[.slice (some ⟨g, 0, none⟩) n cap, .int .i64 (k : Int)]).run Tryd.prog w = .ok (.slice (some ⟨g', 0, none⟩) (n + k) cap') w' ∧ Own w' base g' (n + k) cap' (xs ++ List.replicate k 0) ∧ w.grownBy w' (some g) := by
 obtain ⟨i, hi, hz0, hz1, hz2⟩ := info_parts info5
 have hlx := hown.len
 have hlen : ((xs ++ List.replicate k (0 : Int)).map (Value.int .u8)).length = (n + k) * 1 := by simp; omega
 rcases hown.2 with ⟨h, _⟩ | ⟨g1, cap1, cur, hv, hbg, hg, hnc, hcm, hcs, htake⟩
 ·simp at h
 ·simp only [Value.slice.injEq, Option.some.injEq, Addr.mk.injEq, and_true, true_and] at hv
  obtain ⟨rfl, rfl⟩ := hv
  by_cases hroom : n + k ≤ cap
  ·have hw : IntKind.i64.wrap (k : Int) = k := by rw [IntKind.wrap_i64]; omega
   have hneg : ¬ ((k : Int) < 0) := by omega
   have hns : ¬ (k = 0) := by omega
   have h48 : ¬ ((281474976710656 : Int) < (k : Int)) := by omega
   have hst := run_storeCells_at Tryd.prog g (n * 1) 5 ((List.replicate k (0 : Int)).map (Value.int .u8)) 0 cur w hg (by simp; omega) (ints_oneCell _ _)
   simp only [Nat.add_zero, Nat.mul_one] at hst
   refine ⟨g, cap, _, ?_, ⟨hlen, .inr ⟨g, cap, _, rfl, hbg, setRow_heap w g cur (cur.toList.take n ++ ((List.replicate k (0 : Int)).map (Value.int .u8)) ++ cur.toList.drop (n + k)).toArray 5 _ hg, hroom, hcm, ?_, ?_⟩⟩, ⟨rfl, rfl, rfl, by simp, fun j _ hj => setRow_other w g j _ (fun e => hj (by simp [e]))⟩⟩
   ·simp [Builtin.append_, run_underlying Tryd.underlying32, run_underlying Tryd.underlying3, sizeOf, typeInfo, zeroValue, hi, hz0, hz1, hz2, asInt, asIntOf, hw, hneg, hns, h48, hroom, zero_cells, Addr.add_lit] at hst ⊢
    rw [hst]
    rfl
   ·simp only [List.size_toArray, List.length_append, List.length_take, List.length_drop, Array.length_toList, List.length_map, List.length_replicate]
    omega
   ·rw [List.map_append, show (xs.map (Value.int .u8)) = cur.toList.take n by rw [← htake]; simp]
    exact List.take_left' (by simp; omega)
  ·have holds : (Builtin.firstCells i.size n (.slice (some ⟨g, 0, none⟩) n cap)).run Tryd.prog w.drew = .ok (xs.map (Value.int .u8)).toArray w.drew := by
    have := run_firstCells_some (P := Tryd.prog) w.drew i.size n ⟨g, 0, none⟩ n cap (xs.map (Value.int .u8)) (by rw [hz1]; simp; omega) (World.ownsRow.cells hown (g := g) rfl)
    exact this
   have hr := Lib.run_append_grow_zeros (P := Tryd.prog) w 32 3 ty 5 i (.int .u8 0) .i64 .i64 Tryd.underlying32 Tryd.underlying3 hi hz0 (some ⟨g, 0, none⟩) n cap _ holds k h0 (by rw [hz1]; decide) (by omega) (by omega) (by rw [hz2]; omega) (by rw [hz2]; exact growslice_fits (by omega) (by omega))
   have hge := grownCap_ge w (n + k) cap 5
   have hcm' : grownCap w (n + k) cap 5 ≤ maxLen := grownCap_le_maxLen w (n + k) cap 5 (by simp only [maxLen]; omega)
   refine ⟨w.heap.size, grownCap w (n + k) cap 5, _, hr, ⟨hlen, .inr ⟨w.heap.size, _, _, rfl, hbase, heap_alloc_new w.drew _, hge, hcm', ?_, ?_⟩⟩, ⟨rfl, rfl, rfl, by simp, fun j hj _ => heap_alloc_old w.drew _ hj⟩⟩
   ·simp only [Array.size_append, List.size_toArray, size_zeroCells, List.length_map]
    simp [Value.cells]
    omega
   ·rw [zero_cells k]
    simp only [Array.toList_append, List.map_append]
    rw [List.take_left' (by simp; omega)]
theorem wpList_append_zeros {w : World} {ops : Array Oper} {rest : List Oper} {o : Oper} {a : Act} {Q : Exit → Act → World → Prop} (hgd : o.guard = none) (s x : Operand)
  (ho : o.op = .call { callee := .builtin .append, args := #[s, x], argTypes := #[32, 3] })
  (base g n cap : Nat) (xs : List Int) (hs : a.eval s = .slice (some ⟨g, 0, none⟩) n cap) (hown : Own w base g n cap xs) (k : Nat) (hx : a.eval x = .int .i64 (k : Int)) (h0 : 0 < k) (hb : n + k ≤ 140737488355328) (hbase : base ≤ w.heap.size)
  (h : ∀ g' cap' w', Own w' base g' (n + k) cap' (xs ++ List.replicate k 0) → w.grownBy w' (some g) → wpList Tryd.prog ops Q rest (a.put o.dst (.slice (some ⟨g', 0, none⟩) (n + k) cap')) w') : wpList Tryd.prog ops Q (o :: rest) a w := by
 obtain ⟨g', cap', w', hr, h1, h2⟩ := run_append_zeros w base g n cap k xs o.type hown h0 hb hbase
 refine wpList_plain hgd fun K hK => ?_
 unfold Oper.wp
 simp [execOp, ho, resolve, invoke, builtin, hs, hx, hr, Result.andThen]
 exact hK _ _ (h g' cap' w' h1 h2)
theorem blk3_0 {w : World} {q : Nat} {a b c : Value} {t : TypeId} (h : w.heap[q]? = some (.cells #[a, b, c] t (0, 0))) (v : Value) : (w.setCell ⟨q, 0, none⟩ v).heap[q]? = some (.cells #[v, b, c] t (0, 0)) := by
 obtain ⟨hlt, hk⟩ := Array.getElem?_eq_some_iff.1 h
 show (w.heap.modify q _)[q]? = _
 rw [Array.getElem?_eq_getElem (by rw [Array.size_modify]; exact hlt), Array.getElem_modify_self, hk]
 rfl
theorem blk3_1 {w : World} {q : Nat} {a b c : Value} {t : TypeId} (h : w.heap[q]? = some (.cells #[a, b, c] t (0, 0))) (v : Value) : (w.setCell ⟨q, 1, none⟩ v).heap[q]? = some (.cells #[a, v, c] t (0, 0)) := by
 obtain ⟨hlt, hk⟩ := Array.getElem?_eq_some_iff.1 h
 show (w.heap.modify q _)[q]? = _
 rw [Array.getElem?_eq_getElem (by rw [Array.size_modify]; exact hlt), Array.getElem_modify_self, hk]
 rfl
theorem blk3_2 {w : World} {q : Nat} {a b c : Value} {t : TypeId} (h : w.heap[q]? = some (.cells #[a, b, c] t (0, 0))) (v : Value) : (w.setCell ⟨q, 2, none⟩ v).heap[q]? = some (.cells #[a, b, v] t (0, 0)) := by
 obtain ⟨hlt, hk⟩ := Array.getElem?_eq_some_iff.1 h
 show (w.heap.modify q _)[q]? = _
 rw [Array.getElem?_eq_getElem (by rw [Array.size_modify]; exact hlt), Array.getElem_modify_self, hk]
 rfl
theorem blk3_cells {w : World} {q : Nat} {a b c : Value} {t : TypeId} (h : w.heap[q]? = some (.cells #[a, b, c] t (0, 0))) :
  w.cell? ⟨q, 0, none⟩ = some a ∧ w.cell? ⟨q, 1, none⟩ = some b ∧ w.cell? ⟨q, 2, none⟩ = some c ∧ w.frozen? ⟨q, 0, none⟩ = false ∧ w.frozen? ⟨q, 1, none⟩ = false ∧ w.frozen? ⟨q, 2, none⟩ = false := by
 refine ⟨?_, ?_, ?_, ?_, ?_, ?_⟩ <;> simp [World.cell?, World.frozen?, h]
def WrAt (w : World) (B q : Nat) (st : St) : Prop :=
 ∃ g cap, w.heap[q]? = some (.cells #[.slice (some ⟨g, 0, none⟩) st.laid.length cap, .int .i64 (st.kind : Int), .int .i64 (st.count : Int)] 89 (0, 0)) ∧ Own w B g st.laid.length cap st.laid ∧ B ≤ q ∧ Byt st.laid
structure Kw (B : Nat) (w w' : World) : Prop where
 bel : Below B w w'
 oth : ∀ (i : Nat) (o : Obj), w.heap[i]? = some o → (∀ cs f, o ≠ .cells cs 89 f) → (∀ cs f, o ≠ .cells cs 5 f) → w'.heap[i]? = some o
theorem Kw.trans {B : Nat} {a b c : World} (h : Kw B a b) (k : Kw B b c) : Kw B a c := ⟨h.bel.trans k.bel, fun i o h1 h2 h3 => k.oth i o (h.oth i o h1 h2 h3) h2 h3⟩
theorem Kw.of_below {B : Nat} {w w' : World} (hB : B ≤ w.heap.size) (h : Below w.heap.size w w') : Kw B w w' :=
 ⟨h.mono hB, fun i o hi _ _ => (h.block i (Array.getElem?_eq_some_iff.1 hi).1).trans hi⟩
theorem Own.blk {w : World} {B g n cap : Nat} {xs : List Int} (h : Own w B g n cap xs) : ∃ cur, w.heap[g]? = some (.cells cur 5 (0, 0)) := by
 rcases h.2 with ⟨h1, _⟩ | ⟨g1, cap1, cur, hv, _, hg, _⟩
 ·simp at h1
 ·simp only [Value.slice.injEq, Option.some.injEq, Addr.mk.injEq, and_true, true_and] at hv
  obtain ⟨rfl, rfl⟩ := hv
  exact ⟨cur, hg⟩
theorem Own.ne {w : World} {B g n cap q : Nat} {xs : List Int} {cs : Array Value} {t : TypeId} (h : Own w B g n cap xs) (hq : w.heap[q]? = some (.cells cs t (0, 0))) (ht : t ≠ 5) : q ≠ g := by
 intro e
 obtain ⟨cur, hc⟩ := h.blk
 rw [← e, hq] at hc
 simp only [Option.some.injEq, Obj.cells.injEq] at hc
 exact ht hc.2.1
theorem Kw.of_row {B g : Nat} {w w' : World} {cur : Array Value} (hg : w.heap[g]? = some (.cells cur 5 (0, 0))) (hB : B ≤ g) (hBw : B ≤ w.heap.size) (h : w.grownBy w' (some g)) : Kw B w w' := by
 refine ⟨(Below.refl B w).grown h hBw (fun k hk => by cases hk; exact hB), fun i o hi _ h5 => ?_⟩
 refine (h.block i (Array.getElem?_eq_some_iff.1 hi).1 (fun e => ?_)).trans hi
 cases e
 rw [hg] at hi
 cases hi
 exact h5 _ _ rfl
theorem Kw.of_own {B g n cap : Nat} {w w' : World} {xs : List Int} (hown : Own w B g n cap xs) (hBw : B ≤ w.heap.size) (h : w.grownBy w' (some g)) : Kw B w w' := by
 obtain ⟨cur, hc⟩ := hown.blk
 exact Kw.of_row hc hown.lt.1 hBw h
theorem Kw.of_box {B q : Nat} {w w' : World} {cs : Array Value} (hq : w.heap[q]? = some (.cells cs 89 (0, 0))) (hB : B ≤ q) (hBw : B ≤ w.heap.size) (h : w.grownBy w' (some q)) : Kw B w w' := by
 refine ⟨(Below.refl B w).grown h hBw (fun k hk => by cases hk; exact hB), fun i o hi h63 _ => ?_⟩
 refine (h.block i (Array.getElem?_eq_some_iff.1 hi).1 (fun e => ?_)).trans hi
 cases e
 rw [hq] at hi
 cases hi
 exact h63 _ _ rfl
theorem putL_tail (xs zs : List Int) (v : Int) (n : Nat) : putL (xs ++ zs) xs.length v n = xs ++ putL zs 0 v n := by
 induction n with
 | zero => rfl
 | succ n ih =>
  rw [putL, putL, ih, List.set_append_right _ _ (by omega)]
  congr 2
  omega
def leN (n : Nat) (v : Int) : List Int := putL (List.replicate n 0) 0 v n
theorem leN_length (n : Nat) (v : Int) : (leN n v).length = n := by rw [leN, putL_length, List.length_replicate]
theorem leN_byt (n : Nat) (v : Int) : Byt (leN n v) := putL_range _ _ _ _ (fun x hx => by have := (List.mem_replicate.1 hx).2; omega)
theorem WrAt.size {w : World} {B q : Nat} {st : St} (h : WrAt w B q st) : B ≤ w.heap.size := by
 obtain ⟨g, cap, hq, ho, hB, _⟩ := h
 have := (Array.getElem?_eq_some_iff.1 hq).1
 omega
theorem WrAt.below {w w' : World} {B q : Nat} {st : St} (h : WrAt w B q st) (hb : Below w.heap.size w w') : WrAt w' B q st := by
 obtain ⟨g, cap, hq, ho, hB, hr⟩ := h
 exact ⟨g, cap, (hb.block q (Array.getElem?_eq_some_iff.1 hq).1).trans hq, ho.below hb, hB, hr⟩
end Go.Proofs.YtnmnhgagnfodhaaDoor
