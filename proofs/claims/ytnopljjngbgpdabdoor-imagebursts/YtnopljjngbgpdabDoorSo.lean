/-
  SEAT YtnopljjngbgpdabDoor: bits turned round are seen.
-/
import Derived.Test.YtnopljjngbgpdabDoorSm
namespace Go.Proofs.YtnopljjngbgpdabDoor
open Go.RowKit
set_option linter.unusedVariables false

theorem turned_stop (bs : List Int) (a x i : Nat) (h : 8 * bs.length ≤ a + i) : ∀ d, turned bs a x (i + d) = turned bs a x i
  | 0 => rfl
  | d + 1 => by
    rw [← Nat.add_assoc, turned, if_neg (by omega)]
    exact turned_stop bs a x i h d

theorem turned_set {bs : List Int} (hb : Byt bs) (a x i : Nat) (h1 : a + i < 8 * bs.length) (h2 : x / 2 ^ i % 2 = 1) :
    turned bs a x (i + 1) = (turned bs a x i).set ((a + i) / 8) (bits .xor .u8 ((turned bs a x i).getD ((a + i) / 8) 0) (2 ^ ((a + i) % 8) % 256)) := by
  rw [turned, if_pos ⟨h1, h2⟩]
  congr 1
  have hl : (a + i) / 8 < (turned bs a x i).length := by rw [turned_len]; omega
  have hz : 0 ≤ (turned bs a x i).getD ((a + i) / 8) 0 ∧ (turned bs a x i).getD ((a + i) / 8) 0 ≤ 255 := by
    rw [List.getD_eq_getElem?_getD, List.getElem?_eq_getElem hl]
    exact turned_byt hb a x i _ (List.getElem_mem hl)
  obtain ⟨z, hz2⟩ := Int.eq_ofNat_of_zero_le hz.1
  rw [hz2] at hz ⊢
  have hp : 2 ^ ((a + i) % 8) < 256 := Nat.pow_lt_pow_right (show 1 < 2 by decide) (show (a + i) % 8 < 8 by omega)
  have e : ((2 : Int) ^ ((a + i) % 8) % 256) = ((2 ^ ((a + i) % 8) : Nat) : Int) := by
    have : ((2 ^ ((a + i) % 8) : Nat) : Int) = (2 : Int) ^ ((a + i) % 8) := by simp
    rw [← this]
    clear this
    generalize 2 ^ ((a + i) % 8) = Q at hp ⊢
    omega
  rw [e, u8_xor_nat z _ (by omega) hp]
  simp

theorem bit_and (X i : Nat) (hX : X < 4294967296) : bits .and .u32 ((X : Int) / 2 ^ i) 1 = ((X / 2 ^ i % 2 : Nat) : Int) := by
  have e : ((X : Int) / 2 ^ i) = ((X / 2 ^ i : Nat) : Int) := by simp
  have h2 : X / 2 ^ i < 4294967296 := Nat.lt_of_le_of_lt (Nat.div_le_self _ _) hX
  have h3 := u32_and_nat (X / 2 ^ i) 1 h2 (by decide)
  rw [e]
  rw [Nat.and_one_is_mod] at h3
  exact h3

theorem turned_skip (bs : List Int) (a x i : Nat) (h2 : ¬ x / 2 ^ i % 2 = 1) : turned bs a x (i + 1) = turned bs a x i := by
  rw [turned, if_neg (fun q => h2 q.2)]

set_option maxHeartbeats 4000000 in
set_option maxRecDepth 100000 in
theorem bursts_bad (b p s : Int) (a a' : Option Addr) (n c m c' : Nat) (zs : List Int) (bs : List Bool) (k x : Int) (w : World) (hn : n ≤ 140737488351232) (hm : m ≤ 140737488351232) (hr : Reads w a n zs) (hrb : ReadsB w a' m bs) (hnc : n ≤ c) (hc : c ≤ 9223372036854775807) (hk : -9223372036854775808 ≤ k ∧ k ≤ 9223372036854775807) (hx : 0 ≤ x ∧ x ≤ 4294967295) (ht : Tab w) (hE : chkE b p s n m ≠ 0) :
    Calls Tryd.prog 5 #[.agg #[.int .i64 b, .int .i64 p, .int .i64 s, .slice a n c, .slice a' m c'], .int .i64 k, .int .u32 x] w fun e w' => e = .returned (.bool true) ∧ Below w.heap.size w w' := by
  have hn2 : n ≤ 140737488355000 := by omega
  have hm2 : m ≤ 140737488355000 := by omega
  have HT1 : Hid (Tab (w.alloc (.cells #[.int .i64 b, .int .i64 p, .int .i64 s, .slice a n c, .slice a' m c'] 27))) := ht.below (below_alloc w _)
  have HR1 : Hid (Reads (w.alloc (.cells #[.int .i64 b, .int .i64 p, .int .i64 s, .slice a n c, .slice a' m c'] 27)) a n zs) := hr.below (below_alloc w _)
  have HM1 : Hid (ReadsB (w.alloc (.cells #[.int .i64 b, .int .i64 p, .int .i64 s, .slice a n c, .slice a' m c'] 27)) a' m bs) := hrb.below (below_alloc w _)
  have HX1 : Hid ((w.alloc (.cells #[.int .i64 b, .int .i64 p, .int .i64 s, .slice a n c, .slice a' m c'] 27)).heap[w.heap.size]? = some (.cells #[.int .i64 b, .int .i64 p, .int .i64 s, .slice a n c, .slice a' m c'] 27 (0, 0))) := heap_alloc_new _ _
  have HB1 : Hid (Below w.heap.size w (w.alloc (.cells #[.int .i64 b, .int .i64 p, .int .i64 s, .slice a n c, .slice a' m c'] 27))) := below_alloc w _
  obtain ⟨e0, e1, e2, e3, e4⟩ := cells5 HX1.out
  clear hr hrb ht
  obtain ⟨y, hy⟩ : ∃ y, chkE b p s n m = y := ⟨_, rfl⟩
  have HEN : Hid (chkE b p s n m ≠ 0) := hE
  have HE : Hid (chkE b p s n m = y) := hy
  rw [hy] at hE
  have hx1 : (y == 0) = false := by rw [beq_eq_false_iff_ne]; exact hE
  clear hy
  go_enter Tryd.func5, Tryd.ntmps5
  go_wp2_with (first
    | (go_at_call 9; refine (heads_any _ HT1.out).mono ?_; rintro e t1 ⟨rfl, b1⟩
       have HX2 : Hid (t1.heap[w.heap.size]? = some (.cells #[.int .i64 b, .int .i64 p, .int .i64 s, .slice a n c, .slice a' m c'] 27 (0, 0))) := (b1.block _ (Array.getElem?_eq_some_iff.1 HX1.out).1).trans HX1.out
       have HB2 : Hid (Below w.heap.size w t1) := below_trans HB1.out b1
       have HT2 : Hid (Tab t1) := HT1.out.below b1
       have HR2 : Hid (Reads t1 a n zs) := HR1.out.below b1
       have HM2 : Hid (ReadsB t1 a' m bs) := HM1.out.below b1
       clear b1 e0 e1 e2 e3 e4
       obtain ⟨e0, e1, e2, e3, e4⟩ := cells5 HX2.out)
    | (go_at_call 12; refine (no_any _ _).mono ?_; rintro e t9 ⟨rfl, ht9⟩; rw [ht9]; clear ht9)
    | (go_at_call 11; refine (pack_bad b p s _ _ n _ m _ _ HEN.out hn2 hm2).mono ?_; rintro e t3 ⟨rfl, b3⟩; rw [HE.out]
       have HX4 : Hid (t3.heap[w.heap.size]? = some (.cells #[.int .i64 b, .int .i64 p, .int .i64 s, .slice a n c, .slice a' m c'] 27 (0, 0))) := (b3.block _ (Array.getElem?_eq_some_iff.1 HX2.out).1).trans HX2.out
       have HB4 : Hid (Below w.heap.size w t3) := below_trans HB2.out b3
       have HT4 : Hid (Tab t3) := HT2.out.below b3
       have HR4 : Hid (Reads t3 a n zs) := HR2.out.below b3
       have HM4 : Hid (ReadsB t3 a' m bs) := HM2.out.below b3
       clear b3 e0 e1 e2 e3 e4
       obtain ⟨e0, e1, e2, e3, e4⟩ := cells5 HX4.out))
  go_ret
  exact ⟨rfl, HB4.out⟩

set_option maxHeartbeats 4000000 in
set_option maxRecDepth 100000 in
theorem bursts_out (b p s : Int) (a a' : Option Addr) (n c m c' : Nat) (zs : List Int) (bs : List Bool) (k x : Int) (w : World) (hn : n ≤ 140737488351232) (hm : m ≤ 140737488351232) (hr : Reads w a n zs) (hrb : ReadsB w a' m bs) (hnc : n ≤ c) (hc : c ≤ 9223372036854775807) (hk : -9223372036854775808 ≤ k ∧ k ≤ 9223372036854775807) (hx : 0 ≤ x ∧ x ≤ 4294967295) (ht : Tab w) (hE : chkE b p s n m = 0) (hkN : k < 0 ∨ 8 * ((packL (⟨b.toNat, p.toNat, s.toNat, zs, bs⟩ : Img)).length : Int) ≤ k) :
    Calls Tryd.prog 5 #[.agg #[.int .i64 b, .int .i64 p, .int .i64 s, .slice a n c, .slice a' m c'], .int .i64 k, .int .u32 x] w fun e w' => e = .returned (.bool true) ∧ Below w.heap.size w w' := by
  obtain ⟨M, hok, hMb, hMp, hMs, hMc, hMm, hMn⟩ := img_of hE hr.1 hrb.1 hr.2.1
  have HPOS : Hid (0 < n) := by
    unfold Hid
    obtain ⟨q1, q2, q3, q4, q5, q6, q7⟩ := fits_nat hok.1
    have h9 := hok.2.1
    rw [hMc, hr.1] at h9
    rw [h9]
    exact Nat.mul_pos (Nat.mul_pos (by omega) (by omega)) (by unfold Img.S; omega)
  obtain ⟨K, hK⟩ : ∃ K, (packL M).length = K := ⟨_, rfl⟩
  have HKL : Hid ((packL M).length = K) := hK
  have hMM : (⟨b.toNat, p.toNat, s.toNat, zs, bs⟩ : Img) = M := by obtain ⟨y1, y2, y3, y4, y5⟩ := M; simp only at hMb hMp hMs hMc hMm; subst hMc hMm; simp [hMb, hMp, hMs]
  rw [hMM, hK] at hkN
  clear hMM
  have hK9 := pack_len M hok
  rw [hK] at hK9
  have hK0 : 0 < K := by
    rw [← hK, packL, sealL, List.length_append]
    have h5 : (le4 (sumL (nats (bodyL M)))).length = 4 := rfl
    omega
  have hK14 : 14 ≤ K := by
    have hb := packS_bound M.C (M.C + M.S) (chunks (M.C + M.S) (M.b * M.p) M.cs) ⟨headL M.b M.p M.s M.ms, 0, 0⟩ [] (chunks_len _ _ _ hok.2.1) (by omega) (by rw [head_len]; omega) (by simp)
    have h2 : (headL M.b M.p M.s M.ms).length ≤ (bodyL M).length := hb.1
    rw [head_len] at h2
    rw [← hK, packL, sealL, List.length_append]
    have h5 : (le4 (sumL (nats (bodyL M)))).length = 4 := rfl
    omega
  have HMs : Hid (b = (M.b : Int) ∧ p = (M.p : Int) ∧ s = (M.s : Int) ∧ M.cs = zs ∧ M.ms = bs ∧ M.b = m) := ⟨hMb, hMp, hMs, hMc, hMm, hMn⟩
  clear hE hK hMb hMp hMs hMc hMm hMn
  have hn2 : n ≤ 140737488355000 := by omega
  have hm2 : m ≤ 140737488355000 := by omega
  have HT1 : Hid (Tab (w.alloc (.cells #[.int .i64 b, .int .i64 p, .int .i64 s, .slice a n c, .slice a' m c'] 27))) := ht.below (below_alloc w _)
  have HR1 : Hid (Reads (w.alloc (.cells #[.int .i64 b, .int .i64 p, .int .i64 s, .slice a n c, .slice a' m c'] 27)) a n zs) := hr.below (below_alloc w _)
  have HM1 : Hid (ReadsB (w.alloc (.cells #[.int .i64 b, .int .i64 p, .int .i64 s, .slice a n c, .slice a' m c'] 27)) a' m bs) := hrb.below (below_alloc w _)
  have HX1 : Hid ((w.alloc (.cells #[.int .i64 b, .int .i64 p, .int .i64 s, .slice a n c, .slice a' m c'] 27)).heap[w.heap.size]? = some (.cells #[.int .i64 b, .int .i64 p, .int .i64 s, .slice a n c, .slice a' m c'] 27 (0, 0))) := heap_alloc_new _ _
  have HB1 : Hid (Below w.heap.size w (w.alloc (.cells #[.int .i64 b, .int .i64 p, .int .i64 s, .slice a n c, .slice a' m c'] 27))) := below_alloc w _
  obtain ⟨e0, e1, e2, e3, e4⟩ := cells5 HX1.out
  clear hr hrb ht
  have T3 : Hid True := trivial
  obtain ⟨K8, hK8⟩ : ∃ K8, 8 * K = K8 := ⟨_, rfl⟩
  have w8 : IntKind.i64.wrap (8 * (K : Int)) = (K8 : Int) := by rw [IntKind.wrap_i64]; omega
  have hkN2 : k < 0 ∨ (K8 : Int) ≤ k := by omega
  clear hkN hK8
  rcases Int.lt_or_le k 0 with f1 | f1
  · go_enter Tryd.func5, Tryd.ntmps5
    go_wp2_with (first
      | (go_at_call 9; refine (heads_any _ HT1.out).mono ?_; rintro e t1 ⟨rfl, b1⟩
         have HX2 : Hid (t1.heap[w.heap.size]? = some (.cells #[.int .i64 b, .int .i64 p, .int .i64 s, .slice a n c, .slice a' m c'] 27 (0, 0))) := (b1.block _ (Array.getElem?_eq_some_iff.1 HX1.out).1).trans HX1.out
         have HB2 : Hid (Below w.heap.size w t1) := below_trans HB1.out b1
         have HT2 : Hid (Tab t1) := HT1.out.below b1
         have HR2 : Hid (Reads t1 a n zs) := HR1.out.below b1
         have HM2 : Hid (ReadsB t1 a' m bs) := HM1.out.below b1
         clear b1 e0 e1 e2 e3 e4
         obtain ⟨e0, e1, e2, e3, e4⟩ := cells5 HX2.out)
      | (go_at_call 12; refine (no_any _ _).mono ?_; rintro e t9 ⟨rfl, ht9⟩; rw [ht9]; clear ht9)
      | (go_at_call 11; have zz := T3; clear T3 zz; refine (packs_n hok HMs.out.1 HMs.out.2.1 HMs.out.2.2.1 HMs.out.2.2.2.1 HMs.out.2.2.2.2.1 HMs.out.2.2.2.2.2 _ HR2.out HM2.out HPOS.out hnc hc HT2.out).mono ?_; rintro e t3 ⟨g1, p1, rfl, o1, b3⟩; rw [HKL.out] at o1 ⊢
         have HX4 : Hid (t3.heap[w.heap.size]? = some (.cells #[.int .i64 b, .int .i64 p, .int .i64 s, .slice a n c, .slice a' m c'] 27 (0, 0))) := (b3.block _ (Array.getElem?_eq_some_iff.1 HX2.out).1).trans HX2.out
         have HB4 : Hid (Below w.heap.size w t3) := below_trans HB2.out b3
         have HT4 : Hid (Tab t3) := HT2.out.below b3
         have HR4 : Hid (Reads t3 a n zs) := HR2.out.below b3
         have HM4 : Hid (ReadsB t3 a' m bs) := HM2.out.below b3
         have HO4 : Hid (Reads t3 (some ⟨g1, 0, none⟩) K (packL M)) := o1.all (pack_byt M hok)
         have hp1 := o1.room_le hK0
         have hp2 : K ≤ p1 ∧ p1 ≤ 9223372036854775807 := by simp only [maxLen] at hp1; omega
         have HG4 : Hid (g1 < t3.heap.size) := o1.lt.2
         clear o1 hp1
         clear b3 e0 e1 e2 e3 e4))
    go_ret
    exact ⟨rfl, HB4.out⟩
  · have f2 : ¬ k < 0 := by omega
    have f3 : (K8 : Int) ≤ k := by omega
    go_enter Tryd.func5, Tryd.ntmps5
    go_wp2_with (first
      | (go_at_call 9; refine (heads_any _ HT1.out).mono ?_; rintro e t1 ⟨rfl, b1⟩
         have HX2 : Hid (t1.heap[w.heap.size]? = some (.cells #[.int .i64 b, .int .i64 p, .int .i64 s, .slice a n c, .slice a' m c'] 27 (0, 0))) := (b1.block _ (Array.getElem?_eq_some_iff.1 HX1.out).1).trans HX1.out
         have HB2 : Hid (Below w.heap.size w t1) := below_trans HB1.out b1
         have HT2 : Hid (Tab t1) := HT1.out.below b1
         have HR2 : Hid (Reads t1 a n zs) := HR1.out.below b1
         have HM2 : Hid (ReadsB t1 a' m bs) := HM1.out.below b1
         clear b1 e0 e1 e2 e3 e4
         obtain ⟨e0, e1, e2, e3, e4⟩ := cells5 HX2.out)
      | (go_at_call 12; refine (no_any _ _).mono ?_; rintro e t9 ⟨rfl, ht9⟩; rw [ht9]; clear ht9)
      | (go_at_call 11; have zz := T3; clear T3 zz; refine (packs_n hok HMs.out.1 HMs.out.2.1 HMs.out.2.2.1 HMs.out.2.2.2.1 HMs.out.2.2.2.2.1 HMs.out.2.2.2.2.2 _ HR2.out HM2.out HPOS.out hnc hc HT2.out).mono ?_; rintro e t3 ⟨g1, p1, rfl, o1, b3⟩; rw [HKL.out] at o1 ⊢
         have HX4 : Hid (t3.heap[w.heap.size]? = some (.cells #[.int .i64 b, .int .i64 p, .int .i64 s, .slice a n c, .slice a' m c'] 27 (0, 0))) := (b3.block _ (Array.getElem?_eq_some_iff.1 HX2.out).1).trans HX2.out
         have HB4 : Hid (Below w.heap.size w t3) := below_trans HB2.out b3
         have HT4 : Hid (Tab t3) := HT2.out.below b3
         have HR4 : Hid (Reads t3 a n zs) := HR2.out.below b3
         have HM4 : Hid (ReadsB t3 a' m bs) := HM2.out.below b3
         have HO4 : Hid (Reads t3 (some ⟨g1, 0, none⟩) K (packL M)) := o1.all (pack_byt M hok)
         have hp1 := o1.room_le hK0
         have hp2 : K ≤ p1 ∧ p1 ≤ 9223372036854775807 := by simp only [maxLen] at hp1; omega
         have HG4 : Hid (g1 < t3.heap.size) := o1.lt.2
         clear o1 hp1
         clear b3 e0 e1 e2 e3 e4))
    go_ret
    exact ⟨rfl, HB4.out⟩

set_option maxHeartbeats 4000000 in
set_option maxRecDepth 100000 in
theorem bursts_lg (b p s : Int) (a a' : Option Addr) (n c m c' : Nat) (zs : List Int) (bs : List Bool) (k x : Int) (w : World) (hn : n ≤ 140737488351232) (hm : m ≤ 140737488351232) (hr : Reads w a n zs) (hrb : ReadsB w a' m bs) (hnc : n ≤ c) (hc : c ≤ 9223372036854775807) (hk : -9223372036854775808 ≤ k ∧ k ≤ 9223372036854775807) (hx : 0 ≤ x ∧ x ≤ 4294967295) (ht : Tab w) (hE : chkE b p s n m = 0) (hk0 : 0 ≤ k) (hkK : k < 8 * ((packL (⟨b.toNat, p.toNat, s.toNat, zs, bs⟩ : Img)).length : Int)) (hLG : lrg (turned (packL (⟨b.toNat, p.toNat, s.toNat, zs, bs⟩ : Img)) k.toNat x.toNat 32) = true) :
    Calls Tryd.prog 5 #[.agg #[.int .i64 b, .int .i64 p, .int .i64 s, .slice a n c, .slice a' m c'], .int .i64 k, .int .u32 x] w fun e w' => e = .returned (.bool true) ∧ Below w.heap.size w w' := by
  obtain ⟨M, hok, hMb, hMp, hMs, hMc, hMm, hMn⟩ := img_of hE hr.1 hrb.1 hr.2.1
  have HPOS : Hid (0 < n) := by
    unfold Hid
    obtain ⟨q1, q2, q3, q4, q5, q6, q7⟩ := fits_nat hok.1
    have h9 := hok.2.1
    rw [hMc, hr.1] at h9
    rw [h9]
    exact Nat.mul_pos (Nat.mul_pos (by omega) (by omega)) (by unfold Img.S; omega)
  obtain ⟨K, hK⟩ : ∃ K, (packL M).length = K := ⟨_, rfl⟩
  have HKL : Hid ((packL M).length = K) := hK
  have hMM : (⟨b.toNat, p.toNat, s.toNat, zs, bs⟩ : Img) = M := by obtain ⟨y1, y2, y3, y4, y5⟩ := M; simp only at hMb hMp hMs hMc hMm; subst hMc hMm; simp [hMb, hMp, hMs]
  rw [hMM, hK] at hkK
  rw [hMM] at hLG
  clear hMM
  have hK9 := pack_len M hok
  rw [hK] at hK9
  have hK0 : 0 < K := by
    rw [← hK, packL, sealL, List.length_append]
    have h5 : (le4 (sumL (nats (bodyL M)))).length = 4 := rfl
    omega
  have hK14 : 14 ≤ K := by
    have hb := packS_bound M.C (M.C + M.S) (chunks (M.C + M.S) (M.b * M.p) M.cs) ⟨headL M.b M.p M.s M.ms, 0, 0⟩ [] (chunks_len _ _ _ hok.2.1) (by omega) (by rw [head_len]; omega) (by simp)
    have h2 : (headL M.b M.p M.s M.ms).length ≤ (bodyL M).length := hb.1
    rw [head_len] at h2
    rw [← hK, packL, sealL, List.length_append]
    have h5 : (le4 (sumL (nats (bodyL M)))).length = 4 := rfl
    omega
  have HMs : Hid (b = (M.b : Int) ∧ p = (M.p : Int) ∧ s = (M.s : Int) ∧ M.cs = zs ∧ M.ms = bs ∧ M.b = m) := ⟨hMb, hMp, hMs, hMc, hMm, hMn⟩
  clear hE hK hMb hMp hMs hMc hMm hMn
  have hn2 : n ≤ 140737488355000 := by omega
  have hm2 : m ≤ 140737488355000 := by omega
  have HT1 : Hid (Tab (w.alloc (.cells #[.int .i64 b, .int .i64 p, .int .i64 s, .slice a n c, .slice a' m c'] 27))) := ht.below (below_alloc w _)
  have HR1 : Hid (Reads (w.alloc (.cells #[.int .i64 b, .int .i64 p, .int .i64 s, .slice a n c, .slice a' m c'] 27)) a n zs) := hr.below (below_alloc w _)
  have HM1 : Hid (ReadsB (w.alloc (.cells #[.int .i64 b, .int .i64 p, .int .i64 s, .slice a n c, .slice a' m c'] 27)) a' m bs) := hrb.below (below_alloc w _)
  have HX1 : Hid ((w.alloc (.cells #[.int .i64 b, .int .i64 p, .int .i64 s, .slice a n c, .slice a' m c'] 27)).heap[w.heap.size]? = some (.cells #[.int .i64 b, .int .i64 p, .int .i64 s, .slice a n c, .slice a' m c'] 27 (0, 0))) := heap_alloc_new _ _
  have HB1 : Hid (Below w.heap.size w (w.alloc (.cells #[.int .i64 b, .int .i64 p, .int .i64 s, .slice a n c, .slice a' m c'] 27))) := below_alloc w _
  obtain ⟨e0, e1, e2, e3, e4⟩ := cells5 HX1.out
  clear hr hrb ht
  have T3 : Hid True := trivial
  obtain ⟨kk, rfl⟩ := Int.eq_ofNat_of_zero_le hk0
  obtain ⟨X, rfl⟩ := Int.eq_ofNat_of_zero_le hx.1
  simp only [Int.toNat_natCast] at hLG
  obtain ⟨K8, hK8⟩ : ∃ K8, 8 * K = K8 := ⟨_, rfl⟩
  have w8 : IntKind.i64.wrap (8 * (K : Int)) = (K8 : Int) := by rw [IntKind.wrap_i64]; omega
  have f1 : ¬ (kk : Int) < 0 := by omega
  have f2 : ¬ (K8 : Int) ≤ (kk : Int) := by omega
  obtain ⟨F, hF⟩ : ∃ F, turned (packL M) kk X 32 = F := ⟨_, rfl⟩
  rw [hF] at hLG
  have HFD : Hid (turned (packL M) kk X 32 = F) := hF
  have HLG : Hid (lrg F = true) := hLG
  have HFL : Hid (F.length = K) := by unfold Hid; rw [← hF, turned_len]; exact HKL.out
  have HK8 : Hid (8 * K = K8 ∧ kk < K8 ∧ K ≤ 900000000) := ⟨hK8, by omega, by omega⟩
  have hXb : X < 4294967296 := by omega
  have hkb : kk < 7200000000 := by omega
  have hx32 : 0 ≤ (X : Int) ∧ (X : Int) ≤ 4294967295 := hx
  clear hLG hF hk0 hkK hK8
  go_enter Tryd.func5, Tryd.ntmps5
  go_upto_region 7 with (first
    | (go_at_call 9; refine (heads_any _ HT1.out).mono ?_; rintro e t1 ⟨rfl, b1⟩
       have HX2 : Hid (t1.heap[w.heap.size]? = some (.cells #[.int .i64 b, .int .i64 p, .int .i64 s, .slice a n c, .slice a' m c'] 27 (0, 0))) := (b1.block _ (Array.getElem?_eq_some_iff.1 HX1.out).1).trans HX1.out
       have HB2 : Hid (Below w.heap.size w t1) := below_trans HB1.out b1
       have HT2 : Hid (Tab t1) := HT1.out.below b1
       have HR2 : Hid (Reads t1 a n zs) := HR1.out.below b1
       have HM2 : Hid (ReadsB t1 a' m bs) := HM1.out.below b1
       clear b1 e0 e1 e2 e3 e4
       obtain ⟨e0, e1, e2, e3, e4⟩ := cells5 HX2.out)
    | (go_at_call 12; refine (no_any _ _).mono ?_; rintro e t9 ⟨rfl, ht9⟩; rw [ht9]; clear ht9)
    | (go_at_call 11; have zz := T3; clear T3 zz; refine (packs_n hok HMs.out.1 HMs.out.2.1 HMs.out.2.2.1 HMs.out.2.2.2.1 HMs.out.2.2.2.2.1 HMs.out.2.2.2.2.2 _ HR2.out HM2.out HPOS.out hnc hc HT2.out).mono ?_; rintro e t3 ⟨g1, p1, rfl, o1, b3⟩; rw [HKL.out] at o1 ⊢
       have HX4 : Hid (t3.heap[w.heap.size]? = some (.cells #[.int .i64 b, .int .i64 p, .int .i64 s, .slice a n c, .slice a' m c'] 27 (0, 0))) := (b3.block _ (Array.getElem?_eq_some_iff.1 HX2.out).1).trans HX2.out
       have HB4 : Hid (Below w.heap.size w t3) := below_trans HB2.out b3
       have HT4 : Hid (Tab t3) := HT2.out.below b3
       have HR4 : Hid (Reads t3 a n zs) := HR2.out.below b3
       have HM4 : Hid (ReadsB t3 a' m bs) := HM2.out.below b3
       have HO4 : Hid (Reads t3 (some ⟨g1, 0, none⟩) K (packL M)) := o1.all (pack_byt M hok)
       have hp1 := o1.room_le hK0
       have hp2 : K ≤ p1 ∧ p1 ≤ 9223372036854775807 := by simp only [maxLen] at hp1; omega
       have HG4 : Hid (g1 < t3.heap.size) := o1.lt.2
       clear o1 hp1
       clear b3 e0 e1 e2 e3 e4
       have TA : Hid True := trivial)
    | (at_builtin; have zz := TA; clear TA zz; refine wpList_append_reads rfl (.tmp 34) (.tmp 35) rfl t3.heap.size (.slice (some ⟨t3.heap.size, 0, none⟩) 0 0) 0 [] rfl (own_empty' t3 t3.heap.size rfl) (some ⟨g1, 0, none⟩) K p1 (packL M) rfl (HO4.out.below (below_alloc _ _)) (by omega) (by simp) ?_; intro v1 w1 own1 grow1; simp only [Nat.zero_add, List.nil_append] at own1; obtain ⟨g2, c2, rfl, hc21, hc22, hg21, hg22⟩ := own_shape own1 hK0
       have HB6 : Hid (Below t3.heap.size t3 w1) := (below_alloc t3 _).grown grow1 (by simp) (fun q hq => ((own_empty' t3 t3.heap.size rfl).lt q hq).1)
       have HO6 : Hid (Own w1 t3.heap.size g2 K c2 (packL M)) := own1
       have hc24 : K ≤ c2 ∧ c2 ≤ 9223372036854775807 := by simp only [maxLen] at hc22; omega
       have HG2 : Hid (t3.heap.size ≤ g2) := hg21
       clear own1 grow1 hc21 hc22 hg21 hg22))
  go_wp2_with fail
  go_loopw [10] (fun s10 wr => ∃ i : Nat, i ≤ 32 ∧ s10 = .int .i64 (i : Int) ∧ Hid (Own wr t3.heap.size g2 K c2 (turned (packL M) kk X i)) ∧ Hid (Below t3.heap.size t3 wr)) (fun i _ => 32 - (intOf i).toNat)
  case atStart => exact ⟨0, by omega, rfl, HO6, HB6⟩
  case round =>
    obtain ⟨i, hi, rfl, HOW, HBQ⟩ := hrel
    have HRP : Hid (Reads wr (some ⟨g1, 0, none⟩) K (packL M)) := HO4.out.below HBQ.out
    have HTW : Hid (Tab wr) := HT4.out.below HBQ.out
    have HBW : Hid (Below w.heap.size w wr) := below_trans HB4.out HBQ.out
    by_cases h32 : i = 32
    · subst h32
      have HRF : Hid (Reads wr (some ⟨g2, 0, none⟩) K F) := (by have h9 := HOW.out.all (turned_byt (pack_byt M hok) kk X 32); rw [HFD.out] at h9; exact h9)
      have HGW : Hid (g2 < wr.heap.size) := HOW.out.lt.2
      go_wp2_with (first
        | (go_at_call 15; refine (large_fn g2 0 K c2 F wr HRF.out (by omega)).mono ?_; rintro e t5 ⟨q5, rfl, ht5⟩; rw [HLG.out, ht5]
           have HFA : Hid (Reads (wr.drewN q5) (some ⟨g2, 0, none⟩) K F) := HRF.out.drewN q5
           have HRB : Hid (Reads (wr.drewN q5) (some ⟨g1, 0, none⟩) K (packL M)) := HRP.out.drewN q5
           have HTA : Hid (Tab (wr.drewN q5)) := HTW.out.drewN q5
           have HBC : Hid (Below w.heap.size w (wr.drewN q5)) := ⟨HBW.out.os, HBW.out.tape, HBW.out.output, HBW.out.size, HBW.out.block⟩
           clear ht5))
      go_ret
      exact ⟨rfl, HBC.out⟩
    · have hi2 : (i : Int) < 32 := by omega
      obtain ⟨J, hJ⟩ : ∃ J, kk + i = J := ⟨_, rfl⟩
      have wJ : IntKind.i64.wrap ((kk : Int) + (i : Int)) = (J : Int) := by rw [IntKind.wrap_i64]; omega
      by_cases hJK : J < K8
      · have fJ : (J : Int) < (K8 : Int) := by omega
        have wi : IntKind.i64.wrap ((i : Int) + 1) = (i : Int) + 1 := by rw [IntKind.wrap_i64]; omega
        have HJ : Hid (kk + i = J) := hJ
        have HJ8 : Hid (kk + i < 8 * (packL M).length) := by unfold Hid; rw [HKL.out, HK8.out.1]; omega
        by_cases hbit : X / 2 ^ i % 2 = 1
        · have hbc : (bits BinOp.and IntKind.u32 ((X : Int) / 2 ^ i) 1 == 1) = true := by rw [bit_and X i hXb, hbit]; rfl
          obtain ⟨z, hz⟩ : ∃ z, (turned (packL M) kk X i).getD (J / 8) 0 = z := ⟨_, rfl⟩
          have hcx : wr.cell? ⟨g2, J / 8, none⟩ = some (.int .u8 z) := by rw [← hz]; exact HOW.out.cell (J / 8) (by have := HK8.out.1; omega)
          have hfz : wr.frozen? ⟨g2, J / 8, none⟩ = false := World.ownsRow.frozenAt HOW.out (J / 8)
          have i1 : (J : Int) / 8 < (K : Int) := by have := HK8.out.1; omega
          have HS1 : Hid (Own (wr.setCell ⟨g2, J / 8, none⟩ (.int .u8 (bits .xor .u8 z (2 ^ (J % 8) % 256)))) t3.heap.size g2 K c2 (turned (packL M) kk X (i + 1))) := by
            unfold Hid
            have h9 := (HOW.out.set (J / 8) (bits .xor .u8 z (2 ^ (J % 8) % 256))).1
            rw [turned_set (pack_byt M hok) kk X i HJ8.out hbit, HJ.out, hz]
            exact h9
          have HS2 : Hid (Below t3.heap.size t3 (wr.setCell ⟨g2, J / 8, none⟩ (.int .u8 (bits .xor .u8 z (2 ^ (J % 8) % 256))))) := HBQ.out.setCell (by exact HG2.out) _
          clear hz hJ hJK hbit
          go_wp2_with fail
          go_region
          all_goals go_wp2
          all_goals go_roundw
          all_goals first
            | exact ⟨i + 1, by omega, by simp, Own.drew1 HS1.out, HS2.out.drew⟩
            | (simp [intOf]; omega)
        · have hbc : (bits BinOp.and IntKind.u32 ((X : Int) / 2 ^ i) 1 == 1) = false := by
            rw [bit_and X i hXb, beq_eq_false_iff_ne]
            omega
          have HS1 : Hid (Own wr t3.heap.size g2 K c2 (turned (packL M) kk X (i + 1))) := by unfold Hid; rw [turned_skip (packL M) kk X i hbit]; exact HOW.out
          clear hJ hJK hbit
          go_wp2_with fail
          go_roundw
          all_goals first
            | exact ⟨i + 1, by omega, by simp, HS1, HBQ⟩
            | (simp [intOf]; omega)
      · have fJ : ¬ (J : Int) < (K8 : Int) := by omega
        have hts : turned (packL M) kk X i = F := by
          have h9 := turned_stop (packL M) kk X i (by rw [HKL.out, HK8.out.1]; omega) (32 - i)
          rw [show i + (32 - i) = 32 by omega, HFD.out] at h9
          exact h9.symm
        have HTS : Hid (turned (packL M) kk X i = F) := hts
        clear hts
        have HRF : Hid (Reads wr (some ⟨g2, 0, none⟩) K F) := (by have h9 := HOW.out.all (turned_byt (pack_byt M hok) kk X i); rw [HTS.out] at h9; exact h9)
        have HGW : Hid (g2 < wr.heap.size) := HOW.out.lt.2
        go_wp2_with (first
          | (go_at_call 15; refine (large_fn g2 0 K c2 F wr HRF.out (by omega)).mono ?_; rintro e t5 ⟨q5, rfl, ht5⟩; rw [HLG.out, ht5]
             have HFA : Hid (Reads (wr.drewN q5) (some ⟨g2, 0, none⟩) K F) := HRF.out.drewN q5
             have HRB : Hid (Reads (wr.drewN q5) (some ⟨g1, 0, none⟩) K (packL M)) := HRP.out.drewN q5
             have HTA : Hid (Tab (wr.drewN q5)) := HTW.out.drewN q5
             have HBC : Hid (Below w.heap.size w (wr.drewN q5)) := ⟨HBW.out.os, HBW.out.tape, HBW.out.output, HBW.out.size, HBW.out.block⟩
             clear ht5))
        go_ret
        exact ⟨rfl, HBC.out⟩

set_option maxHeartbeats 4000000 in
set_option maxRecDepth 100000 in
theorem bursts_eq (b p s : Int) (a a' : Option Addr) (n c m c' : Nat) (zs : List Int) (bs : List Bool) (k x : Int) (w : World) (hn : n ≤ 140737488351232) (hm : m ≤ 140737488351232) (hr : Reads w a n zs) (hrb : ReadsB w a' m bs) (hnc : n ≤ c) (hc : c ≤ 9223372036854775807) (hk : -9223372036854775808 ≤ k ∧ k ≤ 9223372036854775807) (hx : 0 ≤ x ∧ x ≤ 4294967295) (ht : Tab w) (hE : chkE b p s n m = 0) (hk0 : 0 ≤ k) (hkK : k < 8 * ((packL (⟨b.toNat, p.toNat, s.toNat, zs, bs⟩ : Img)).length : Int)) (hLG : lrg (turned (packL (⟨b.toNat, p.toNat, s.toNat, zs, bs⟩ : Img)) k.toNat x.toNat 32) = false) (hFE : turned (packL (⟨b.toNat, p.toNat, s.toNat, zs, bs⟩ : Img)) k.toNat x.toNat 32 = packL (⟨b.toNat, p.toNat, s.toNat, zs, bs⟩ : Img)) :
    Calls Tryd.prog 5 #[.agg #[.int .i64 b, .int .i64 p, .int .i64 s, .slice a n c, .slice a' m c'], .int .i64 k, .int .u32 x] w fun e w' => e = .returned (.bool true) ∧ Below w.heap.size w w' := by
  obtain ⟨M, hok, hMb, hMp, hMs, hMc, hMm, hMn⟩ := img_of hE hr.1 hrb.1 hr.2.1
  have HPOS : Hid (0 < n) := by
    unfold Hid
    obtain ⟨q1, q2, q3, q4, q5, q6, q7⟩ := fits_nat hok.1
    have h9 := hok.2.1
    rw [hMc, hr.1] at h9
    rw [h9]
    exact Nat.mul_pos (Nat.mul_pos (by omega) (by omega)) (by unfold Img.S; omega)
  obtain ⟨K, hK⟩ : ∃ K, (packL M).length = K := ⟨_, rfl⟩
  have HKL : Hid ((packL M).length = K) := hK
  have hMM : (⟨b.toNat, p.toNat, s.toNat, zs, bs⟩ : Img) = M := by obtain ⟨y1, y2, y3, y4, y5⟩ := M; simp only at hMb hMp hMs hMc hMm; subst hMc hMm; simp [hMb, hMp, hMs]
  rw [hMM, hK] at hkK
  rw [hMM] at hLG
  rw [hMM] at hFE
  clear hMM
  have hK9 := pack_len M hok
  rw [hK] at hK9
  have hK0 : 0 < K := by
    rw [← hK, packL, sealL, List.length_append]
    have h5 : (le4 (sumL (nats (bodyL M)))).length = 4 := rfl
    omega
  have hK14 : 14 ≤ K := by
    have hb := packS_bound M.C (M.C + M.S) (chunks (M.C + M.S) (M.b * M.p) M.cs) ⟨headL M.b M.p M.s M.ms, 0, 0⟩ [] (chunks_len _ _ _ hok.2.1) (by omega) (by rw [head_len]; omega) (by simp)
    have h2 : (headL M.b M.p M.s M.ms).length ≤ (bodyL M).length := hb.1
    rw [head_len] at h2
    rw [← hK, packL, sealL, List.length_append]
    have h5 : (le4 (sumL (nats (bodyL M)))).length = 4 := rfl
    omega
  have HMs : Hid (b = (M.b : Int) ∧ p = (M.p : Int) ∧ s = (M.s : Int) ∧ M.cs = zs ∧ M.ms = bs ∧ M.b = m) := ⟨hMb, hMp, hMs, hMc, hMm, hMn⟩
  clear hE hK hMb hMp hMs hMc hMm hMn
  have hn2 : n ≤ 140737488355000 := by omega
  have hm2 : m ≤ 140737488355000 := by omega
  have HT1 : Hid (Tab (w.alloc (.cells #[.int .i64 b, .int .i64 p, .int .i64 s, .slice a n c, .slice a' m c'] 27))) := ht.below (below_alloc w _)
  have HR1 : Hid (Reads (w.alloc (.cells #[.int .i64 b, .int .i64 p, .int .i64 s, .slice a n c, .slice a' m c'] 27)) a n zs) := hr.below (below_alloc w _)
  have HM1 : Hid (ReadsB (w.alloc (.cells #[.int .i64 b, .int .i64 p, .int .i64 s, .slice a n c, .slice a' m c'] 27)) a' m bs) := hrb.below (below_alloc w _)
  have HX1 : Hid ((w.alloc (.cells #[.int .i64 b, .int .i64 p, .int .i64 s, .slice a n c, .slice a' m c'] 27)).heap[w.heap.size]? = some (.cells #[.int .i64 b, .int .i64 p, .int .i64 s, .slice a n c, .slice a' m c'] 27 (0, 0))) := heap_alloc_new _ _
  have HB1 : Hid (Below w.heap.size w (w.alloc (.cells #[.int .i64 b, .int .i64 p, .int .i64 s, .slice a n c, .slice a' m c'] 27))) := below_alloc w _
  obtain ⟨e0, e1, e2, e3, e4⟩ := cells5 HX1.out
  clear hr hrb ht
  have T3 : Hid True := trivial
  obtain ⟨kk, rfl⟩ := Int.eq_ofNat_of_zero_le hk0
  obtain ⟨X, rfl⟩ := Int.eq_ofNat_of_zero_le hx.1
  simp only [Int.toNat_natCast] at hLG hFE
  obtain ⟨K8, hK8⟩ : ∃ K8, 8 * K = K8 := ⟨_, rfl⟩
  have w8 : IntKind.i64.wrap (8 * (K : Int)) = (K8 : Int) := by rw [IntKind.wrap_i64]; omega
  have f1 : ¬ (kk : Int) < 0 := by omega
  have f2 : ¬ (K8 : Int) ≤ (kk : Int) := by omega
  obtain ⟨F, hF⟩ : ∃ F, turned (packL M) kk X 32 = F := ⟨_, rfl⟩
  rw [hF] at hLG hFE
  have HFD : Hid (turned (packL M) kk X 32 = F) := hF
  have HLG : Hid (lrg F = false) := hLG
  have HFL : Hid (F.length = K) := by unfold Hid; rw [← hF, turned_len]; exact HKL.out
  have HDE : Hid (decide (F = packL M) = true) := decide_eq_true hFE
  have HK8 : Hid (8 * K = K8 ∧ kk < K8 ∧ K ≤ 900000000) := ⟨hK8, by omega, by omega⟩
  have hXb : X < 4294967296 := by omega
  have hkb : kk < 7200000000 := by omega
  have hx32 : 0 ≤ (X : Int) ∧ (X : Int) ≤ 4294967295 := hx
  clear hLG hF hk0 hkK hK8 hFE
  go_enter Tryd.func5, Tryd.ntmps5
  go_upto_region 7 with (first
    | (go_at_call 9; refine (heads_any _ HT1.out).mono ?_; rintro e t1 ⟨rfl, b1⟩
       have HX2 : Hid (t1.heap[w.heap.size]? = some (.cells #[.int .i64 b, .int .i64 p, .int .i64 s, .slice a n c, .slice a' m c'] 27 (0, 0))) := (b1.block _ (Array.getElem?_eq_some_iff.1 HX1.out).1).trans HX1.out
       have HB2 : Hid (Below w.heap.size w t1) := below_trans HB1.out b1
       have HT2 : Hid (Tab t1) := HT1.out.below b1
       have HR2 : Hid (Reads t1 a n zs) := HR1.out.below b1
       have HM2 : Hid (ReadsB t1 a' m bs) := HM1.out.below b1
       clear b1 e0 e1 e2 e3 e4
       obtain ⟨e0, e1, e2, e3, e4⟩ := cells5 HX2.out)
    | (go_at_call 12; refine (no_any _ _).mono ?_; rintro e t9 ⟨rfl, ht9⟩; rw [ht9]; clear ht9)
    | (go_at_call 11; have zz := T3; clear T3 zz; refine (packs_n hok HMs.out.1 HMs.out.2.1 HMs.out.2.2.1 HMs.out.2.2.2.1 HMs.out.2.2.2.2.1 HMs.out.2.2.2.2.2 _ HR2.out HM2.out HPOS.out hnc hc HT2.out).mono ?_; rintro e t3 ⟨g1, p1, rfl, o1, b3⟩; rw [HKL.out] at o1 ⊢
       have HX4 : Hid (t3.heap[w.heap.size]? = some (.cells #[.int .i64 b, .int .i64 p, .int .i64 s, .slice a n c, .slice a' m c'] 27 (0, 0))) := (b3.block _ (Array.getElem?_eq_some_iff.1 HX2.out).1).trans HX2.out
       have HB4 : Hid (Below w.heap.size w t3) := below_trans HB2.out b3
       have HT4 : Hid (Tab t3) := HT2.out.below b3
       have HR4 : Hid (Reads t3 a n zs) := HR2.out.below b3
       have HM4 : Hid (ReadsB t3 a' m bs) := HM2.out.below b3
       have HO4 : Hid (Reads t3 (some ⟨g1, 0, none⟩) K (packL M)) := o1.all (pack_byt M hok)
       have hp1 := o1.room_le hK0
       have hp2 : K ≤ p1 ∧ p1 ≤ 9223372036854775807 := by simp only [maxLen] at hp1; omega
       have HG4 : Hid (g1 < t3.heap.size) := o1.lt.2
       clear o1 hp1
       clear b3 e0 e1 e2 e3 e4
       have TA : Hid True := trivial)
    | (at_builtin; have zz := TA; clear TA zz; refine wpList_append_reads rfl (.tmp 34) (.tmp 35) rfl t3.heap.size (.slice (some ⟨t3.heap.size, 0, none⟩) 0 0) 0 [] rfl (own_empty' t3 t3.heap.size rfl) (some ⟨g1, 0, none⟩) K p1 (packL M) rfl (HO4.out.below (below_alloc _ _)) (by omega) (by simp) ?_; intro v1 w1 own1 grow1; simp only [Nat.zero_add, List.nil_append] at own1; obtain ⟨g2, c2, rfl, hc21, hc22, hg21, hg22⟩ := own_shape own1 hK0
       have HB6 : Hid (Below t3.heap.size t3 w1) := (below_alloc t3 _).grown grow1 (by simp) (fun q hq => ((own_empty' t3 t3.heap.size rfl).lt q hq).1)
       have HO6 : Hid (Own w1 t3.heap.size g2 K c2 (packL M)) := own1
       have hc24 : K ≤ c2 ∧ c2 ≤ 9223372036854775807 := by simp only [maxLen] at hc22; omega
       have HG2 : Hid (t3.heap.size ≤ g2) := hg21
       clear own1 grow1 hc21 hc22 hg21 hg22))
  go_wp2_with fail
  go_loopw [10] (fun s10 wr => ∃ i : Nat, i ≤ 32 ∧ s10 = .int .i64 (i : Int) ∧ Hid (Own wr t3.heap.size g2 K c2 (turned (packL M) kk X i)) ∧ Hid (Below t3.heap.size t3 wr)) (fun i _ => 32 - (intOf i).toNat)
  case atStart => exact ⟨0, by omega, rfl, HO6, HB6⟩
  case round =>
    obtain ⟨i, hi, rfl, HOW, HBQ⟩ := hrel
    have HRP : Hid (Reads wr (some ⟨g1, 0, none⟩) K (packL M)) := HO4.out.below HBQ.out
    have HTW : Hid (Tab wr) := HT4.out.below HBQ.out
    have HBW : Hid (Below w.heap.size w wr) := below_trans HB4.out HBQ.out
    by_cases h32 : i = 32
    · subst h32
      have HRF : Hid (Reads wr (some ⟨g2, 0, none⟩) K F) := (by have h9 := HOW.out.all (turned_byt (pack_byt M hok) kk X 32); rw [HFD.out] at h9; exact h9)
      have HGW : Hid (g2 < wr.heap.size) := HOW.out.lt.2
      go_wp2_with (first
        | (go_at_call 15; refine (large_fn g2 0 K c2 F wr HRF.out (by omega)).mono ?_; rintro e t5 ⟨q5, rfl, ht5⟩; rw [HLG.out, ht5]
           have HFA : Hid (Reads (wr.drewN q5) (some ⟨g2, 0, none⟩) K F) := HRF.out.drewN q5
           have HRB : Hid (Reads (wr.drewN q5) (some ⟨g1, 0, none⟩) K (packL M)) := HRP.out.drewN q5
           have HTA : Hid (Tab (wr.drewN q5)) := HTW.out.drewN q5
           have HBC : Hid (Below w.heap.size w (wr.drewN q5)) := ⟨HBW.out.os, HBW.out.tape, HBW.out.output, HBW.out.size, HBW.out.block⟩
           clear ht5)
        | (go_at_call 16; refine (same_any _ _ _ _ _ _ F (packL M) _ HFA.out HRB.out).mono ?_; rintro e t6 ⟨rfl, hu6⟩; rw [hu6, HDE.out]; clear hu6))
      go_ret
      exact ⟨rfl, HBC.out⟩
    · have hi2 : (i : Int) < 32 := by omega
      obtain ⟨J, hJ⟩ : ∃ J, kk + i = J := ⟨_, rfl⟩
      have wJ : IntKind.i64.wrap ((kk : Int) + (i : Int)) = (J : Int) := by rw [IntKind.wrap_i64]; omega
      by_cases hJK : J < K8
      · have fJ : (J : Int) < (K8 : Int) := by omega
        have wi : IntKind.i64.wrap ((i : Int) + 1) = (i : Int) + 1 := by rw [IntKind.wrap_i64]; omega
        have HJ : Hid (kk + i = J) := hJ
        have HJ8 : Hid (kk + i < 8 * (packL M).length) := by unfold Hid; rw [HKL.out, HK8.out.1]; omega
        by_cases hbit : X / 2 ^ i % 2 = 1
        · have hbc : (bits BinOp.and IntKind.u32 ((X : Int) / 2 ^ i) 1 == 1) = true := by rw [bit_and X i hXb, hbit]; rfl
          obtain ⟨z, hz⟩ : ∃ z, (turned (packL M) kk X i).getD (J / 8) 0 = z := ⟨_, rfl⟩
          have hcx : wr.cell? ⟨g2, J / 8, none⟩ = some (.int .u8 z) := by rw [← hz]; exact HOW.out.cell (J / 8) (by have := HK8.out.1; omega)
          have hfz : wr.frozen? ⟨g2, J / 8, none⟩ = false := World.ownsRow.frozenAt HOW.out (J / 8)
          have i1 : (J : Int) / 8 < (K : Int) := by have := HK8.out.1; omega
          have HS1 : Hid (Own (wr.setCell ⟨g2, J / 8, none⟩ (.int .u8 (bits .xor .u8 z (2 ^ (J % 8) % 256)))) t3.heap.size g2 K c2 (turned (packL M) kk X (i + 1))) := by
            unfold Hid
            have h9 := (HOW.out.set (J / 8) (bits .xor .u8 z (2 ^ (J % 8) % 256))).1
            rw [turned_set (pack_byt M hok) kk X i HJ8.out hbit, HJ.out, hz]
            exact h9
          have HS2 : Hid (Below t3.heap.size t3 (wr.setCell ⟨g2, J / 8, none⟩ (.int .u8 (bits .xor .u8 z (2 ^ (J % 8) % 256))))) := HBQ.out.setCell (by exact HG2.out) _
          clear hz hJ hJK hbit
          go_wp2_with fail
          go_region
          all_goals go_wp2
          all_goals go_roundw
          all_goals first
            | exact ⟨i + 1, by omega, by simp, Own.drew1 HS1.out, HS2.out.drew⟩
            | (simp [intOf]; omega)
        · have hbc : (bits BinOp.and IntKind.u32 ((X : Int) / 2 ^ i) 1 == 1) = false := by
            rw [bit_and X i hXb, beq_eq_false_iff_ne]
            omega
          have HS1 : Hid (Own wr t3.heap.size g2 K c2 (turned (packL M) kk X (i + 1))) := by unfold Hid; rw [turned_skip (packL M) kk X i hbit]; exact HOW.out
          clear hJ hJK hbit
          go_wp2_with fail
          go_roundw
          all_goals first
            | exact ⟨i + 1, by omega, by simp, HS1, HBQ⟩
            | (simp [intOf]; omega)
      · have fJ : ¬ (J : Int) < (K8 : Int) := by omega
        have hts : turned (packL M) kk X i = F := by
          have h9 := turned_stop (packL M) kk X i (by rw [HKL.out, HK8.out.1]; omega) (32 - i)
          rw [show i + (32 - i) = 32 by omega, HFD.out] at h9
          exact h9.symm
        have HTS : Hid (turned (packL M) kk X i = F) := hts
        clear hts
        have HRF : Hid (Reads wr (some ⟨g2, 0, none⟩) K F) := (by have h9 := HOW.out.all (turned_byt (pack_byt M hok) kk X i); rw [HTS.out] at h9; exact h9)
        have HGW : Hid (g2 < wr.heap.size) := HOW.out.lt.2
        go_wp2_with (first
          | (go_at_call 15; refine (large_fn g2 0 K c2 F wr HRF.out (by omega)).mono ?_; rintro e t5 ⟨q5, rfl, ht5⟩; rw [HLG.out, ht5]
             have HFA : Hid (Reads (wr.drewN q5) (some ⟨g2, 0, none⟩) K F) := HRF.out.drewN q5
             have HRB : Hid (Reads (wr.drewN q5) (some ⟨g1, 0, none⟩) K (packL M)) := HRP.out.drewN q5
             have HTA : Hid (Tab (wr.drewN q5)) := HTW.out.drewN q5
             have HBC : Hid (Below w.heap.size w (wr.drewN q5)) := ⟨HBW.out.os, HBW.out.tape, HBW.out.output, HBW.out.size, HBW.out.block⟩
             clear ht5)
          | (go_at_call 16; refine (same_any _ _ _ _ _ _ F (packL M) _ HFA.out HRB.out).mono ?_; rintro e t6 ⟨rfl, hu6⟩; rw [hu6, HDE.out]; clear hu6))
        go_ret
        exact ⟨rfl, HBC.out⟩

set_option maxHeartbeats 4000000 in
set_option maxRecDepth 100000 in
theorem bursts_rd (b p s : Int) (a a' : Option Addr) (n c m c' : Nat) (zs : List Int) (bs : List Bool) (k x : Int) (w : World) (hn : n ≤ 140737488351232) (hm : m ≤ 140737488351232) (hr : Reads w a n zs) (hrb : ReadsB w a' m bs) (hnc : n ≤ c) (hc : c ≤ 9223372036854775807) (hk : -9223372036854775808 ≤ k ∧ k ≤ 9223372036854775807) (hx : 0 ≤ x ∧ x ≤ 4294967295) (ht : Tab w) (hE : chkE b p s n m = 0) (hk0 : 0 ≤ k) (hkK : k < 8 * ((packL (⟨b.toNat, p.toNat, s.toNat, zs, bs⟩ : Img)).length : Int)) (hLG : lrg (turned (packL (⟨b.toNat, p.toNat, s.toNat, zs, bs⟩ : Img)) k.toNat x.toNat 32) = false) (hFE : turned (packL (⟨b.toNat, p.toNat, s.toNat, zs, bs⟩ : Img)) k.toNat x.toNat 32 ≠ packL (⟨b.toNat, p.toNat, s.toNat, zs, bs⟩ : Img)) :
    Calls Tryd.prog 5 #[.agg #[.int .i64 b, .int .i64 p, .int .i64 s, .slice a n c, .slice a' m c'], .int .i64 k, .int .u32 x] w fun e w' => e = .returned (.bool true) ∧ Below w.heap.size w w' := by
  obtain ⟨M, hok, hMb, hMp, hMs, hMc, hMm, hMn⟩ := img_of hE hr.1 hrb.1 hr.2.1
  have HPOS : Hid (0 < n) := by
    unfold Hid
    obtain ⟨q1, q2, q3, q4, q5, q6, q7⟩ := fits_nat hok.1
    have h9 := hok.2.1
    rw [hMc, hr.1] at h9
    rw [h9]
    exact Nat.mul_pos (Nat.mul_pos (by omega) (by omega)) (by unfold Img.S; omega)
  obtain ⟨K, hK⟩ : ∃ K, (packL M).length = K := ⟨_, rfl⟩
  have HKL : Hid ((packL M).length = K) := hK
  have hMM : (⟨b.toNat, p.toNat, s.toNat, zs, bs⟩ : Img) = M := by obtain ⟨y1, y2, y3, y4, y5⟩ := M; simp only at hMb hMp hMs hMc hMm; subst hMc hMm; simp [hMb, hMp, hMs]
  rw [hMM, hK] at hkK
  rw [hMM] at hLG
  rw [hMM] at hFE
  clear hMM
  have hK9 := pack_len M hok
  rw [hK] at hK9
  have hK0 : 0 < K := by
    rw [← hK, packL, sealL, List.length_append]
    have h5 : (le4 (sumL (nats (bodyL M)))).length = 4 := rfl
    omega
  have hK14 : 14 ≤ K := by
    have hb := packS_bound M.C (M.C + M.S) (chunks (M.C + M.S) (M.b * M.p) M.cs) ⟨headL M.b M.p M.s M.ms, 0, 0⟩ [] (chunks_len _ _ _ hok.2.1) (by omega) (by rw [head_len]; omega) (by simp)
    have h2 : (headL M.b M.p M.s M.ms).length ≤ (bodyL M).length := hb.1
    rw [head_len] at h2
    rw [← hK, packL, sealL, List.length_append]
    have h5 : (le4 (sumL (nats (bodyL M)))).length = 4 := rfl
    omega
  have HMs : Hid (b = (M.b : Int) ∧ p = (M.p : Int) ∧ s = (M.s : Int) ∧ M.cs = zs ∧ M.ms = bs ∧ M.b = m) := ⟨hMb, hMp, hMs, hMc, hMm, hMn⟩
  clear hE hK hMb hMp hMs hMc hMm hMn
  have hn2 : n ≤ 140737488355000 := by omega
  have hm2 : m ≤ 140737488355000 := by omega
  have HT1 : Hid (Tab (w.alloc (.cells #[.int .i64 b, .int .i64 p, .int .i64 s, .slice a n c, .slice a' m c'] 27))) := ht.below (below_alloc w _)
  have HR1 : Hid (Reads (w.alloc (.cells #[.int .i64 b, .int .i64 p, .int .i64 s, .slice a n c, .slice a' m c'] 27)) a n zs) := hr.below (below_alloc w _)
  have HM1 : Hid (ReadsB (w.alloc (.cells #[.int .i64 b, .int .i64 p, .int .i64 s, .slice a n c, .slice a' m c'] 27)) a' m bs) := hrb.below (below_alloc w _)
  have HX1 : Hid ((w.alloc (.cells #[.int .i64 b, .int .i64 p, .int .i64 s, .slice a n c, .slice a' m c'] 27)).heap[w.heap.size]? = some (.cells #[.int .i64 b, .int .i64 p, .int .i64 s, .slice a n c, .slice a' m c'] 27 (0, 0))) := heap_alloc_new _ _
  have HB1 : Hid (Below w.heap.size w (w.alloc (.cells #[.int .i64 b, .int .i64 p, .int .i64 s, .slice a n c, .slice a' m c'] 27))) := below_alloc w _
  obtain ⟨e0, e1, e2, e3, e4⟩ := cells5 HX1.out
  clear hr hrb ht
  have T3 : Hid True := trivial
  obtain ⟨kk, rfl⟩ := Int.eq_ofNat_of_zero_le hk0
  obtain ⟨X, rfl⟩ := Int.eq_ofNat_of_zero_le hx.1
  simp only [Int.toNat_natCast] at hLG hFE
  obtain ⟨K8, hK8⟩ : ∃ K8, 8 * K = K8 := ⟨_, rfl⟩
  have w8 : IntKind.i64.wrap (8 * (K : Int)) = (K8 : Int) := by rw [IntKind.wrap_i64]; omega
  have f1 : ¬ (kk : Int) < 0 := by omega
  have f2 : ¬ (K8 : Int) ≤ (kk : Int) := by omega
  obtain ⟨F, hF⟩ : ∃ F, turned (packL M) kk X 32 = F := ⟨_, rfl⟩
  rw [hF] at hLG hFE
  have HFD : Hid (turned (packL M) kk X 32 = F) := hF
  have HLG : Hid (lrg F = false) := hLG
  have HFL : Hid (F.length = K) := by unfold Hid; rw [← hF, turned_len]; exact HKL.out
  have HDE : Hid (decide (F = packL M) = false) := decide_eq_false hFE
  have HNR : Hid (∀ m', readR F ≠ .ok m') := fun m' h9 => hFE (by rw [← hF] at h9 ⊢; exact burst_bad hok kk X (by rw [HKL.out]; omega) h9)
  have HK8 : Hid (8 * K = K8 ∧ kk < K8 ∧ K ≤ 900000000) := ⟨hK8, by omega, by omega⟩
  have hXb : X < 4294967296 := by omega
  have hkb : kk < 7200000000 := by omega
  have hx32 : 0 ≤ (X : Int) ∧ (X : Int) ≤ 4294967295 := hx
  clear hLG hF hk0 hkK hK8 hFE
  go_enter Tryd.func5, Tryd.ntmps5
  go_upto_region 7 with (first
    | (go_at_call 9; refine (heads_any _ HT1.out).mono ?_; rintro e t1 ⟨rfl, b1⟩
       have HX2 : Hid (t1.heap[w.heap.size]? = some (.cells #[.int .i64 b, .int .i64 p, .int .i64 s, .slice a n c, .slice a' m c'] 27 (0, 0))) := (b1.block _ (Array.getElem?_eq_some_iff.1 HX1.out).1).trans HX1.out
       have HB2 : Hid (Below w.heap.size w t1) := below_trans HB1.out b1
       have HT2 : Hid (Tab t1) := HT1.out.below b1
       have HR2 : Hid (Reads t1 a n zs) := HR1.out.below b1
       have HM2 : Hid (ReadsB t1 a' m bs) := HM1.out.below b1
       clear b1 e0 e1 e2 e3 e4
       obtain ⟨e0, e1, e2, e3, e4⟩ := cells5 HX2.out)
    | (go_at_call 12; refine (no_any _ _).mono ?_; rintro e t9 ⟨rfl, ht9⟩; rw [ht9]; clear ht9)
    | (go_at_call 11; have zz := T3; clear T3 zz; refine (packs_n hok HMs.out.1 HMs.out.2.1 HMs.out.2.2.1 HMs.out.2.2.2.1 HMs.out.2.2.2.2.1 HMs.out.2.2.2.2.2 _ HR2.out HM2.out HPOS.out hnc hc HT2.out).mono ?_; rintro e t3 ⟨g1, p1, rfl, o1, b3⟩; rw [HKL.out] at o1 ⊢
       have HX4 : Hid (t3.heap[w.heap.size]? = some (.cells #[.int .i64 b, .int .i64 p, .int .i64 s, .slice a n c, .slice a' m c'] 27 (0, 0))) := (b3.block _ (Array.getElem?_eq_some_iff.1 HX2.out).1).trans HX2.out
       have HB4 : Hid (Below w.heap.size w t3) := below_trans HB2.out b3
       have HT4 : Hid (Tab t3) := HT2.out.below b3
       have HR4 : Hid (Reads t3 a n zs) := HR2.out.below b3
       have HM4 : Hid (ReadsB t3 a' m bs) := HM2.out.below b3
       have HO4 : Hid (Reads t3 (some ⟨g1, 0, none⟩) K (packL M)) := o1.all (pack_byt M hok)
       have hp1 := o1.room_le hK0
       have hp2 : K ≤ p1 ∧ p1 ≤ 9223372036854775807 := by simp only [maxLen] at hp1; omega
       have HG4 : Hid (g1 < t3.heap.size) := o1.lt.2
       clear o1 hp1
       clear b3 e0 e1 e2 e3 e4
       have TA : Hid True := trivial)
    | (at_builtin; have zz := TA; clear TA zz; refine wpList_append_reads rfl (.tmp 34) (.tmp 35) rfl t3.heap.size (.slice (some ⟨t3.heap.size, 0, none⟩) 0 0) 0 [] rfl (own_empty' t3 t3.heap.size rfl) (some ⟨g1, 0, none⟩) K p1 (packL M) rfl (HO4.out.below (below_alloc _ _)) (by omega) (by simp) ?_; intro v1 w1 own1 grow1; simp only [Nat.zero_add, List.nil_append] at own1; obtain ⟨g2, c2, rfl, hc21, hc22, hg21, hg22⟩ := own_shape own1 hK0
       have HB6 : Hid (Below t3.heap.size t3 w1) := (below_alloc t3 _).grown grow1 (by simp) (fun q hq => ((own_empty' t3 t3.heap.size rfl).lt q hq).1)
       have HO6 : Hid (Own w1 t3.heap.size g2 K c2 (packL M)) := own1
       have hc24 : K ≤ c2 ∧ c2 ≤ 9223372036854775807 := by simp only [maxLen] at hc22; omega
       have HG2 : Hid (t3.heap.size ≤ g2) := hg21
       clear own1 grow1 hc21 hc22 hg21 hg22))
  go_wp2_with fail
  go_loopw [10] (fun s10 wr => ∃ i : Nat, i ≤ 32 ∧ s10 = .int .i64 (i : Int) ∧ Hid (Own wr t3.heap.size g2 K c2 (turned (packL M) kk X i)) ∧ Hid (Below t3.heap.size t3 wr)) (fun i _ => 32 - (intOf i).toNat)
  case atStart => exact ⟨0, by omega, rfl, HO6, HB6⟩
  case round =>
    obtain ⟨i, hi, rfl, HOW, HBQ⟩ := hrel
    have HRP : Hid (Reads wr (some ⟨g1, 0, none⟩) K (packL M)) := HO4.out.below HBQ.out
    have HTW : Hid (Tab wr) := HT4.out.below HBQ.out
    have HBW : Hid (Below w.heap.size w wr) := below_trans HB4.out HBQ.out
    by_cases h32 : i = 32
    · subst h32
      have HRF : Hid (Reads wr (some ⟨g2, 0, none⟩) K F) := (by have h9 := HOW.out.all (turned_byt (pack_byt M hok) kk X 32); rw [HFD.out] at h9; exact h9)
      have HGW : Hid (g2 < wr.heap.size) := HOW.out.lt.2
      go_wp2_with (first
        | (go_at_call 15; refine (large_fn g2 0 K c2 F wr HRF.out (by omega)).mono ?_; rintro e t5 ⟨q5, rfl, ht5⟩; rw [HLG.out, ht5]
           have HFA : Hid (Reads (wr.drewN q5) (some ⟨g2, 0, none⟩) K F) := HRF.out.drewN q5
           have HRB : Hid (Reads (wr.drewN q5) (some ⟨g1, 0, none⟩) K (packL M)) := HRP.out.drewN q5
           have HTA : Hid (Tab (wr.drewN q5)) := HTW.out.drewN q5
           have HBC : Hid (Below w.heap.size w (wr.drewN q5)) := ⟨HBW.out.os, HBW.out.tape, HBW.out.output, HBW.out.size, HBW.out.block⟩
           clear ht5)
        | (go_at_call 16; refine (same_any _ _ _ _ _ _ F (packL M) _ HFA.out HRB.out).mono ?_; rintro e t6 ⟨rfl, hu6⟩; rw [hu6, HDE.out]; clear hu6)
        | (go_at_call 13; refine (read_n g2 0 K c2 F _ HFL.out HFA.out (by omega) hc24.1 hc24.2 HGW.out HTA.out).mono ?_; rintro e t7 ⟨res, b7⟩
           obtain ⟨y, hy0, _, rfl⟩ := res_err res HNR.out
           have hy1 : (y == 0) = false := (by rw [beq_eq_false_iff_ne]; exact hy0)
           have hy2 : ¬ y = 0 := hy0
           have HBE : Hid (Below w.heap.size w (t7.alloc (.cells #[.int .i64 0, .int .i64 0, .int .i64 0, .slice none 0 0, .slice none 0 0] 27))) := below_trans HBC.out (below_trans b7 (below_alloc _ _))
           clear res b7)
        | (go_at_call 12; refine (no_any _ _).mono ?_; rintro e t8 ⟨rfl, ht8⟩; rw [ht8]; clear ht8))
      go_ret
      exact ⟨by simp [hy2], HBE.out⟩
    · have hi2 : (i : Int) < 32 := by omega
      obtain ⟨J, hJ⟩ : ∃ J, kk + i = J := ⟨_, rfl⟩
      have wJ : IntKind.i64.wrap ((kk : Int) + (i : Int)) = (J : Int) := by rw [IntKind.wrap_i64]; omega
      by_cases hJK : J < K8
      · have fJ : (J : Int) < (K8 : Int) := by omega
        have wi : IntKind.i64.wrap ((i : Int) + 1) = (i : Int) + 1 := by rw [IntKind.wrap_i64]; omega
        have HJ : Hid (kk + i = J) := hJ
        have HJ8 : Hid (kk + i < 8 * (packL M).length) := by unfold Hid; rw [HKL.out, HK8.out.1]; omega
        by_cases hbit : X / 2 ^ i % 2 = 1
        · have hbc : (bits BinOp.and IntKind.u32 ((X : Int) / 2 ^ i) 1 == 1) = true := by rw [bit_and X i hXb, hbit]; rfl
          obtain ⟨z, hz⟩ : ∃ z, (turned (packL M) kk X i).getD (J / 8) 0 = z := ⟨_, rfl⟩
          have hcx : wr.cell? ⟨g2, J / 8, none⟩ = some (.int .u8 z) := by rw [← hz]; exact HOW.out.cell (J / 8) (by have := HK8.out.1; omega)
          have hfz : wr.frozen? ⟨g2, J / 8, none⟩ = false := World.ownsRow.frozenAt HOW.out (J / 8)
          have i1 : (J : Int) / 8 < (K : Int) := by have := HK8.out.1; omega
          have HS1 : Hid (Own (wr.setCell ⟨g2, J / 8, none⟩ (.int .u8 (bits .xor .u8 z (2 ^ (J % 8) % 256)))) t3.heap.size g2 K c2 (turned (packL M) kk X (i + 1))) := by
            unfold Hid
            have h9 := (HOW.out.set (J / 8) (bits .xor .u8 z (2 ^ (J % 8) % 256))).1
            rw [turned_set (pack_byt M hok) kk X i HJ8.out hbit, HJ.out, hz]
            exact h9
          have HS2 : Hid (Below t3.heap.size t3 (wr.setCell ⟨g2, J / 8, none⟩ (.int .u8 (bits .xor .u8 z (2 ^ (J % 8) % 256))))) := HBQ.out.setCell (by exact HG2.out) _
          clear hz hJ hJK hbit
          go_wp2_with fail
          go_region
          all_goals go_wp2
          all_goals go_roundw
          all_goals first
            | exact ⟨i + 1, by omega, by simp, Own.drew1 HS1.out, HS2.out.drew⟩
            | (simp [intOf]; omega)
        · have hbc : (bits BinOp.and IntKind.u32 ((X : Int) / 2 ^ i) 1 == 1) = false := by
            rw [bit_and X i hXb, beq_eq_false_iff_ne]
            omega
          have HS1 : Hid (Own wr t3.heap.size g2 K c2 (turned (packL M) kk X (i + 1))) := by unfold Hid; rw [turned_skip (packL M) kk X i hbit]; exact HOW.out
          clear hJ hJK hbit
          go_wp2_with fail
          go_roundw
          all_goals first
            | exact ⟨i + 1, by omega, by simp, HS1, HBQ⟩
            | (simp [intOf]; omega)
      · have fJ : ¬ (J : Int) < (K8 : Int) := by omega
        have hts : turned (packL M) kk X i = F := by
          have h9 := turned_stop (packL M) kk X i (by rw [HKL.out, HK8.out.1]; omega) (32 - i)
          rw [show i + (32 - i) = 32 by omega, HFD.out] at h9
          exact h9.symm
        have HTS : Hid (turned (packL M) kk X i = F) := hts
        clear hts
        have HRF : Hid (Reads wr (some ⟨g2, 0, none⟩) K F) := (by have h9 := HOW.out.all (turned_byt (pack_byt M hok) kk X i); rw [HTS.out] at h9; exact h9)
        have HGW : Hid (g2 < wr.heap.size) := HOW.out.lt.2
        go_wp2_with (first
          | (go_at_call 15; refine (large_fn g2 0 K c2 F wr HRF.out (by omega)).mono ?_; rintro e t5 ⟨q5, rfl, ht5⟩; rw [HLG.out, ht5]
             have HFA : Hid (Reads (wr.drewN q5) (some ⟨g2, 0, none⟩) K F) := HRF.out.drewN q5
             have HRB : Hid (Reads (wr.drewN q5) (some ⟨g1, 0, none⟩) K (packL M)) := HRP.out.drewN q5
             have HTA : Hid (Tab (wr.drewN q5)) := HTW.out.drewN q5
             have HBC : Hid (Below w.heap.size w (wr.drewN q5)) := ⟨HBW.out.os, HBW.out.tape, HBW.out.output, HBW.out.size, HBW.out.block⟩
             clear ht5)
          | (go_at_call 16; refine (same_any _ _ _ _ _ _ F (packL M) _ HFA.out HRB.out).mono ?_; rintro e t6 ⟨rfl, hu6⟩; rw [hu6, HDE.out]; clear hu6)
          | (go_at_call 13; refine (read_n g2 0 K c2 F _ HFL.out HFA.out (by omega) hc24.1 hc24.2 HGW.out HTA.out).mono ?_; rintro e t7 ⟨res, b7⟩
             obtain ⟨y, hy0, _, rfl⟩ := res_err res HNR.out
             have hy1 : (y == 0) = false := (by rw [beq_eq_false_iff_ne]; exact hy0)
             have hy2 : ¬ y = 0 := hy0
             have HBE : Hid (Below w.heap.size w (t7.alloc (.cells #[.int .i64 0, .int .i64 0, .int .i64 0, .slice none 0 0, .slice none 0 0] 27))) := below_trans HBC.out (below_trans b7 (below_alloc _ _))
             clear res b7)
          | (go_at_call 12; refine (no_any _ _).mono ?_; rintro e t8 ⟨rfl, ht8⟩; rw [ht8]; clear ht8))
        go_ret
        exact ⟨by simp [hy2], HBE.out⟩

theorem burstsWalk (b p s : Int) (a a' : Option Addr) (n c m c' : Nat) (zs : List Int) (bs : List Bool) (k x : Int) (w : World) (hn : n ≤ 140737488351232) (hm : m ≤ 140737488351232) (hr : Reads w a n zs) (hrb : ReadsB w a' m bs) (hnc : n ≤ c) (hc : c ≤ 9223372036854775807) (hk : -9223372036854775808 ≤ k ∧ k ≤ 9223372036854775807) (hx : 0 ≤ x ∧ x ≤ 4294967295) (ht : Tab w) :
    Calls Tryd.prog 5 #[.agg #[.int .i64 b, .int .i64 p, .int .i64 s, .slice a n c, .slice a' m c'], .int .i64 k, .int .u32 x] w fun e w' => e = .returned (.bool true) ∧ Below w.heap.size w w' := by
  by_cases hE : chkE b p s n m = 0
  · by_cases hkN : k < 0 ∨ 8 * ((packL (⟨b.toNat, p.toNat, s.toNat, zs, bs⟩ : Img)).length : Int) ≤ k
    · exact bursts_out b p s a a' n c m c' zs bs k x w hn hm hr hrb hnc hc hk hx ht hE hkN
    · have hk0 : 0 ≤ k := by omega
      have hkK : k < 8 * ((packL (⟨b.toNat, p.toNat, s.toNat, zs, bs⟩ : Img)).length : Int) := by omega
      cases hLG : lrg (turned (packL (⟨b.toNat, p.toNat, s.toNat, zs, bs⟩ : Img)) k.toNat x.toNat 32) with
      | true => exact bursts_lg b p s a a' n c m c' zs bs k x w hn hm hr hrb hnc hc hk hx ht hE hk0 hkK hLG
      | false =>
        by_cases hFE : turned (packL (⟨b.toNat, p.toNat, s.toNat, zs, bs⟩ : Img)) k.toNat x.toNat 32 = packL (⟨b.toNat, p.toNat, s.toNat, zs, bs⟩ : Img)
        · exact bursts_eq b p s a a' n c m c' zs bs k x w hn hm hr hrb hnc hc hk hx ht hE hk0 hkK hLG hFE
        · exact bursts_rd b p s a a' n c m c' zs bs k x w hn hm hr hrb hnc hc hk hx ht hE hk0 hkK hLG hFE
  · exact bursts_bad b p s a a' n c m c' zs bs k x w hn hm hr hrb hnc hc hk hx ht hE

end Go.Proofs.YtnopljjngbgpdabDoor
