/-
  SEAT YtnopljjngbgpdabDoor: Sn, of several texts.
-/
import Derived.Test.YtnopljjngbgpdabDoorSm
namespace Go.Proofs.YtnopljjngbgpdabDoor
open Go.RowKit
set_option linter.unusedVariables false

/-- A row bent at one place. -/
def bentL (r : List Int) (kk : Nat) (mid : List Int) : List Int := r.take kk ++ mid ++ (r.drop (kk + 1)).take (r.length - 4 - (kk + 1))
set_option maxHeartbeats 4000000 in
set_option maxRecDepth 100000 in
theorem canon_lg2 (b p s : Int) (a a' : Option Addr) (n c m c' : Nat) (zs : List Int) (bs : List Bool) (k x : Int) (w : World) (hn : n ≤ 140737488351232) (hm : m ≤ 140737488351232) (hr : Reads w a n zs) (hrb : ReadsB w a' m bs) (hnc : n ≤ c) (hc : c ≤ 9223372036854775807) (hk : -9223372036854775808 ≤ k ∧ k ≤ 9223372036854775807) (hx : 0 ≤ x ∧ x ≤ 255) (ht : Tab w) (hE : chkE b p s n m = 0) (hk0 : 0 ≤ k) (hkK : k < ((packL (⟨b.toNat, p.toNat, s.toNat, zs, bs⟩ : Img)).length : Int) - 4) (hLG : lrg (bentL (packL (⟨b.toNat, p.toNat, s.toNat, zs, bs⟩ : Img)) k.toNat []) = true) :
    Calls Tryd.prog 6 #[.agg #[.int .i64 b, .int .i64 p, .int .i64 s, .slice a n c, .slice a' m c'], .int .i64 k, .int .u8 x, .int .i64 2] w fun e w' => e = .returned (.bool true) ∧ Below w.heap.size w w' := by
  obtain ⟨M, hok, hMb, hMp, hMs, hMc, hMm, hMn⟩ := img_of hE hr.1 hrb.1 hr.2.1
  have HPOS : Hid (0 < n) := by
    unfold Hid
    obtain ⟨q1, q2, q3, q4, q5, q6, q7⟩ := fits_nat hok.1
    have h9 := hok.2.1
    rw [hMc, hr.1] at h9
    rw [h9]
    exact Nat.mul_pos (Nat.mul_pos (by omega) (by omega)) (by unfold Img.S; omega)
  obtain ⟨K, hK⟩ : ∃ K, (packL M).length = K := ⟨_, rfl⟩
  have HKL : Hid ((packL M).length = K) := hK
  have hMM : (⟨b.toNat, p.toNat, s.toNat, zs, bs⟩ : Img) = M := by obtain ⟨y1, y2, y3, y4, y5⟩ := M; simp only at hMb hMp hMs hMc hMm; subst hMc hMm; simp [hMb, hMp, hMs]
  rw [hMM, hK] at hkK
  rw [hMM] at hLG
  clear hMM
  have hK9 := pack_len M hok
  rw [hK] at hK9
  have hK0 : 0 < K := by
    rw [← hK, packL, sealL, List.length_append]
    have h5 : (le4 (sumL (nats (bodyL M)))).length = 4 := rfl
    omega
  have hK14 : 14 ≤ K := by
    have hb := packS_bound M.C (M.C + M.S) (chunks (M.C + M.S) (M.b * M.p) M.cs) ⟨headL M.b M.p M.s M.ms, 0, 0⟩ [] (chunks_len _ _ _ hok.2.1) (by omega) (by rw [head_len]; omega) (by simp)
    have h2 : (headL M.b M.p M.s M.ms).length ≤ (bodyL M).length := hb.1
    rw [head_len] at h2
    rw [← hK, packL, sealL, List.length_append]
    have h5 : (le4 (sumL (nats (bodyL M)))).length = 4 := rfl
    omega
  have HMs : Hid (b = (M.b : Int) ∧ p = (M.p : Int) ∧ s = (M.s : Int) ∧ M.cs = zs ∧ M.ms = bs ∧ M.b = m) := ⟨hMb, hMp, hMs, hMc, hMm, hMn⟩
  clear hE hK hMb hMp hMs hMc hMm hMn
  have hn2 : n ≤ 140737488355000 := by omega
  have hm2 : m ≤ 140737488355000 := by omega
  have HT1 : Hid (Tab (w.alloc (.cells #[.int .i64 b, .int .i64 p, .int .i64 s, .slice a n c, .slice a' m c'] 27))) := ht.below (below_alloc w _)
  have HR1 : Hid (Reads (w.alloc (.cells #[.int .i64 b, .int .i64 p, .int .i64 s, .slice a n c, .slice a' m c'] 27)) a n zs) := hr.below (below_alloc w _)
  have HM1 : Hid (ReadsB (w.alloc (.cells #[.int .i64 b, .int .i64 p, .int .i64 s, .slice a n c, .slice a' m c'] 27)) a' m bs) := hrb.below (below_alloc w _)
  have HX1 : Hid ((w.alloc (.cells #[.int .i64 b, .int .i64 p, .int .i64 s, .slice a n c, .slice a' m c'] 27)).heap[w.heap.size]? = some (.cells #[.int .i64 b, .int .i64 p, .int .i64 s, .slice a n c, .slice a' m c'] 27 (0, 0))) := heap_alloc_new _ _
  have HB1 : Hid (Below w.heap.size w (w.alloc (.cells #[.int .i64 b, .int .i64 p, .int .i64 s, .slice a n c, .slice a' m c'] 27))) := below_alloc w _
  obtain ⟨e0, e1, e2, e3, e4⟩ := cells5 HX1.out
  clear hr hrb ht
  obtain ⟨kk, rfl⟩ := Int.eq_ofNat_of_zero_le hk0
  have T3 : Hid True := trivial
  have fK : ¬ (K : Int) < 4 := by omega
  have f1 : ¬ (kk : Int) < 0 := by omega
  obtain ⟨K4, hK4⟩ : ∃ K4, K4 = K - 4 := ⟨_, rfl⟩
  obtain ⟨k1, hk1⟩ : ∃ k1, k1 = kk + 1 := ⟨_, rfl⟩
  obtain ⟨R1, hR1⟩ : ∃ R1, K4 - k1 = R1 := ⟨_, rfl⟩
  have e4 : (K : Int) - 4 = (K4 : Int) := by omega
  have f2 : ¬ (K4 : Int) ≤ (kk : Int) := by omega
  have f4 : ¬ (K : Int) - 4 ≤ (kk : Int) := by omega
  have ek : (kk : Int) + 1 = (k1 : Int) := by omega
  have f3 : (k1 : Int) ≤ (K4 : Int) := by omega
  have hk1s : k1 ≤ K4 ∧ K4 + 4 = K := by omega
  have hkk : kk < K4 := by omega
  simp only [Int.toNat_natCast] at hLG
  obtain ⟨F, hF⟩ : ∃ F, bentL (packL M) kk [] = F := ⟨_, rfl⟩
  have HLG : Hid (lrg F = true) := by unfold Hid; rw [← hF]; exact hLG
  have HFE : Hid ((packL M).take kk ++ ((packL M).drop k1).take R1 = F) := by unfold Hid; rw [← hF, bentL, HKL.out, ← hR1, hK4, hk1]; try simp
  obtain ⟨N, hN⟩ : ∃ N, kk + R1 = N := ⟨_, rfl⟩
  have HRR : Hid (K - 4 - k1 = R1) := by unfold Hid; omega
  have HNN : Hid (kk + (K - 4 - k1) = N) := by unfold Hid; rw [HRR.out]; exact hN
  have HFB : Hid (Byt F) := by
    unfold Hid
    rw [← HFE.out]
    intro y hy
    simp only [List.mem_append] at hy
    have q1 : ∀ y, y ∈ (packL M).take kk → 0 ≤ y ∧ y ≤ 255 := fun y hy => pack_byt M hok y (List.mem_of_mem_take hy)
    have q2 : ∀ y, y ∈ ((packL M).drop k1).take R1 → 0 ≤ y ∧ y ≤ 255 := fun y hy => pack_byt M hok y (List.mem_of_mem_drop (List.mem_of_mem_take hy))
    rcases hy with hy | hy
    · exact q1 y hy
    · exact q2 y hy
  have hNb : N ≤ K + 2 := by omega
  have hNp : 0 < N + 4 := by omega
  have HNP : Hid (0 < N) := by unfold Hid; omega
  have HK1 : Hid (k1 = kk + 1 ∧ K4 = K - 4 ∧ k1 ≤ K4 ∧ K4 + 4 = K ∧ K4 - k1 = R1) := ⟨hk1, hK4, hk1s.1, hk1s.2, hR1⟩
  have hb5 : k1 ≤ K := by omega
  have hb6 : K4 ≤ K := by omega
  have hb7 : kk ≤ K := by omega
  have hb8 : 9 ≤ K4 := by omega
  have hb9 : R1 ≤ K - k1 := by omega
  have er : (K4 : Int) - (k1 : Int) = (R1 : Int) := by omega
  have er2 : ((K4 - k1 : Nat) : Int) = (R1 : Int) := by omega
  have er3 : K4 - k1 = R1 := hR1
  clear hLG hF hk0 hkK hk1 hK4 hk1s hR1 hN
  go_enter Tryd.func6, Tryd.ntmps6
  go_wp2_with (first
    | (go_at_call 9; refine (heads_any _ HT1.out).mono ?_; rintro e t1 ⟨rfl, b1⟩
       have HX2 : Hid (t1.heap[w.heap.size]? = some (.cells #[.int .i64 b, .int .i64 p, .int .i64 s, .slice a n c, .slice a' m c'] 27 (0, 0))) := (b1.block _ (Array.getElem?_eq_some_iff.1 HX1.out).1).trans HX1.out
       have HB2 : Hid (Below w.heap.size w t1) := below_trans HB1.out b1
       have HT2 : Hid (Tab t1) := HT1.out.below b1
       have HR2 : Hid (Reads t1 a n zs) := HR1.out.below b1
       have HM2 : Hid (ReadsB t1 a' m bs) := HM1.out.below b1
       clear b1 e0 e1 e2 e3 e4
       obtain ⟨e0, e1, e2, e3, e4⟩ := cells5 HX2.out)
    | (go_at_call 12; refine (no_any _ _).mono ?_; rintro e t9 ⟨rfl, ht9⟩; rw [ht9]; clear ht9)
    | (go_at_call 11; have zz := T3; clear T3 zz; refine (packs_n hok HMs.out.1 HMs.out.2.1 HMs.out.2.2.1 HMs.out.2.2.2.1 HMs.out.2.2.2.2.1 HMs.out.2.2.2.2.2 _ HR2.out HM2.out HPOS.out hnc hc HT2.out).mono ?_; rintro e t3 ⟨g1, p1, rfl, o1, b3⟩; rw [HKL.out] at o1 ⊢
       have HX4 : Hid (t3.heap[w.heap.size]? = some (.cells #[.int .i64 b, .int .i64 p, .int .i64 s, .slice a n c, .slice a' m c'] 27 (0, 0))) := (b3.block _ (Array.getElem?_eq_some_iff.1 HX2.out).1).trans HX2.out
       have HB4 : Hid (Below w.heap.size w t3) := below_trans HB2.out b3
       have HT4 : Hid (Tab t3) := HT2.out.below b3
       have HR4 : Hid (Reads t3 a n zs) := HR2.out.below b3
       have HM4 : Hid (ReadsB t3 a' m bs) := HM2.out.below b3
       have HO4 : Hid (Reads t3 (some ⟨g1, 0, none⟩) K (packL M)) := o1.all (pack_byt M hok)
       have hp1 := o1.room_le hK0
       have hp2 : K ≤ p1 ∧ p1 ≤ 9223372036854775807 := by simp only [maxLen] at hp1; omega
       have HG4 : Hid (g1 < t3.heap.size) := o1.lt.2
       clear o1 hp1
       clear b3 e0 e1 e2 e3 e4
       have hq : (if p1 = k1 then some (⟨g1, 0, none⟩ : Addr) else some ⟨g1, k1, none⟩) = some ⟨g1, k1, none⟩ := by rw [if_neg (by have := HK1.out; omega)]
       have hp5 : (kk : Int) ≤ (p1 : Int) := by omega
       have hp6 : kk ≤ p1 := by omega
       have hp7 : (K4 : Int) ≤ (p1 : Int) := by omega
       have hp8 : K4 ≤ p1 := by omega
       have HRX : Hid (Reads t3 (some ⟨g1, k1, none⟩) R1 (((packL M).drop k1).take R1)) := by
         have h9 := (HO4.out.drop k1 hb5).front R1 hb9
         rw [Nat.zero_add] at h9
         exact h9
       have HRY : Hid (Reads t3 (some ⟨g1, k1, none⟩) (K - 4 - k1) (((packL M).drop k1).take R1)) := (by unfold Hid; rw [HRR.out]; exact HRX.out)
       have TA : Hid True := trivial)
    | (at_builtin; have zz := TA; clear TA zz; refine wpList_append_reads rfl (.tmp 38) (.tmp 41) rfl t3.heap.size (.slice (some ⟨t3.heap.size, 0, none⟩) 0 0) 0 [] rfl (own_empty' t3 t3.heap.size rfl) (some ⟨g1, 0, none⟩) kk p1 ((packL M).take kk) rfl ((HO4.out.front kk (by omega)).below (below_alloc _ _)) (by omega) (by simp) ?_; intro v1 w1 own1 grow1; simp only [Nat.zero_add, List.nil_append] at own1
       have HB6 : Hid (Below t3.heap.size t3 w1) := (below_alloc t3 _).grown grow1 (by simp) (fun q hq => ((own_empty' t3 t3.heap.size rfl).lt q hq).1)
       have HO6 : Hid (w1.ownsRow t3.heap.size 5 1 v1 kk (((packL M).take kk).map (Value.int .u8))) := own1
       have TB : Hid True := trivial
       clear own1 grow1)
    | (at_builtin; have zz := TB; clear TB zz; refine wpList_append_reads rfl (.tmp 58) (.tmp 65) rfl t3.heap.size v1 (kk) ((packL M).take kk) rfl HO6.out (some ⟨g1, k1, none⟩) (K - 4 - k1) (p1 - k1) (((packL M).drop k1).take R1) rfl (HRY.out.below HB6.out) (by omega) HB6.out.size ?_; intro v4 w4 own4 grow4; rw [HNN.out] at own4; obtain ⟨g4, c4, rfl, hc41, hc42, hg41, hg42⟩ := own_shape own4 HNP.out
       have HB9 : Hid (Below t3.heap.size t3 w4) := HB6.out.grown grow4 HB6.out.size (fun q hq => (HO6.out.lt q hq).1)
       have HF9 : Hid (Reads w4 (some ⟨g4, 0, none⟩) N F) := by have h9 := Own.all own4 (by rw [HFE.out]; exact HFB.out); rw [HFE.out] at h9; exact h9
       have HT9 : Hid (Tab w4) := HT4.out.below HB9.out
       have HBB : Hid (Below w.heap.size w w4) := below_trans HB4.out HB9.out
       clear own4 grow4 hc41 hc42 hg41 hg42)
    | (go_at_call 15; refine (large_fn g4 0 _ _ F _ HF9.out (by omega)).mono ?_; rintro e t5 ⟨q5, rfl, ht5⟩; rw [HLG.out, ht5]
       have HFA : Hid (Reads (w4.drewN q5) (some ⟨g4, 0, none⟩) N F) := HF9.out.drewN q5
       have HTA : Hid (Tab (w4.drewN q5)) := HT9.out.drewN q5
       have HBC : Hid (Below w.heap.size w (w4.drewN q5)) := ⟨HBB.out.os, HBB.out.tape, HBB.out.output, HBB.out.size, HBB.out.block⟩
       clear ht5))
  go_ret
  exact ⟨rfl, HBC.out⟩

set_option maxHeartbeats 4000000 in
set_option maxRecDepth 100000 in
theorem canon_er2 (b p s : Int) (a a' : Option Addr) (n c m c' : Nat) (zs : List Int) (bs : List Bool) (k x : Int) (w : World) (hn : n ≤ 140737488351232) (hm : m ≤ 140737488351232) (hr : Reads w a n zs) (hrb : ReadsB w a' m bs) (hnc : n ≤ c) (hc : c ≤ 9223372036854775807) (hk : -9223372036854775808 ≤ k ∧ k ≤ 9223372036854775807) (hx : 0 ≤ x ∧ x ≤ 255) (ht : Tab w) (hE : chkE b p s n m = 0) (hk0 : 0 ≤ k) (hkK : k < ((packL (⟨b.toNat, p.toNat, s.toNat, zs, bs⟩ : Img)).length : Int) - 4) (hLG : lrg (bentL (packL (⟨b.toNat, p.toNat, s.toNat, zs, bs⟩ : Img)) k.toNat []) = false) (y : Int) (hRE : readR (sealL (bentL (packL (⟨b.toNat, p.toNat, s.toNat, zs, bs⟩ : Img)) k.toNat [])) = .error y) :
    Calls Tryd.prog 6 #[.agg #[.int .i64 b, .int .i64 p, .int .i64 s, .slice a n c, .slice a' m c'], .int .i64 k, .int .u8 x, .int .i64 2] w fun e w' => e = .returned (.bool true) ∧ Below w.heap.size w w' := by
  obtain ⟨M, hok, hMb, hMp, hMs, hMc, hMm, hMn⟩ := img_of hE hr.1 hrb.1 hr.2.1
  have HPOS : Hid (0 < n) := by
    unfold Hid
    obtain ⟨q1, q2, q3, q4, q5, q6, q7⟩ := fits_nat hok.1
    have h9 := hok.2.1
    rw [hMc, hr.1] at h9
    rw [h9]
    exact Nat.mul_pos (Nat.mul_pos (by omega) (by omega)) (by unfold Img.S; omega)
  obtain ⟨K, hK⟩ : ∃ K, (packL M).length = K := ⟨_, rfl⟩
  have HKL : Hid ((packL M).length = K) := hK
  have hMM : (⟨b.toNat, p.toNat, s.toNat, zs, bs⟩ : Img) = M := by obtain ⟨y1, y2, y3, y4, y5⟩ := M; simp only at hMb hMp hMs hMc hMm; subst hMc hMm; simp [hMb, hMp, hMs]
  rw [hMM, hK] at hkK
  rw [hMM] at hLG
  rw [hMM] at hRE
  clear hMM
  have hK9 := pack_len M hok
  rw [hK] at hK9
  have hK0 : 0 < K := by
    rw [← hK, packL, sealL, List.length_append]
    have h5 : (le4 (sumL (nats (bodyL M)))).length = 4 := rfl
    omega
  have hK14 : 14 ≤ K := by
    have hb := packS_bound M.C (M.C + M.S) (chunks (M.C + M.S) (M.b * M.p) M.cs) ⟨headL M.b M.p M.s M.ms, 0, 0⟩ [] (chunks_len _ _ _ hok.2.1) (by omega) (by rw [head_len]; omega) (by simp)
    have h2 : (headL M.b M.p M.s M.ms).length ≤ (bodyL M).length := hb.1
    rw [head_len] at h2
    rw [← hK, packL, sealL, List.length_append]
    have h5 : (le4 (sumL (nats (bodyL M)))).length = 4 := rfl
    omega
  have HMs : Hid (b = (M.b : Int) ∧ p = (M.p : Int) ∧ s = (M.s : Int) ∧ M.cs = zs ∧ M.ms = bs ∧ M.b = m) := ⟨hMb, hMp, hMs, hMc, hMm, hMn⟩
  clear hE hK hMb hMp hMs hMc hMm hMn
  have hn2 : n ≤ 140737488355000 := by omega
  have hm2 : m ≤ 140737488355000 := by omega
  have HT1 : Hid (Tab (w.alloc (.cells #[.int .i64 b, .int .i64 p, .int .i64 s, .slice a n c, .slice a' m c'] 27))) := ht.below (below_alloc w _)
  have HR1 : Hid (Reads (w.alloc (.cells #[.int .i64 b, .int .i64 p, .int .i64 s, .slice a n c, .slice a' m c'] 27)) a n zs) := hr.below (below_alloc w _)
  have HM1 : Hid (ReadsB (w.alloc (.cells #[.int .i64 b, .int .i64 p, .int .i64 s, .slice a n c, .slice a' m c'] 27)) a' m bs) := hrb.below (below_alloc w _)
  have HX1 : Hid ((w.alloc (.cells #[.int .i64 b, .int .i64 p, .int .i64 s, .slice a n c, .slice a' m c'] 27)).heap[w.heap.size]? = some (.cells #[.int .i64 b, .int .i64 p, .int .i64 s, .slice a n c, .slice a' m c'] 27 (0, 0))) := heap_alloc_new _ _
  have HB1 : Hid (Below w.heap.size w (w.alloc (.cells #[.int .i64 b, .int .i64 p, .int .i64 s, .slice a n c, .slice a' m c'] 27))) := below_alloc w _
  obtain ⟨e0, e1, e2, e3, e4⟩ := cells5 HX1.out
  clear hr hrb ht
  obtain ⟨kk, rfl⟩ := Int.eq_ofNat_of_zero_le hk0
  have T3 : Hid True := trivial
  have fK : ¬ (K : Int) < 4 := by omega
  have f1 : ¬ (kk : Int) < 0 := by omega
  obtain ⟨K4, hK4⟩ : ∃ K4, K4 = K - 4 := ⟨_, rfl⟩
  obtain ⟨k1, hk1⟩ : ∃ k1, k1 = kk + 1 := ⟨_, rfl⟩
  obtain ⟨R1, hR1⟩ : ∃ R1, K4 - k1 = R1 := ⟨_, rfl⟩
  have e4 : (K : Int) - 4 = (K4 : Int) := by omega
  have f2 : ¬ (K4 : Int) ≤ (kk : Int) := by omega
  have f4 : ¬ (K : Int) - 4 ≤ (kk : Int) := by omega
  have ek : (kk : Int) + 1 = (k1 : Int) := by omega
  have f3 : (k1 : Int) ≤ (K4 : Int) := by omega
  have hk1s : k1 ≤ K4 ∧ K4 + 4 = K := by omega
  have hkk : kk < K4 := by omega
  simp only [Int.toNat_natCast] at hLG
  simp only [Int.toNat_natCast] at hRE
  obtain ⟨F, hF⟩ : ∃ F, bentL (packL M) kk [] = F := ⟨_, rfl⟩
  have HLG : Hid (lrg F = false) := by unfold Hid; rw [← hF]; exact hLG
  have HRE : Hid (readR (sealL F) = .error y) := by unfold Hid; rw [← hF]; exact hRE
  clear hRE
  have HFE : Hid ((packL M).take kk ++ ((packL M).drop k1).take R1 = F) := by unfold Hid; rw [← hF, bentL, HKL.out, ← hR1, hK4, hk1]; try simp
  obtain ⟨N, hN⟩ : ∃ N, kk + R1 = N := ⟨_, rfl⟩
  have HRR : Hid (K - 4 - k1 = R1) := by unfold Hid; omega
  have HNN : Hid (kk + (K - 4 - k1) = N) := by unfold Hid; rw [HRR.out]; exact hN
  have HFB : Hid (Byt F) := by
    unfold Hid
    rw [← HFE.out]
    intro y hy
    simp only [List.mem_append] at hy
    have q1 : ∀ y, y ∈ (packL M).take kk → 0 ≤ y ∧ y ≤ 255 := fun y hy => pack_byt M hok y (List.mem_of_mem_take hy)
    have q2 : ∀ y, y ∈ ((packL M).drop k1).take R1 → 0 ≤ y ∧ y ≤ 255 := fun y hy => pack_byt M hok y (List.mem_of_mem_drop (List.mem_of_mem_take hy))
    rcases hy with hy | hy
    · exact q1 y hy
    · exact q2 y hy
  have hNb : N ≤ K + 2 := by omega
  have hNp : 0 < N + 4 := by omega
  have HNP : Hid (0 < N) := by unfold Hid; omega
  obtain ⟨N4, hN4⟩ : ∃ N4, N + 4 = N4 := ⟨_, rfl⟩
  have HN4 : Hid (N + 4 = N4) := hN4
  have hFl : F.length = N := by
    rw [← HFE.out, ← hN]
    simp only [List.length_append, List.length_take, List.length_drop, HKL.out]
    omega
  have HSL : Hid ((sealL F).length = N4) := by unfold Hid; rw [sealL, List.length_append, hFl]; exact hN4
  have HSB : Hid (Byt (sealL F)) := by
    unfold Hid
    intro y hy
    rcases List.mem_append.1 hy with hy | hy
    · exact HFB.out y hy
    · exact le4_byt _ y hy
  have hN40 : 0 < N4 := by omega
  have hN4b : N4 ≤ K + 6 := by omega
  have HK1 : Hid (k1 = kk + 1 ∧ K4 = K - 4 ∧ k1 ≤ K4 ∧ K4 + 4 = K ∧ K4 - k1 = R1) := ⟨hk1, hK4, hk1s.1, hk1s.2, hR1⟩
  have hb5 : k1 ≤ K := by omega
  have hb6 : K4 ≤ K := by omega
  have hb7 : kk ≤ K := by omega
  have hb8 : 9 ≤ K4 := by omega
  have hb9 : R1 ≤ K - k1 := by omega
  have er : (K4 : Int) - (k1 : Int) = (R1 : Int) := by omega
  have er2 : ((K4 - k1 : Nat) : Int) = (R1 : Int) := by omega
  have er3 : K4 - k1 = R1 := hR1
  clear hLG hF hk0 hkK hk1 hK4 hk1s hR1 hN hN4 hFl
  go_enter Tryd.func6, Tryd.ntmps6
  go_wp2_with (first
    | (go_at_call 9; refine (heads_any _ HT1.out).mono ?_; rintro e t1 ⟨rfl, b1⟩
       have HX2 : Hid (t1.heap[w.heap.size]? = some (.cells #[.int .i64 b, .int .i64 p, .int .i64 s, .slice a n c, .slice a' m c'] 27 (0, 0))) := (b1.block _ (Array.getElem?_eq_some_iff.1 HX1.out).1).trans HX1.out
       have HB2 : Hid (Below w.heap.size w t1) := below_trans HB1.out b1
       have HT2 : Hid (Tab t1) := HT1.out.below b1
       have HR2 : Hid (Reads t1 a n zs) := HR1.out.below b1
       have HM2 : Hid (ReadsB t1 a' m bs) := HM1.out.below b1
       clear b1 e0 e1 e2 e3 e4
       obtain ⟨e0, e1, e2, e3, e4⟩ := cells5 HX2.out)
    | (go_at_call 12; refine (no_any _ _).mono ?_; rintro e t9 ⟨rfl, ht9⟩; rw [ht9]; clear ht9)
    | (go_at_call 11; have zz := T3; clear T3 zz; refine (packs_n hok HMs.out.1 HMs.out.2.1 HMs.out.2.2.1 HMs.out.2.2.2.1 HMs.out.2.2.2.2.1 HMs.out.2.2.2.2.2 _ HR2.out HM2.out HPOS.out hnc hc HT2.out).mono ?_; rintro e t3 ⟨g1, p1, rfl, o1, b3⟩; rw [HKL.out] at o1 ⊢
       have HX4 : Hid (t3.heap[w.heap.size]? = some (.cells #[.int .i64 b, .int .i64 p, .int .i64 s, .slice a n c, .slice a' m c'] 27 (0, 0))) := (b3.block _ (Array.getElem?_eq_some_iff.1 HX2.out).1).trans HX2.out
       have HB4 : Hid (Below w.heap.size w t3) := below_trans HB2.out b3
       have HT4 : Hid (Tab t3) := HT2.out.below b3
       have HR4 : Hid (Reads t3 a n zs) := HR2.out.below b3
       have HM4 : Hid (ReadsB t3 a' m bs) := HM2.out.below b3
       have HO4 : Hid (Reads t3 (some ⟨g1, 0, none⟩) K (packL M)) := o1.all (pack_byt M hok)
       have hp1 := o1.room_le hK0
       have hp2 : K ≤ p1 ∧ p1 ≤ 9223372036854775807 := by simp only [maxLen] at hp1; omega
       have HG4 : Hid (g1 < t3.heap.size) := o1.lt.2
       clear o1 hp1
       clear b3 e0 e1 e2 e3 e4
       have hq : (if p1 = k1 then some (⟨g1, 0, none⟩ : Addr) else some ⟨g1, k1, none⟩) = some ⟨g1, k1, none⟩ := by rw [if_neg (by have := HK1.out; omega)]
       have hp5 : (kk : Int) ≤ (p1 : Int) := by omega
       have hp6 : kk ≤ p1 := by omega
       have hp7 : (K4 : Int) ≤ (p1 : Int) := by omega
       have hp8 : K4 ≤ p1 := by omega
       have HRX : Hid (Reads t3 (some ⟨g1, k1, none⟩) R1 (((packL M).drop k1).take R1)) := by
         have h9 := (HO4.out.drop k1 hb5).front R1 hb9
         rw [Nat.zero_add] at h9
         exact h9
       have HRY : Hid (Reads t3 (some ⟨g1, k1, none⟩) (K - 4 - k1) (((packL M).drop k1).take R1)) := (by unfold Hid; rw [HRR.out]; exact HRX.out)
       have TA : Hid True := trivial)
    | (at_builtin; have zz := TA; clear TA zz; refine wpList_append_reads rfl (.tmp 38) (.tmp 41) rfl t3.heap.size (.slice (some ⟨t3.heap.size, 0, none⟩) 0 0) 0 [] rfl (own_empty' t3 t3.heap.size rfl) (some ⟨g1, 0, none⟩) kk p1 ((packL M).take kk) rfl ((HO4.out.front kk (by omega)).below (below_alloc _ _)) (by omega) (by simp) ?_; intro v1 w1 own1 grow1; simp only [Nat.zero_add, List.nil_append] at own1
       have HB6 : Hid (Below t3.heap.size t3 w1) := (below_alloc t3 _).grown grow1 (by simp) (fun q hq => ((own_empty' t3 t3.heap.size rfl).lt q hq).1)
       have HO6 : Hid (w1.ownsRow t3.heap.size 5 1 v1 kk (((packL M).take kk).map (Value.int .u8))) := own1
       have TB : Hid True := trivial
       clear own1 grow1)
    | (at_builtin; have zz := TB; clear TB zz; refine wpList_append_reads rfl (.tmp 58) (.tmp 65) rfl t3.heap.size v1 (kk) ((packL M).take kk) rfl HO6.out (some ⟨g1, k1, none⟩) (K - 4 - k1) (p1 - k1) (((packL M).drop k1).take R1) rfl (HRY.out.below HB6.out) (by omega) HB6.out.size ?_; intro v4 w4 own4 grow4; rw [HNN.out] at own4; obtain ⟨g4, c4, rfl, hc41, hc42, hg41, hg42⟩ := own_shape own4 HNP.out
       have HB9 : Hid (Below t3.heap.size t3 w4) := HB6.out.grown grow4 HB6.out.size (fun q hq => (HO6.out.lt q hq).1)
       have HF9 : Hid (Reads w4 (some ⟨g4, 0, none⟩) N F) := by have h9 := Own.all own4 (by rw [HFE.out]; exact HFB.out); rw [HFE.out] at h9; exact h9
       have HT9 : Hid (Tab w4) := HT4.out.below HB9.out
       have HBB : Hid (Below w.heap.size w w4) := below_trans HB4.out HB9.out
       clear own4 grow4 hc41 hc42 hg41 hg42)
    | (go_at_call 15; refine (large_fn g4 0 _ _ F _ HF9.out (by omega)).mono ?_; rintro e t5 ⟨q5, rfl, ht5⟩; rw [HLG.out, ht5]
       have HFA : Hid (Reads (w4.drewN q5) (some ⟨g4, 0, none⟩) N F) := HF9.out.drewN q5
       have HTA : Hid (Tab (w4.drewN q5)) := HT9.out.drewN q5
       have HBC : Hid (Below w.heap.size w (w4.drewN q5)) := ⟨HBB.out.os, HBB.out.tape, HBB.out.output, HBB.out.size, HBB.out.block⟩
       clear ht5)
    | (go_at_call 17; refine (sealed_any (some ⟨g4, 0, none⟩) N _ F _ HFA.out (by omega) HTA.out).mono ?_; rintro e t6 ⟨g6, c6, rfl, o6, b6⟩; rw [HN4.out] at o6 ⊢
       have HO5 : Hid (Reads t6 (some ⟨g6, 0, none⟩) N4 (sealL F)) := o6.all HSB.out
       have hp9 := o6.room_le (by omega)
       have hpA : N4 ≤ c6 ∧ c6 ≤ 9223372036854775807 := by simp only [maxLen] at hp9; omega
       have HG6 : Hid (g6 < t6.heap.size) := o6.lt.2
       have HTC : Hid (Tab t6) := HTA.out.below b6
       have HBD : Hid (Below w.heap.size w t6) := below_trans HBC.out b6
       clear o6 hp9 b6)
    | (go_at_call 13; refine (read_n g6 0 N4 c6 (sealL F) _ HSL.out HO5.out (by omega) hpA.1 hpA.2 HG6.out HTC.out).mono ?_; rintro e t7 ⟨res, b7⟩
       rw [HRE.out] at res
       obtain ⟨rfl, hy0⟩ := res
       have hy1 : (y == 0) = false := (by rw [beq_eq_false_iff_ne]; exact hy0)
       have hy2 : ¬ y = 0 := hy0
       have HBE : Hid (Below w.heap.size w (t7.alloc (.cells #[.int .i64 0, .int .i64 0, .int .i64 0, .slice none 0 0, .slice none 0 0] 27))) := below_trans HBD.out (below_trans b7 (below_alloc _ _))
       have HXE : Hid ((t7.alloc (.cells #[.int .i64 0, .int .i64 0, .int .i64 0, .slice none 0 0, .slice none 0 0] 27)).heap[t7.heap.size]? = some (.cells #[.int .i64 0, .int .i64 0, .int .i64 0, .slice none 0 0, .slice none 0 0] 27 (0, 0))) := heap_alloc_new _ _
       obtain ⟨i0, i1, i2, i3, i4⟩ := cells5 HXE.out
       clear b7))
  go_ret
  exact ⟨rfl, HBE.out⟩

set_option maxHeartbeats 4000000 in
set_option maxRecDepth 100000 in
theorem canon_ok2 (b p s : Int) (a a' : Option Addr) (n c m c' : Nat) (zs : List Int) (bs : List Bool) (k x : Int) (w : World) (hn : n ≤ 140737488351232) (hm : m ≤ 140737488351232) (hr : Reads w a n zs) (hrb : ReadsB w a' m bs) (hnc : n ≤ c) (hc : c ≤ 9223372036854775807) (hk : -9223372036854775808 ≤ k ∧ k ≤ 9223372036854775807) (hx : 0 ≤ x ∧ x ≤ 255) (ht : Tab w) (hE : chkE b p s n m = 0) (hk0 : 0 ≤ k) (hkK : k < ((packL (⟨b.toNat, p.toNat, s.toNat, zs, bs⟩ : Img)).length : Int) - 4) (hLG : lrg (bentL (packL (⟨b.toNat, p.toNat, s.toNat, zs, bs⟩ : Img)) k.toNat []) = false) (Y : Img) (hRE : readR (sealL (bentL (packL (⟨b.toNat, p.toNat, s.toNat, zs, bs⟩ : Img)) k.toNat [])) = .ok Y) :
    Calls Tryd.prog 6 #[.agg #[.int .i64 b, .int .i64 p, .int .i64 s, .slice a n c, .slice a' m c'], .int .i64 k, .int .u8 x, .int .i64 2] w fun e w' => e = .returned (.bool true) ∧ Below w.heap.size w w' := by
  obtain ⟨M, hok, hMb, hMp, hMs, hMc, hMm, hMn⟩ := img_of hE hr.1 hrb.1 hr.2.1
  have HPOS : Hid (0 < n) := by
    unfold Hid
    obtain ⟨q1, q2, q3, q4, q5, q6, q7⟩ := fits_nat hok.1
    have h9 := hok.2.1
    rw [hMc, hr.1] at h9
    rw [h9]
    exact Nat.mul_pos (Nat.mul_pos (by omega) (by omega)) (by unfold Img.S; omega)
  obtain ⟨K, hK⟩ : ∃ K, (packL M).length = K := ⟨_, rfl⟩
  have HKL : Hid ((packL M).length = K) := hK
  have hMM : (⟨b.toNat, p.toNat, s.toNat, zs, bs⟩ : Img) = M := by obtain ⟨y1, y2, y3, y4, y5⟩ := M; simp only at hMb hMp hMs hMc hMm; subst hMc hMm; simp [hMb, hMp, hMs]
  rw [hMM, hK] at hkK
  rw [hMM] at hLG
  rw [hMM] at hRE
  clear hMM
  have hK9 := pack_len M hok
  rw [hK] at hK9
  have hK0 : 0 < K := by
    rw [← hK, packL, sealL, List.length_append]
    have h5 : (le4 (sumL (nats (bodyL M)))).length = 4 := rfl
    omega
  have hK14 : 14 ≤ K := by
    have hb := packS_bound M.C (M.C + M.S) (chunks (M.C + M.S) (M.b * M.p) M.cs) ⟨headL M.b M.p M.s M.ms, 0, 0⟩ [] (chunks_len _ _ _ hok.2.1) (by omega) (by rw [head_len]; omega) (by simp)
    have h2 : (headL M.b M.p M.s M.ms).length ≤ (bodyL M).length := hb.1
    rw [head_len] at h2
    rw [← hK, packL, sealL, List.length_append]
    have h5 : (le4 (sumL (nats (bodyL M)))).length = 4 := rfl
    omega
  have HMs : Hid (b = (M.b : Int) ∧ p = (M.p : Int) ∧ s = (M.s : Int) ∧ M.cs = zs ∧ M.ms = bs ∧ M.b = m) := ⟨hMb, hMp, hMs, hMc, hMm, hMn⟩
  clear hE hK hMb hMp hMs hMc hMm hMn
  have hn2 : n ≤ 140737488355000 := by omega
  have hm2 : m ≤ 140737488355000 := by omega
  have HT1 : Hid (Tab (w.alloc (.cells #[.int .i64 b, .int .i64 p, .int .i64 s, .slice a n c, .slice a' m c'] 27))) := ht.below (below_alloc w _)
  have HR1 : Hid (Reads (w.alloc (.cells #[.int .i64 b, .int .i64 p, .int .i64 s, .slice a n c, .slice a' m c'] 27)) a n zs) := hr.below (below_alloc w _)
  have HM1 : Hid (ReadsB (w.alloc (.cells #[.int .i64 b, .int .i64 p, .int .i64 s, .slice a n c, .slice a' m c'] 27)) a' m bs) := hrb.below (below_alloc w _)
  have HX1 : Hid ((w.alloc (.cells #[.int .i64 b, .int .i64 p, .int .i64 s, .slice a n c, .slice a' m c'] 27)).heap[w.heap.size]? = some (.cells #[.int .i64 b, .int .i64 p, .int .i64 s, .slice a n c, .slice a' m c'] 27 (0, 0))) := heap_alloc_new _ _
  have HB1 : Hid (Below w.heap.size w (w.alloc (.cells #[.int .i64 b, .int .i64 p, .int .i64 s, .slice a n c, .slice a' m c'] 27))) := below_alloc w _
  obtain ⟨e0, e1, e2, e3, e4⟩ := cells5 HX1.out
  clear hr hrb ht
  obtain ⟨kk, rfl⟩ := Int.eq_ofNat_of_zero_le hk0
  have T3 : Hid True := trivial
  have fK : ¬ (K : Int) < 4 := by omega
  have f1 : ¬ (kk : Int) < 0 := by omega
  obtain ⟨K4, hK4⟩ : ∃ K4, K4 = K - 4 := ⟨_, rfl⟩
  obtain ⟨k1, hk1⟩ : ∃ k1, k1 = kk + 1 := ⟨_, rfl⟩
  obtain ⟨R1, hR1⟩ : ∃ R1, K4 - k1 = R1 := ⟨_, rfl⟩
  have e4 : (K : Int) - 4 = (K4 : Int) := by omega
  have f2 : ¬ (K4 : Int) ≤ (kk : Int) := by omega
  have f4 : ¬ (K : Int) - 4 ≤ (kk : Int) := by omega
  have ek : (kk : Int) + 1 = (k1 : Int) := by omega
  have f3 : (k1 : Int) ≤ (K4 : Int) := by omega
  have hk1s : k1 ≤ K4 ∧ K4 + 4 = K := by omega
  have hkk : kk < K4 := by omega
  simp only [Int.toNat_natCast] at hLG
  simp only [Int.toNat_natCast] at hRE
  obtain ⟨F, hF⟩ : ∃ F, bentL (packL M) kk [] = F := ⟨_, rfl⟩
  have HLG : Hid (lrg F = false) := by unfold Hid; rw [← hF]; exact hLG
  have HRE : Hid (readR (sealL F) = .ok Y) := by unfold Hid; rw [← hF]; exact hRE
  clear hRE
  have HFE : Hid ((packL M).take kk ++ ((packL M).drop k1).take R1 = F) := by unfold Hid; rw [← hF, bentL, HKL.out, ← hR1, hK4, hk1]; try simp
  obtain ⟨N, hN⟩ : ∃ N, kk + R1 = N := ⟨_, rfl⟩
  have HRR : Hid (K - 4 - k1 = R1) := by unfold Hid; omega
  have HNN : Hid (kk + (K - 4 - k1) = N) := by unfold Hid; rw [HRR.out]; exact hN
  have HFB : Hid (Byt F) := by
    unfold Hid
    rw [← HFE.out]
    intro y hy
    simp only [List.mem_append] at hy
    have q1 : ∀ y, y ∈ (packL M).take kk → 0 ≤ y ∧ y ≤ 255 := fun y hy => pack_byt M hok y (List.mem_of_mem_take hy)
    have q2 : ∀ y, y ∈ ((packL M).drop k1).take R1 → 0 ≤ y ∧ y ≤ 255 := fun y hy => pack_byt M hok y (List.mem_of_mem_drop (List.mem_of_mem_take hy))
    rcases hy with hy | hy
    · exact q1 y hy
    · exact q2 y hy
  have hNb : N ≤ K + 2 := by omega
  have hNp : 0 < N + 4 := by omega
  have HNP : Hid (0 < N) := by unfold Hid; omega
  obtain ⟨N4, hN4⟩ : ∃ N4, N + 4 = N4 := ⟨_, rfl⟩
  have HN4 : Hid (N + 4 = N4) := hN4
  have hFl : F.length = N := by
    rw [← HFE.out, ← hN]
    simp only [List.length_append, List.length_take, List.length_drop, HKL.out]
    omega
  have HSL : Hid ((sealL F).length = N4) := by unfold Hid; rw [sealL, List.length_append, hFl]; exact hN4
  have HSB : Hid (Byt (sealL F)) := by
    unfold Hid
    intro y hy
    rcases List.mem_append.1 hy with hy | hy
    · exact HFB.out y hy
    · exact le4_byt _ y hy
  have hN40 : 0 < N4 := by omega
  have hN4b : N4 ≤ K + 6 := by omega
  have HYC : Hid (Y.Ok ∧ packL Y = sealL F) := canon HSB.out HRE.out
  have HYK : Hid Y.Ok := HYC.out.1
  have HYE : Hid (packL Y = sealL F) := HYC.out.2
  obtain ⟨yn, hyn⟩ : ∃ yn, Y.cs.length = yn := ⟨_, rfl⟩
  have HYN : Hid (Y.cs.length = yn) := hyn
  have HYP : Hid (0 < yn) := by
    unfold Hid
    obtain ⟨q1, q2, q3, q4, q5, q6, q7⟩ := fits_nat HYK.out.1
    have h9 := HYK.out.2.1
    rw [hyn] at h9
    rw [h9]
    exact Nat.mul_pos (Nat.mul_pos (by omega) (by omega)) (by unfold Img.S; omega)
  clear HYC hyn
  have HK1 : Hid (k1 = kk + 1 ∧ K4 = K - 4 ∧ k1 ≤ K4 ∧ K4 + 4 = K ∧ K4 - k1 = R1) := ⟨hk1, hK4, hk1s.1, hk1s.2, hR1⟩
  have hb5 : k1 ≤ K := by omega
  have hb6 : K4 ≤ K := by omega
  have hb7 : kk ≤ K := by omega
  have hb8 : 9 ≤ K4 := by omega
  have hb9 : R1 ≤ K - k1 := by omega
  have er : (K4 : Int) - (k1 : Int) = (R1 : Int) := by omega
  have er2 : ((K4 - k1 : Nat) : Int) = (R1 : Int) := by omega
  have er3 : K4 - k1 = R1 := hR1
  clear hLG hF hk0 hkK hk1 hK4 hk1s hR1 hN hN4 hFl
  go_enter Tryd.func6, Tryd.ntmps6
  go_wp2_with (first
    | (go_at_call 9; refine (heads_any _ HT1.out).mono ?_; rintro e t1 ⟨rfl, b1⟩
       have HX2 : Hid (t1.heap[w.heap.size]? = some (.cells #[.int .i64 b, .int .i64 p, .int .i64 s, .slice a n c, .slice a' m c'] 27 (0, 0))) := (b1.block _ (Array.getElem?_eq_some_iff.1 HX1.out).1).trans HX1.out
       have HB2 : Hid (Below w.heap.size w t1) := below_trans HB1.out b1
       have HT2 : Hid (Tab t1) := HT1.out.below b1
       have HR2 : Hid (Reads t1 a n zs) := HR1.out.below b1
       have HM2 : Hid (ReadsB t1 a' m bs) := HM1.out.below b1
       clear b1 e0 e1 e2 e3 e4
       obtain ⟨e0, e1, e2, e3, e4⟩ := cells5 HX2.out)
    | (go_at_call 12; refine (no_any _ _).mono ?_; rintro e t9 ⟨rfl, ht9⟩; rw [ht9]; clear ht9)
    | (go_at_call 11; have zz := T3; clear T3 zz; refine (packs_n hok HMs.out.1 HMs.out.2.1 HMs.out.2.2.1 HMs.out.2.2.2.1 HMs.out.2.2.2.2.1 HMs.out.2.2.2.2.2 _ HR2.out HM2.out HPOS.out hnc hc HT2.out).mono ?_; rintro e t3 ⟨g1, p1, rfl, o1, b3⟩; rw [HKL.out] at o1 ⊢
       have HX4 : Hid (t3.heap[w.heap.size]? = some (.cells #[.int .i64 b, .int .i64 p, .int .i64 s, .slice a n c, .slice a' m c'] 27 (0, 0))) := (b3.block _ (Array.getElem?_eq_some_iff.1 HX2.out).1).trans HX2.out
       have HB4 : Hid (Below w.heap.size w t3) := below_trans HB2.out b3
       have HT4 : Hid (Tab t3) := HT2.out.below b3
       have HR4 : Hid (Reads t3 a n zs) := HR2.out.below b3
       have HM4 : Hid (ReadsB t3 a' m bs) := HM2.out.below b3
       have HO4 : Hid (Reads t3 (some ⟨g1, 0, none⟩) K (packL M)) := o1.all (pack_byt M hok)
       have hp1 := o1.room_le hK0
       have hp2 : K ≤ p1 ∧ p1 ≤ 9223372036854775807 := by simp only [maxLen] at hp1; omega
       have HG4 : Hid (g1 < t3.heap.size) := o1.lt.2
       clear o1 hp1
       clear b3 e0 e1 e2 e3 e4
       have hq : (if p1 = k1 then some (⟨g1, 0, none⟩ : Addr) else some ⟨g1, k1, none⟩) = some ⟨g1, k1, none⟩ := by rw [if_neg (by have := HK1.out; omega)]
       have hp5 : (kk : Int) ≤ (p1 : Int) := by omega
       have hp6 : kk ≤ p1 := by omega
       have hp7 : (K4 : Int) ≤ (p1 : Int) := by omega
       have hp8 : K4 ≤ p1 := by omega
       have HRX : Hid (Reads t3 (some ⟨g1, k1, none⟩) R1 (((packL M).drop k1).take R1)) := by
         have h9 := (HO4.out.drop k1 hb5).front R1 hb9
         rw [Nat.zero_add] at h9
         exact h9
       have HRY : Hid (Reads t3 (some ⟨g1, k1, none⟩) (K - 4 - k1) (((packL M).drop k1).take R1)) := (by unfold Hid; rw [HRR.out]; exact HRX.out)
       have TA : Hid True := trivial)
    | (at_builtin; have zz := TA; clear TA zz; refine wpList_append_reads rfl (.tmp 38) (.tmp 41) rfl t3.heap.size (.slice (some ⟨t3.heap.size, 0, none⟩) 0 0) 0 [] rfl (own_empty' t3 t3.heap.size rfl) (some ⟨g1, 0, none⟩) kk p1 ((packL M).take kk) rfl ((HO4.out.front kk (by omega)).below (below_alloc _ _)) (by omega) (by simp) ?_; intro v1 w1 own1 grow1; simp only [Nat.zero_add, List.nil_append] at own1
       have HB6 : Hid (Below t3.heap.size t3 w1) := (below_alloc t3 _).grown grow1 (by simp) (fun q hq => ((own_empty' t3 t3.heap.size rfl).lt q hq).1)
       have HO6 : Hid (w1.ownsRow t3.heap.size 5 1 v1 kk (((packL M).take kk).map (Value.int .u8))) := own1
       have TB : Hid True := trivial
       clear own1 grow1)
    | (at_builtin; have zz := TB; clear TB zz; refine wpList_append_reads rfl (.tmp 58) (.tmp 65) rfl t3.heap.size v1 (kk) ((packL M).take kk) rfl HO6.out (some ⟨g1, k1, none⟩) (K - 4 - k1) (p1 - k1) (((packL M).drop k1).take R1) rfl (HRY.out.below HB6.out) (by omega) HB6.out.size ?_; intro v4 w4 own4 grow4; rw [HNN.out] at own4; obtain ⟨g4, c4, rfl, hc41, hc42, hg41, hg42⟩ := own_shape own4 HNP.out
       have HB9 : Hid (Below t3.heap.size t3 w4) := HB6.out.grown grow4 HB6.out.size (fun q hq => (HO6.out.lt q hq).1)
       have HF9 : Hid (Reads w4 (some ⟨g4, 0, none⟩) N F) := by have h9 := Own.all own4 (by rw [HFE.out]; exact HFB.out); rw [HFE.out] at h9; exact h9
       have HT9 : Hid (Tab w4) := HT4.out.below HB9.out
       have HBB : Hid (Below w.heap.size w w4) := below_trans HB4.out HB9.out
       clear own4 grow4 hc41 hc42 hg41 hg42)
    | (go_at_call 15; refine (large_fn g4 0 _ _ F _ HF9.out (by omega)).mono ?_; rintro e t5 ⟨q5, rfl, ht5⟩; rw [HLG.out, ht5]
       have HFA : Hid (Reads (w4.drewN q5) (some ⟨g4, 0, none⟩) N F) := HF9.out.drewN q5
       have HTA : Hid (Tab (w4.drewN q5)) := HT9.out.drewN q5
       have HBC : Hid (Below w.heap.size w (w4.drewN q5)) := ⟨HBB.out.os, HBB.out.tape, HBB.out.output, HBB.out.size, HBB.out.block⟩
       clear ht5)
    | (go_at_call 17; refine (sealed_any (some ⟨g4, 0, none⟩) N _ F _ HFA.out (by omega) HTA.out).mono ?_; rintro e t6 ⟨g6, c6, rfl, o6, b6⟩; rw [HN4.out] at o6 ⊢
       have HO5 : Hid (Reads t6 (some ⟨g6, 0, none⟩) N4 (sealL F)) := o6.all HSB.out
       have hp9 := o6.room_le (by omega)
       have hpA : N4 ≤ c6 ∧ c6 ≤ 9223372036854775807 := by simp only [maxLen] at hp9; omega
       have HG6 : Hid (g6 < t6.heap.size) := o6.lt.2
       have HTC : Hid (Tab t6) := HTA.out.below b6
       have HBD : Hid (Below w.heap.size w t6) := below_trans HBC.out b6
       clear o6 hp9 b6)
    | (go_at_call 13; refine (read_n g6 0 N4 c6 (sealL F) _ HSL.out HO5.out (by omega) hpA.1 hpA.2 HG6.out HTC.out).mono ?_; rintro e t7 ⟨res, b7⟩
       rw [HRE.out] at res
       obtain ⟨g7, c7, gm, rfl, o7, m7⟩ := res
       rw [HYN.out] at o7 ⊢
       have hpB := o7.room_le HYP.out
       have hpC : yn ≤ c7 ∧ c7 ≤ 9223372036854775807 := by simp only [maxLen] at hpB; omega
       have HR7 : Hid (Reads t7 (some ⟨g7, 0, none⟩) yn Y.cs) := o7.all HYK.out.2.2.2
       have HM7 : Hid (ReadsB t7 (some ⟨gm, 0, none⟩) Y.b Y.ms) := (by have h9 := m7.reads Y.b (Nat.le_refl _); rw [List.take_of_length_le (Nat.le_of_eq HYK.out.2.2.1)] at h9; exact h9)
       have HT7 : Hid (Tab t7) := HTC.out.below b7
       have HO7 : Hid (Reads t7 (some ⟨g6, 0, none⟩) N4 (sealL F)) := HO5.out.below b7
       have HB7Z : Hid (Below w.heap.size w t7) := below_trans HBD.out b7
       have HT8 : Hid (Tab (t7.alloc (.cells #[.int .i64 (Y.b : Int), .int .i64 (Y.p : Int), .int .i64 (Y.s : Int), .slice (some ⟨g7, 0, none⟩) yn c7, .slice (some ⟨gm, 0, none⟩) Y.b Y.b] 27))) := HT7.out.below (below_alloc _ _)
       have HR8 : Hid (Reads (t7.alloc (.cells #[.int .i64 (Y.b : Int), .int .i64 (Y.p : Int), .int .i64 (Y.s : Int), .slice (some ⟨g7, 0, none⟩) yn c7, .slice (some ⟨gm, 0, none⟩) Y.b Y.b] 27)) (some ⟨g7, 0, none⟩) yn Y.cs) := HR7.out.below (below_alloc _ _)
       have HM8 : Hid (ReadsB (t7.alloc (.cells #[.int .i64 (Y.b : Int), .int .i64 (Y.p : Int), .int .i64 (Y.s : Int), .slice (some ⟨g7, 0, none⟩) yn c7, .slice (some ⟨gm, 0, none⟩) Y.b Y.b] 27)) (some ⟨gm, 0, none⟩) Y.b Y.ms) := HM7.out.below (below_alloc _ _)
       have HX8 : Hid ((t7.alloc (.cells #[.int .i64 (Y.b : Int), .int .i64 (Y.p : Int), .int .i64 (Y.s : Int), .slice (some ⟨g7, 0, none⟩) yn c7, .slice (some ⟨gm, 0, none⟩) Y.b Y.b] 27)).heap[t7.heap.size]? = some (.cells #[.int .i64 (Y.b : Int), .int .i64 (Y.p : Int), .int .i64 (Y.s : Int), .slice (some ⟨g7, 0, none⟩) yn c7, .slice (some ⟨gm, 0, none⟩) Y.b Y.b] 27 (0, 0))) := heap_alloc_new _ _
       obtain ⟨i0, i1, i2, i3, i4⟩ := cells5 HX8.out
       have TZ : Hid True := trivial
       clear b7 o7 m7 hpB)
    | (go_at_call 11; have zz := TZ; clear TZ zz; refine (packs_n HYK.out rfl rfl rfl rfl rfl rfl _ HR8.out HM8.out HYP.out hpC.1 hpC.2 HT8.out).mono ?_; rintro e t8 ⟨g8, p8, rfl, o8, b8⟩; rw [HYE.out, HSL.out] at o8 ⊢
       have HO8 : Hid (Reads t8 (some ⟨g8, 0, none⟩) N4 (sealL F)) := o8.all HSB.out
       have HO9 : Hid (Reads t8 (some ⟨g6, 0, none⟩) N4 (sealL F)) := (HO7.out.below (below_alloc _ _)).below b8
       have HBE : Hid (Below w.heap.size w t8) := below_trans HB7Z.out (below_trans (below_alloc _ _) b8)
       clear o8 b8)
    | (go_at_call 16; refine (same_eq _ _ _ _ _ (sealL F) _ HO8.out HO9.out).mono ?_; rintro e t9 ⟨rfl, hu9⟩; rw [hu9]; clear hu9))
  go_ret
  exact ⟨rfl, HBE.out⟩
set_option maxHeartbeats 4000000 in
set_option maxRecDepth 100000 in
theorem canon_lg1 (b p s : Int) (a a' : Option Addr) (n c m c' : Nat) (zs : List Int) (bs : List Bool) (k x : Int) (w : World) (hn : n ≤ 140737488351232) (hm : m ≤ 140737488351232) (hr : Reads w a n zs) (hrb : ReadsB w a' m bs) (hnc : n ≤ c) (hc : c ≤ 9223372036854775807) (hk : -9223372036854775808 ≤ k ∧ k ≤ 9223372036854775807) (hx : 0 ≤ x ∧ x ≤ 255) (ht : Tab w) (hE : chkE b p s n m = 0) (hk0 : 0 ≤ k) (hkK : k < ((packL (⟨b.toNat, p.toNat, s.toNat, zs, bs⟩ : Img)).length : Int) - 4) (hLG : lrg (bentL (packL (⟨b.toNat, p.toNat, s.toNat, zs, bs⟩ : Img)) k.toNat [x, (packL (⟨b.toNat, p.toNat, s.toNat, zs, bs⟩ : Img)).getD k.toNat 0]) = true) :
    Calls Tryd.prog 6 #[.agg #[.int .i64 b, .int .i64 p, .int .i64 s, .slice a n c, .slice a' m c'], .int .i64 k, .int .u8 x, .int .i64 1] w fun e w' => e = .returned (.bool true) ∧ Below w.heap.size w w' := by
  obtain ⟨M, hok, hMb, hMp, hMs, hMc, hMm, hMn⟩ := img_of hE hr.1 hrb.1 hr.2.1
  have HPOS : Hid (0 < n) := by
    unfold Hid
    obtain ⟨q1, q2, q3, q4, q5, q6, q7⟩ := fits_nat hok.1
    have h9 := hok.2.1
    rw [hMc, hr.1] at h9
    rw [h9]
    exact Nat.mul_pos (Nat.mul_pos (by omega) (by omega)) (by unfold Img.S; omega)
  obtain ⟨K, hK⟩ : ∃ K, (packL M).length = K := ⟨_, rfl⟩
  have HKL : Hid ((packL M).length = K) := hK
  have hMM : (⟨b.toNat, p.toNat, s.toNat, zs, bs⟩ : Img) = M := by obtain ⟨y1, y2, y3, y4, y5⟩ := M; simp only at hMb hMp hMs hMc hMm; subst hMc hMm; simp [hMb, hMp, hMs]
  rw [hMM, hK] at hkK
  rw [hMM] at hLG
  clear hMM
  have hK9 := pack_len M hok
  rw [hK] at hK9
  have hK0 : 0 < K := by
    rw [← hK, packL, sealL, List.length_append]
    have h5 : (le4 (sumL (nats (bodyL M)))).length = 4 := rfl
    omega
  have hK14 : 14 ≤ K := by
    have hb := packS_bound M.C (M.C + M.S) (chunks (M.C + M.S) (M.b * M.p) M.cs) ⟨headL M.b M.p M.s M.ms, 0, 0⟩ [] (chunks_len _ _ _ hok.2.1) (by omega) (by rw [head_len]; omega) (by simp)
    have h2 : (headL M.b M.p M.s M.ms).length ≤ (bodyL M).length := hb.1
    rw [head_len] at h2
    rw [← hK, packL, sealL, List.length_append]
    have h5 : (le4 (sumL (nats (bodyL M)))).length = 4 := rfl
    omega
  have HMs : Hid (b = (M.b : Int) ∧ p = (M.p : Int) ∧ s = (M.s : Int) ∧ M.cs = zs ∧ M.ms = bs ∧ M.b = m) := ⟨hMb, hMp, hMs, hMc, hMm, hMn⟩
  clear hE hK hMb hMp hMs hMc hMm hMn
  have hn2 : n ≤ 140737488355000 := by omega
  have hm2 : m ≤ 140737488355000 := by omega
  have HT1 : Hid (Tab (w.alloc (.cells #[.int .i64 b, .int .i64 p, .int .i64 s, .slice a n c, .slice a' m c'] 27))) := ht.below (below_alloc w _)
  have HR1 : Hid (Reads (w.alloc (.cells #[.int .i64 b, .int .i64 p, .int .i64 s, .slice a n c, .slice a' m c'] 27)) a n zs) := hr.below (below_alloc w _)
  have HM1 : Hid (ReadsB (w.alloc (.cells #[.int .i64 b, .int .i64 p, .int .i64 s, .slice a n c, .slice a' m c'] 27)) a' m bs) := hrb.below (below_alloc w _)
  have HX1 : Hid ((w.alloc (.cells #[.int .i64 b, .int .i64 p, .int .i64 s, .slice a n c, .slice a' m c'] 27)).heap[w.heap.size]? = some (.cells #[.int .i64 b, .int .i64 p, .int .i64 s, .slice a n c, .slice a' m c'] 27 (0, 0))) := heap_alloc_new _ _
  have HB1 : Hid (Below w.heap.size w (w.alloc (.cells #[.int .i64 b, .int .i64 p, .int .i64 s, .slice a n c, .slice a' m c'] 27))) := below_alloc w _
  obtain ⟨e0, e1, e2, e3, e4⟩ := cells5 HX1.out
  clear hr hrb ht
  obtain ⟨kk, rfl⟩ := Int.eq_ofNat_of_zero_le hk0
  have T3 : Hid True := trivial
  have fK : ¬ (K : Int) < 4 := by omega
  have f1 : ¬ (kk : Int) < 0 := by omega
  obtain ⟨K4, hK4⟩ : ∃ K4, K4 = K - 4 := ⟨_, rfl⟩
  obtain ⟨k1, hk1⟩ : ∃ k1, k1 = kk + 1 := ⟨_, rfl⟩
  obtain ⟨R1, hR1⟩ : ∃ R1, K4 - k1 = R1 := ⟨_, rfl⟩
  have e4 : (K : Int) - 4 = (K4 : Int) := by omega
  have f2 : ¬ (K4 : Int) ≤ (kk : Int) := by omega
  have f4 : ¬ (K : Int) - 4 ≤ (kk : Int) := by omega
  have ek : (kk : Int) + 1 = (k1 : Int) := by omega
  have f3 : (k1 : Int) ≤ (K4 : Int) := by omega
  have hk1s : k1 ≤ K4 ∧ K4 + 4 = K := by omega
  have hkk : kk < K4 := by omega
  simp only [Int.toNat_natCast] at hLG
  obtain ⟨z, hz⟩ : ∃ z, (packL M).getD kk 0 = z := ⟨_, rfl⟩
  have HZ : Hid ((packL M).getD kk 0 = z) := hz
  rw [hz] at hLG
  have hzb : 0 ≤ z ∧ z ≤ 255 := by
    rw [← hz, List.getD_eq_getElem?_getD, List.getElem?_eq_getElem (by rw [HKL.out]; omega)]
    exact pack_byt M hok _ (List.getElem_mem _)
  clear hz
  obtain ⟨F, hF⟩ : ∃ F, bentL (packL M) kk [x, z] = F := ⟨_, rfl⟩
  have HLG : Hid (lrg F = true) := by unfold Hid; rw [← hF]; exact hLG
  have HFE : Hid ((packL M).take kk ++ [x] ++ [z] ++ ((packL M).drop k1).take R1 = F) := by unfold Hid; rw [← hF, bentL, HKL.out, ← hR1, hK4, hk1]; try simp
  obtain ⟨N, hN⟩ : ∃ N, kk + 1 + 1 + R1 = N := ⟨_, rfl⟩
  have HRR : Hid (K - 4 - k1 = R1) := by unfold Hid; omega
  have HNN : Hid (kk + 1 + 1 + (K - 4 - k1) = N) := by unfold Hid; rw [HRR.out]; exact hN
  have HFB : Hid (Byt F) := by
    unfold Hid
    rw [← HFE.out]
    intro y hy
    simp only [List.mem_append, List.mem_singleton] at hy
    have q1 : ∀ y, y ∈ (packL M).take kk → 0 ≤ y ∧ y ≤ 255 := fun y hy => pack_byt M hok y (List.mem_of_mem_take hy)
    have q2 : ∀ y, y ∈ ((packL M).drop k1).take R1 → 0 ≤ y ∧ y ≤ 255 := fun y hy => pack_byt M hok y (List.mem_of_mem_drop (List.mem_of_mem_take hy))
    rcases hy with ((hy | hy) | hy) | hy
    · exact q1 y hy
    · rw [hy]; exact hx
    · rw [hy]; exact hzb
    · exact q2 y hy
  have hNb : N ≤ K + 2 := by omega
  have hNp : 0 < N + 4 := by omega
  have HNP : Hid (0 < N) := by unfold Hid; omega
  have HK1 : Hid (k1 = kk + 1 ∧ K4 = K - 4 ∧ k1 ≤ K4 ∧ K4 + 4 = K ∧ K4 - k1 = R1) := ⟨hk1, hK4, hk1s.1, hk1s.2, hR1⟩
  have hb5 : k1 ≤ K := by omega
  have hb6 : K4 ≤ K := by omega
  have hb7 : kk ≤ K := by omega
  have hb8 : 9 ≤ K4 := by omega
  have hb9 : R1 ≤ K - k1 := by omega
  have er : (K4 : Int) - (k1 : Int) = (R1 : Int) := by omega
  have er2 : ((K4 - k1 : Nat) : Int) = (R1 : Int) := by omega
  have er3 : K4 - k1 = R1 := hR1
  clear hLG hF hk0 hkK hk1 hK4 hk1s hR1 hN
  go_enter Tryd.func6, Tryd.ntmps6
  go_wp2_with (first
    | (go_at_call 9; refine (heads_any _ HT1.out).mono ?_; rintro e t1 ⟨rfl, b1⟩
       have HX2 : Hid (t1.heap[w.heap.size]? = some (.cells #[.int .i64 b, .int .i64 p, .int .i64 s, .slice a n c, .slice a' m c'] 27 (0, 0))) := (b1.block _ (Array.getElem?_eq_some_iff.1 HX1.out).1).trans HX1.out
       have HB2 : Hid (Below w.heap.size w t1) := below_trans HB1.out b1
       have HT2 : Hid (Tab t1) := HT1.out.below b1
       have HR2 : Hid (Reads t1 a n zs) := HR1.out.below b1
       have HM2 : Hid (ReadsB t1 a' m bs) := HM1.out.below b1
       clear b1 e0 e1 e2 e3 e4
       obtain ⟨e0, e1, e2, e3, e4⟩ := cells5 HX2.out)
    | (go_at_call 12; refine (no_any _ _).mono ?_; rintro e t9 ⟨rfl, ht9⟩; rw [ht9]; clear ht9)
    | (go_at_call 11; have zz := T3; clear T3 zz; refine (packs_n hok HMs.out.1 HMs.out.2.1 HMs.out.2.2.1 HMs.out.2.2.2.1 HMs.out.2.2.2.2.1 HMs.out.2.2.2.2.2 _ HR2.out HM2.out HPOS.out hnc hc HT2.out).mono ?_; rintro e t3 ⟨g1, p1, rfl, o1, b3⟩; rw [HKL.out] at o1 ⊢
       have HX4 : Hid (t3.heap[w.heap.size]? = some (.cells #[.int .i64 b, .int .i64 p, .int .i64 s, .slice a n c, .slice a' m c'] 27 (0, 0))) := (b3.block _ (Array.getElem?_eq_some_iff.1 HX2.out).1).trans HX2.out
       have HB4 : Hid (Below w.heap.size w t3) := below_trans HB2.out b3
       have HT4 : Hid (Tab t3) := HT2.out.below b3
       have HR4 : Hid (Reads t3 a n zs) := HR2.out.below b3
       have HM4 : Hid (ReadsB t3 a' m bs) := HM2.out.below b3
       have HO4 : Hid (Reads t3 (some ⟨g1, 0, none⟩) K (packL M)) := o1.all (pack_byt M hok)
       have hp1 := o1.room_le hK0
       have hp2 : K ≤ p1 ∧ p1 ≤ 9223372036854775807 := by simp only [maxLen] at hp1; omega
       have HG4 : Hid (g1 < t3.heap.size) := o1.lt.2
       clear o1 hp1
       clear b3 e0 e1 e2 e3 e4
       have hq : (if p1 = k1 then some (⟨g1, 0, none⟩ : Addr) else some ⟨g1, k1, none⟩) = some ⟨g1, k1, none⟩ := by rw [if_neg (by have := HK1.out; omega)]
       have hp5 : (kk : Int) ≤ (p1 : Int) := by omega
       have hp6 : kk ≤ p1 := by omega
       have hp7 : (K4 : Int) ≤ (p1 : Int) := by omega
       have hp8 : K4 ≤ p1 := by omega
       have HRX : Hid (Reads t3 (some ⟨g1, k1, none⟩) R1 (((packL M).drop k1).take R1)) := by
         have h9 := (HO4.out.drop k1 hb5).front R1 hb9
         rw [Nat.zero_add] at h9
         exact h9
       have HRY : Hid (Reads t3 (some ⟨g1, k1, none⟩) (K - 4 - k1) (((packL M).drop k1).take R1)) := (by unfold Hid; rw [HRR.out]; exact HRX.out)
       have TA : Hid True := trivial)
    | (at_builtin; have zz := TA; clear TA zz; refine wpList_append_reads rfl (.tmp 38) (.tmp 41) rfl t3.heap.size (.slice (some ⟨t3.heap.size, 0, none⟩) 0 0) 0 [] rfl (own_empty' t3 t3.heap.size rfl) (some ⟨g1, 0, none⟩) kk p1 ((packL M).take kk) rfl ((HO4.out.front kk (by omega)).below (below_alloc _ _)) (by omega) (by simp) ?_; intro v1 w1 own1 grow1; simp only [Nat.zero_add, List.nil_append] at own1
       have HB6 : Hid (Below t3.heap.size t3 w1) := (below_alloc t3 _).grown grow1 (by simp) (fun q hq => ((own_empty' t3 t3.heap.size rfl).lt q hq).1)
       have HO6 : Hid (w1.ownsRow t3.heap.size 5 1 v1 kk (((packL M).take kk).map (Value.int .u8))) := own1
       have TB : Hid True := trivial
       clear own1 grow1)
    | (at_builtin; have zz := TB; clear TB zz; refine wpList_append_reads rfl (.tmp 45) (.tmp 47) rfl t3.heap.size v1 (kk) ((packL M).take kk) rfl (HO6.out.alloc _) (some ⟨w1.heap.size, 0, none⟩) 1 1 [x] rfl (reads_alloc w1 [x] (by intro y hy; rw [List.mem_singleton.1 hy]; omega)) (by omega) (by have := HB6.out.size; simp; omega) ?_; intro v2 w2 own2 grow2
       have HB7 : Hid (Below t3.heap.size t3 w2) := (HB6.out.alloc HB6.out.size _).grown grow2 (by have := HB6.out.size; simp; omega) (fun q hq => (HO6.out.lt q hq).1)
       have HO7 : Hid (w2.ownsRow t3.heap.size 5 1 v2 (kk + 1) (((packL M).take kk ++ [x]).map (Value.int .u8))) := own2
       have TC : Hid True := trivial
       have cz : w2.cell? ⟨g1, kk, none⟩ = some (.int .u8 z) := by
         have h9 := (HO4.out.below HB7.out).2.2.2 _ rfl kk (by omega)
         rw [plain_add, Nat.zero_add, HZ.out] at h9
         exact h9
       clear own2 grow2)
    | (at_builtin; have zz := TC; clear TC zz; refine wpList_append_reads rfl (.tmp 51) (.tmp 56) rfl t3.heap.size v2 (kk + 1) ((packL M).take kk ++ [x]) rfl (HO7.out.alloc _) (some ⟨w2.heap.size, 0, none⟩) 1 1 [z] rfl (reads_alloc w2 [z] (by intro y hy; rw [List.mem_singleton.1 hy]; omega)) (by omega) (by have := HB7.out.size; simp; omega) ?_; intro v3 w3 own2 grow2
       have HB8 : Hid (Below t3.heap.size t3 w3) := (HB7.out.alloc HB7.out.size _).grown grow2 (by have := HB7.out.size; simp; omega) (fun q hq => (HO7.out.lt q hq).1)
       have HO8 : Hid (w3.ownsRow t3.heap.size 5 1 v3 (kk + 1 + 1) (((packL M).take kk ++ [x] ++ [z]).map (Value.int .u8))) := own2
       have TD : Hid True := trivial
       clear own2 grow2)
    | (at_builtin; have zz := TD; clear TD zz; refine wpList_append_reads rfl (.tmp 58) (.tmp 65) rfl t3.heap.size v3 (kk + 1 + 1) ((packL M).take kk ++ [x] ++ [z]) rfl HO8.out (some ⟨g1, k1, none⟩) (K - 4 - k1) (p1 - k1) (((packL M).drop k1).take R1) rfl (HRY.out.below HB8.out) (by omega) HB8.out.size ?_; intro v4 w4 own4 grow4; rw [HNN.out] at own4; obtain ⟨g4, c4, rfl, hc41, hc42, hg41, hg42⟩ := own_shape own4 HNP.out
       have HB9 : Hid (Below t3.heap.size t3 w4) := HB8.out.grown grow4 HB8.out.size (fun q hq => (HO8.out.lt q hq).1)
       have HF9 : Hid (Reads w4 (some ⟨g4, 0, none⟩) N F) := by have h9 := Own.all own4 (by rw [HFE.out]; exact HFB.out); rw [HFE.out] at h9; exact h9
       have HT9 : Hid (Tab w4) := HT4.out.below HB9.out
       have HBB : Hid (Below w.heap.size w w4) := below_trans HB4.out HB9.out
       clear own4 grow4 hc41 hc42 hg41 hg42)
    | (go_at_call 15; refine (large_fn g4 0 _ _ F _ HF9.out (by omega)).mono ?_; rintro e t5 ⟨q5, rfl, ht5⟩; rw [HLG.out, ht5]
       have HFA : Hid (Reads (w4.drewN q5) (some ⟨g4, 0, none⟩) N F) := HF9.out.drewN q5
       have HTA : Hid (Tab (w4.drewN q5)) := HT9.out.drewN q5
       have HBC : Hid (Below w.heap.size w (w4.drewN q5)) := ⟨HBB.out.os, HBB.out.tape, HBB.out.output, HBB.out.size, HBB.out.block⟩
       clear ht5))
  go_ret
  exact ⟨rfl, HBC.out⟩

set_option maxHeartbeats 4000000 in
set_option maxRecDepth 100000 in
theorem canon_er1 (b p s : Int) (a a' : Option Addr) (n c m c' : Nat) (zs : List Int) (bs : List Bool) (k x : Int) (w : World) (hn : n ≤ 140737488351232) (hm : m ≤ 140737488351232) (hr : Reads w a n zs) (hrb : ReadsB w a' m bs) (hnc : n ≤ c) (hc : c ≤ 9223372036854775807) (hk : -9223372036854775808 ≤ k ∧ k ≤ 9223372036854775807) (hx : 0 ≤ x ∧ x ≤ 255) (ht : Tab w) (hE : chkE b p s n m = 0) (hk0 : 0 ≤ k) (hkK : k < ((packL (⟨b.toNat, p.toNat, s.toNat, zs, bs⟩ : Img)).length : Int) - 4) (hLG : lrg (bentL (packL (⟨b.toNat, p.toNat, s.toNat, zs, bs⟩ : Img)) k.toNat [x, (packL (⟨b.toNat, p.toNat, s.toNat, zs, bs⟩ : Img)).getD k.toNat 0]) = false) (y : Int) (hRE : readR (sealL (bentL (packL (⟨b.toNat, p.toNat, s.toNat, zs, bs⟩ : Img)) k.toNat [x, (packL (⟨b.toNat, p.toNat, s.toNat, zs, bs⟩ : Img)).getD k.toNat 0])) = .error y) :
    Calls Tryd.prog 6 #[.agg #[.int .i64 b, .int .i64 p, .int .i64 s, .slice a n c, .slice a' m c'], .int .i64 k, .int .u8 x, .int .i64 1] w fun e w' => e = .returned (.bool true) ∧ Below w.heap.size w w' := by
  obtain ⟨M, hok, hMb, hMp, hMs, hMc, hMm, hMn⟩ := img_of hE hr.1 hrb.1 hr.2.1
  have HPOS : Hid (0 < n) := by
    unfold Hid
    obtain ⟨q1, q2, q3, q4, q5, q6, q7⟩ := fits_nat hok.1
    have h9 := hok.2.1
    rw [hMc, hr.1] at h9
    rw [h9]
    exact Nat.mul_pos (Nat.mul_pos (by omega) (by omega)) (by unfold Img.S; omega)
  obtain ⟨K, hK⟩ : ∃ K, (packL M).length = K := ⟨_, rfl⟩
  have HKL : Hid ((packL M).length = K) := hK
  have hMM : (⟨b.toNat, p.toNat, s.toNat, zs, bs⟩ : Img) = M := by obtain ⟨y1, y2, y3, y4, y5⟩ := M; simp only at hMb hMp hMs hMc hMm; subst hMc hMm; simp [hMb, hMp, hMs]
  rw [hMM, hK] at hkK
  rw [hMM] at hLG
  rw [hMM] at hRE
  clear hMM
  have hK9 := pack_len M hok
  rw [hK] at hK9
  have hK0 : 0 < K := by
    rw [← hK, packL, sealL, List.length_append]
    have h5 : (le4 (sumL (nats (bodyL M)))).length = 4 := rfl
    omega
  have hK14 : 14 ≤ K := by
    have hb := packS_bound M.C (M.C + M.S) (chunks (M.C + M.S) (M.b * M.p) M.cs) ⟨headL M.b M.p M.s M.ms, 0, 0⟩ [] (chunks_len _ _ _ hok.2.1) (by omega) (by rw [head_len]; omega) (by simp)
    have h2 : (headL M.b M.p M.s M.ms).length ≤ (bodyL M).length := hb.1
    rw [head_len] at h2
    rw [← hK, packL, sealL, List.length_append]
    have h5 : (le4 (sumL (nats (bodyL M)))).length = 4 := rfl
    omega
  have HMs : Hid (b = (M.b : Int) ∧ p = (M.p : Int) ∧ s = (M.s : Int) ∧ M.cs = zs ∧ M.ms = bs ∧ M.b = m) := ⟨hMb, hMp, hMs, hMc, hMm, hMn⟩
  clear hE hK hMb hMp hMs hMc hMm hMn
  have hn2 : n ≤ 140737488355000 := by omega
  have hm2 : m ≤ 140737488355000 := by omega
  have HT1 : Hid (Tab (w.alloc (.cells #[.int .i64 b, .int .i64 p, .int .i64 s, .slice a n c, .slice a' m c'] 27))) := ht.below (below_alloc w _)
  have HR1 : Hid (Reads (w.alloc (.cells #[.int .i64 b, .int .i64 p, .int .i64 s, .slice a n c, .slice a' m c'] 27)) a n zs) := hr.below (below_alloc w _)
  have HM1 : Hid (ReadsB (w.alloc (.cells #[.int .i64 b, .int .i64 p, .int .i64 s, .slice a n c, .slice a' m c'] 27)) a' m bs) := hrb.below (below_alloc w _)
  have HX1 : Hid ((w.alloc (.cells #[.int .i64 b, .int .i64 p, .int .i64 s, .slice a n c, .slice a' m c'] 27)).heap[w.heap.size]? = some (.cells #[.int .i64 b, .int .i64 p, .int .i64 s, .slice a n c, .slice a' m c'] 27 (0, 0))) := heap_alloc_new _ _
  have HB1 : Hid (Below w.heap.size w (w.alloc (.cells #[.int .i64 b, .int .i64 p, .int .i64 s, .slice a n c, .slice a' m c'] 27))) := below_alloc w _
  obtain ⟨e0, e1, e2, e3, e4⟩ := cells5 HX1.out
  clear hr hrb ht
  obtain ⟨kk, rfl⟩ := Int.eq_ofNat_of_zero_le hk0
  have T3 : Hid True := trivial
  have fK : ¬ (K : Int) < 4 := by omega
  have f1 : ¬ (kk : Int) < 0 := by omega
  obtain ⟨K4, hK4⟩ : ∃ K4, K4 = K - 4 := ⟨_, rfl⟩
  obtain ⟨k1, hk1⟩ : ∃ k1, k1 = kk + 1 := ⟨_, rfl⟩
  obtain ⟨R1, hR1⟩ : ∃ R1, K4 - k1 = R1 := ⟨_, rfl⟩
  have e4 : (K : Int) - 4 = (K4 : Int) := by omega
  have f2 : ¬ (K4 : Int) ≤ (kk : Int) := by omega
  have f4 : ¬ (K : Int) - 4 ≤ (kk : Int) := by omega
  have ek : (kk : Int) + 1 = (k1 : Int) := by omega
  have f3 : (k1 : Int) ≤ (K4 : Int) := by omega
  have hk1s : k1 ≤ K4 ∧ K4 + 4 = K := by omega
  have hkk : kk < K4 := by omega
  simp only [Int.toNat_natCast] at hLG
  simp only [Int.toNat_natCast] at hRE
  obtain ⟨z, hz⟩ : ∃ z, (packL M).getD kk 0 = z := ⟨_, rfl⟩
  have HZ : Hid ((packL M).getD kk 0 = z) := hz
  rw [hz] at hLG
  rw [hz] at hRE
  have hzb : 0 ≤ z ∧ z ≤ 255 := by
    rw [← hz, List.getD_eq_getElem?_getD, List.getElem?_eq_getElem (by rw [HKL.out]; omega)]
    exact pack_byt M hok _ (List.getElem_mem _)
  clear hz
  obtain ⟨F, hF⟩ : ∃ F, bentL (packL M) kk [x, z] = F := ⟨_, rfl⟩
  have HLG : Hid (lrg F = false) := by unfold Hid; rw [← hF]; exact hLG
  have HRE : Hid (readR (sealL F) = .error y) := by unfold Hid; rw [← hF]; exact hRE
  clear hRE
  have HFE : Hid ((packL M).take kk ++ [x] ++ [z] ++ ((packL M).drop k1).take R1 = F) := by unfold Hid; rw [← hF, bentL, HKL.out, ← hR1, hK4, hk1]; try simp
  obtain ⟨N, hN⟩ : ∃ N, kk + 1 + 1 + R1 = N := ⟨_, rfl⟩
  have HRR : Hid (K - 4 - k1 = R1) := by unfold Hid; omega
  have HNN : Hid (kk + 1 + 1 + (K - 4 - k1) = N) := by unfold Hid; rw [HRR.out]; exact hN
  have HFB : Hid (Byt F) := by
    unfold Hid
    rw [← HFE.out]
    intro y hy
    simp only [List.mem_append, List.mem_singleton] at hy
    have q1 : ∀ y, y ∈ (packL M).take kk → 0 ≤ y ∧ y ≤ 255 := fun y hy => pack_byt M hok y (List.mem_of_mem_take hy)
    have q2 : ∀ y, y ∈ ((packL M).drop k1).take R1 → 0 ≤ y ∧ y ≤ 255 := fun y hy => pack_byt M hok y (List.mem_of_mem_drop (List.mem_of_mem_take hy))
    rcases hy with ((hy | hy) | hy) | hy
    · exact q1 y hy
    · rw [hy]; exact hx
    · rw [hy]; exact hzb
    · exact q2 y hy
  have hNb : N ≤ K + 2 := by omega
  have hNp : 0 < N + 4 := by omega
  have HNP : Hid (0 < N) := by unfold Hid; omega
  obtain ⟨N4, hN4⟩ : ∃ N4, N + 4 = N4 := ⟨_, rfl⟩
  have HN4 : Hid (N + 4 = N4) := hN4
  have hFl : F.length = N := by
    rw [← HFE.out, ← hN]
    simp only [List.length_append, List.length_take, List.length_drop, HKL.out, List.length_cons, List.length_nil]
    omega
  have HSL : Hid ((sealL F).length = N4) := by unfold Hid; rw [sealL, List.length_append, hFl]; exact hN4
  have HSB : Hid (Byt (sealL F)) := by
    unfold Hid
    intro y hy
    rcases List.mem_append.1 hy with hy | hy
    · exact HFB.out y hy
    · exact le4_byt _ y hy
  have hN40 : 0 < N4 := by omega
  have hN4b : N4 ≤ K + 6 := by omega
  have HK1 : Hid (k1 = kk + 1 ∧ K4 = K - 4 ∧ k1 ≤ K4 ∧ K4 + 4 = K ∧ K4 - k1 = R1) := ⟨hk1, hK4, hk1s.1, hk1s.2, hR1⟩
  have hb5 : k1 ≤ K := by omega
  have hb6 : K4 ≤ K := by omega
  have hb7 : kk ≤ K := by omega
  have hb8 : 9 ≤ K4 := by omega
  have hb9 : R1 ≤ K - k1 := by omega
  have er : (K4 : Int) - (k1 : Int) = (R1 : Int) := by omega
  have er2 : ((K4 - k1 : Nat) : Int) = (R1 : Int) := by omega
  have er3 : K4 - k1 = R1 := hR1
  clear hLG hF hk0 hkK hk1 hK4 hk1s hR1 hN hN4 hFl
  go_enter Tryd.func6, Tryd.ntmps6
  go_wp2_with (first
    | (go_at_call 9; refine (heads_any _ HT1.out).mono ?_; rintro e t1 ⟨rfl, b1⟩
       have HX2 : Hid (t1.heap[w.heap.size]? = some (.cells #[.int .i64 b, .int .i64 p, .int .i64 s, .slice a n c, .slice a' m c'] 27 (0, 0))) := (b1.block _ (Array.getElem?_eq_some_iff.1 HX1.out).1).trans HX1.out
       have HB2 : Hid (Below w.heap.size w t1) := below_trans HB1.out b1
       have HT2 : Hid (Tab t1) := HT1.out.below b1
       have HR2 : Hid (Reads t1 a n zs) := HR1.out.below b1
       have HM2 : Hid (ReadsB t1 a' m bs) := HM1.out.below b1
       clear b1 e0 e1 e2 e3 e4
       obtain ⟨e0, e1, e2, e3, e4⟩ := cells5 HX2.out)
    | (go_at_call 12; refine (no_any _ _).mono ?_; rintro e t9 ⟨rfl, ht9⟩; rw [ht9]; clear ht9)
    | (go_at_call 11; have zz := T3; clear T3 zz; refine (packs_n hok HMs.out.1 HMs.out.2.1 HMs.out.2.2.1 HMs.out.2.2.2.1 HMs.out.2.2.2.2.1 HMs.out.2.2.2.2.2 _ HR2.out HM2.out HPOS.out hnc hc HT2.out).mono ?_; rintro e t3 ⟨g1, p1, rfl, o1, b3⟩; rw [HKL.out] at o1 ⊢
       have HX4 : Hid (t3.heap[w.heap.size]? = some (.cells #[.int .i64 b, .int .i64 p, .int .i64 s, .slice a n c, .slice a' m c'] 27 (0, 0))) := (b3.block _ (Array.getElem?_eq_some_iff.1 HX2.out).1).trans HX2.out
       have HB4 : Hid (Below w.heap.size w t3) := below_trans HB2.out b3
       have HT4 : Hid (Tab t3) := HT2.out.below b3
       have HR4 : Hid (Reads t3 a n zs) := HR2.out.below b3
       have HM4 : Hid (ReadsB t3 a' m bs) := HM2.out.below b3
       have HO4 : Hid (Reads t3 (some ⟨g1, 0, none⟩) K (packL M)) := o1.all (pack_byt M hok)
       have hp1 := o1.room_le hK0
       have hp2 : K ≤ p1 ∧ p1 ≤ 9223372036854775807 := by simp only [maxLen] at hp1; omega
       have HG4 : Hid (g1 < t3.heap.size) := o1.lt.2
       clear o1 hp1
       clear b3 e0 e1 e2 e3 e4
       have hq : (if p1 = k1 then some (⟨g1, 0, none⟩ : Addr) else some ⟨g1, k1, none⟩) = some ⟨g1, k1, none⟩ := by rw [if_neg (by have := HK1.out; omega)]
       have hp5 : (kk : Int) ≤ (p1 : Int) := by omega
       have hp6 : kk ≤ p1 := by omega
       have hp7 : (K4 : Int) ≤ (p1 : Int) := by omega
       have hp8 : K4 ≤ p1 := by omega
       have HRX : Hid (Reads t3 (some ⟨g1, k1, none⟩) R1 (((packL M).drop k1).take R1)) := by
         have h9 := (HO4.out.drop k1 hb5).front R1 hb9
         rw [Nat.zero_add] at h9
         exact h9
       have HRY : Hid (Reads t3 (some ⟨g1, k1, none⟩) (K - 4 - k1) (((packL M).drop k1).take R1)) := (by unfold Hid; rw [HRR.out]; exact HRX.out)
       have TA : Hid True := trivial)
    | (at_builtin; have zz := TA; clear TA zz; refine wpList_append_reads rfl (.tmp 38) (.tmp 41) rfl t3.heap.size (.slice (some ⟨t3.heap.size, 0, none⟩) 0 0) 0 [] rfl (own_empty' t3 t3.heap.size rfl) (some ⟨g1, 0, none⟩) kk p1 ((packL M).take kk) rfl ((HO4.out.front kk (by omega)).below (below_alloc _ _)) (by omega) (by simp) ?_; intro v1 w1 own1 grow1; simp only [Nat.zero_add, List.nil_append] at own1
       have HB6 : Hid (Below t3.heap.size t3 w1) := (below_alloc t3 _).grown grow1 (by simp) (fun q hq => ((own_empty' t3 t3.heap.size rfl).lt q hq).1)
       have HO6 : Hid (w1.ownsRow t3.heap.size 5 1 v1 kk (((packL M).take kk).map (Value.int .u8))) := own1
       have TB : Hid True := trivial
       clear own1 grow1)
    | (at_builtin; have zz := TB; clear TB zz; refine wpList_append_reads rfl (.tmp 45) (.tmp 47) rfl t3.heap.size v1 (kk) ((packL M).take kk) rfl (HO6.out.alloc _) (some ⟨w1.heap.size, 0, none⟩) 1 1 [x] rfl (reads_alloc w1 [x] (by intro y hy; rw [List.mem_singleton.1 hy]; omega)) (by omega) (by have := HB6.out.size; simp; omega) ?_; intro v2 w2 own2 grow2
       have HB7 : Hid (Below t3.heap.size t3 w2) := (HB6.out.alloc HB6.out.size _).grown grow2 (by have := HB6.out.size; simp; omega) (fun q hq => (HO6.out.lt q hq).1)
       have HO7 : Hid (w2.ownsRow t3.heap.size 5 1 v2 (kk + 1) (((packL M).take kk ++ [x]).map (Value.int .u8))) := own2
       have TC : Hid True := trivial
       have cz : w2.cell? ⟨g1, kk, none⟩ = some (.int .u8 z) := by
         have h9 := (HO4.out.below HB7.out).2.2.2 _ rfl kk (by omega)
         rw [plain_add, Nat.zero_add, HZ.out] at h9
         exact h9
       clear own2 grow2)
    | (at_builtin; have zz := TC; clear TC zz; refine wpList_append_reads rfl (.tmp 51) (.tmp 56) rfl t3.heap.size v2 (kk + 1) ((packL M).take kk ++ [x]) rfl (HO7.out.alloc _) (some ⟨w2.heap.size, 0, none⟩) 1 1 [z] rfl (reads_alloc w2 [z] (by intro y hy; rw [List.mem_singleton.1 hy]; omega)) (by omega) (by have := HB7.out.size; simp; omega) ?_; intro v3 w3 own2 grow2
       have HB8 : Hid (Below t3.heap.size t3 w3) := (HB7.out.alloc HB7.out.size _).grown grow2 (by have := HB7.out.size; simp; omega) (fun q hq => (HO7.out.lt q hq).1)
       have HO8 : Hid (w3.ownsRow t3.heap.size 5 1 v3 (kk + 1 + 1) (((packL M).take kk ++ [x] ++ [z]).map (Value.int .u8))) := own2
       have TD : Hid True := trivial
       clear own2 grow2)
    | (at_builtin; have zz := TD; clear TD zz; refine wpList_append_reads rfl (.tmp 58) (.tmp 65) rfl t3.heap.size v3 (kk + 1 + 1) ((packL M).take kk ++ [x] ++ [z]) rfl HO8.out (some ⟨g1, k1, none⟩) (K - 4 - k1) (p1 - k1) (((packL M).drop k1).take R1) rfl (HRY.out.below HB8.out) (by omega) HB8.out.size ?_; intro v4 w4 own4 grow4; rw [HNN.out] at own4; obtain ⟨g4, c4, rfl, hc41, hc42, hg41, hg42⟩ := own_shape own4 HNP.out
       have HB9 : Hid (Below t3.heap.size t3 w4) := HB8.out.grown grow4 HB8.out.size (fun q hq => (HO8.out.lt q hq).1)
       have HF9 : Hid (Reads w4 (some ⟨g4, 0, none⟩) N F) := by have h9 := Own.all own4 (by rw [HFE.out]; exact HFB.out); rw [HFE.out] at h9; exact h9
       have HT9 : Hid (Tab w4) := HT4.out.below HB9.out
       have HBB : Hid (Below w.heap.size w w4) := below_trans HB4.out HB9.out
       clear own4 grow4 hc41 hc42 hg41 hg42)
    | (go_at_call 15; refine (large_fn g4 0 _ _ F _ HF9.out (by omega)).mono ?_; rintro e t5 ⟨q5, rfl, ht5⟩; rw [HLG.out, ht5]
       have HFA : Hid (Reads (w4.drewN q5) (some ⟨g4, 0, none⟩) N F) := HF9.out.drewN q5
       have HTA : Hid (Tab (w4.drewN q5)) := HT9.out.drewN q5
       have HBC : Hid (Below w.heap.size w (w4.drewN q5)) := ⟨HBB.out.os, HBB.out.tape, HBB.out.output, HBB.out.size, HBB.out.block⟩
       clear ht5)
    | (go_at_call 17; refine (sealed_any (some ⟨g4, 0, none⟩) N _ F _ HFA.out (by omega) HTA.out).mono ?_; rintro e t6 ⟨g6, c6, rfl, o6, b6⟩; rw [HN4.out] at o6 ⊢
       have HO5 : Hid (Reads t6 (some ⟨g6, 0, none⟩) N4 (sealL F)) := o6.all HSB.out
       have hp9 := o6.room_le (by omega)
       have hpA : N4 ≤ c6 ∧ c6 ≤ 9223372036854775807 := by simp only [maxLen] at hp9; omega
       have HG6 : Hid (g6 < t6.heap.size) := o6.lt.2
       have HTC : Hid (Tab t6) := HTA.out.below b6
       have HBD : Hid (Below w.heap.size w t6) := below_trans HBC.out b6
       clear o6 hp9 b6)
    | (go_at_call 13; refine (read_n g6 0 N4 c6 (sealL F) _ HSL.out HO5.out (by omega) hpA.1 hpA.2 HG6.out HTC.out).mono ?_; rintro e t7 ⟨res, b7⟩
       rw [HRE.out] at res
       obtain ⟨rfl, hy0⟩ := res
       have hy1 : (y == 0) = false := (by rw [beq_eq_false_iff_ne]; exact hy0)
       have hy2 : ¬ y = 0 := hy0
       have HBE : Hid (Below w.heap.size w (t7.alloc (.cells #[.int .i64 0, .int .i64 0, .int .i64 0, .slice none 0 0, .slice none 0 0] 27))) := below_trans HBD.out (below_trans b7 (below_alloc _ _))
       have HXE : Hid ((t7.alloc (.cells #[.int .i64 0, .int .i64 0, .int .i64 0, .slice none 0 0, .slice none 0 0] 27)).heap[t7.heap.size]? = some (.cells #[.int .i64 0, .int .i64 0, .int .i64 0, .slice none 0 0, .slice none 0 0] 27 (0, 0))) := heap_alloc_new _ _
       obtain ⟨i0, i1, i2, i3, i4⟩ := cells5 HXE.out
       clear b7))
  go_ret
  exact ⟨rfl, HBE.out⟩

set_option maxHeartbeats 4000000 in
set_option maxRecDepth 100000 in
theorem canon_ok1 (b p s : Int) (a a' : Option Addr) (n c m c' : Nat) (zs : List Int) (bs : List Bool) (k x : Int) (w : World) (hn : n ≤ 140737488351232) (hm : m ≤ 140737488351232) (hr : Reads w a n zs) (hrb : ReadsB w a' m bs) (hnc : n ≤ c) (hc : c ≤ 9223372036854775807) (hk : -9223372036854775808 ≤ k ∧ k ≤ 9223372036854775807) (hx : 0 ≤ x ∧ x ≤ 255) (ht : Tab w) (hE : chkE b p s n m = 0) (hk0 : 0 ≤ k) (hkK : k < ((packL (⟨b.toNat, p.toNat, s.toNat, zs, bs⟩ : Img)).length : Int) - 4) (hLG : lrg (bentL (packL (⟨b.toNat, p.toNat, s.toNat, zs, bs⟩ : Img)) k.toNat [x, (packL (⟨b.toNat, p.toNat, s.toNat, zs, bs⟩ : Img)).getD k.toNat 0]) = false) (Y : Img) (hRE : readR (sealL (bentL (packL (⟨b.toNat, p.toNat, s.toNat, zs, bs⟩ : Img)) k.toNat [x, (packL (⟨b.toNat, p.toNat, s.toNat, zs, bs⟩ : Img)).getD k.toNat 0])) = .ok Y) :
    Calls Tryd.prog 6 #[.agg #[.int .i64 b, .int .i64 p, .int .i64 s, .slice a n c, .slice a' m c'], .int .i64 k, .int .u8 x, .int .i64 1] w fun e w' => e = .returned (.bool true) ∧ Below w.heap.size w w' := by
  obtain ⟨M, hok, hMb, hMp, hMs, hMc, hMm, hMn⟩ := img_of hE hr.1 hrb.1 hr.2.1
  have HPOS : Hid (0 < n) := by
    unfold Hid
    obtain ⟨q1, q2, q3, q4, q5, q6, q7⟩ := fits_nat hok.1
    have h9 := hok.2.1
    rw [hMc, hr.1] at h9
    rw [h9]
    exact Nat.mul_pos (Nat.mul_pos (by omega) (by omega)) (by unfold Img.S; omega)
  obtain ⟨K, hK⟩ : ∃ K, (packL M).length = K := ⟨_, rfl⟩
  have HKL : Hid ((packL M).length = K) := hK
  have hMM : (⟨b.toNat, p.toNat, s.toNat, zs, bs⟩ : Img) = M := by obtain ⟨y1, y2, y3, y4, y5⟩ := M; simp only at hMb hMp hMs hMc hMm; subst hMc hMm; simp [hMb, hMp, hMs]
  rw [hMM, hK] at hkK
  rw [hMM] at hLG
  rw [hMM] at hRE
  clear hMM
  have hK9 := pack_len M hok
  rw [hK] at hK9
  have hK0 : 0 < K := by
    rw [← hK, packL, sealL, List.length_append]
    have h5 : (le4 (sumL (nats (bodyL M)))).length = 4 := rfl
    omega
  have hK14 : 14 ≤ K := by
    have hb := packS_bound M.C (M.C + M.S) (chunks (M.C + M.S) (M.b * M.p) M.cs) ⟨headL M.b M.p M.s M.ms, 0, 0⟩ [] (chunks_len _ _ _ hok.2.1) (by omega) (by rw [head_len]; omega) (by simp)
    have h2 : (headL M.b M.p M.s M.ms).length ≤ (bodyL M).length := hb.1
    rw [head_len] at h2
    rw [← hK, packL, sealL, List.length_append]
    have h5 : (le4 (sumL (nats (bodyL M)))).length = 4 := rfl
    omega
  have HMs : Hid (b = (M.b : Int) ∧ p = (M.p : Int) ∧ s = (M.s : Int) ∧ M.cs = zs ∧ M.ms = bs ∧ M.b = m) := ⟨hMb, hMp, hMs, hMc, hMm, hMn⟩
  clear hE hK hMb hMp hMs hMc hMm hMn
  have hn2 : n ≤ 140737488355000 := by omega
  have hm2 : m ≤ 140737488355000 := by omega
  have HT1 : Hid (Tab (w.alloc (.cells #[.int .i64 b, .int .i64 p, .int .i64 s, .slice a n c, .slice a' m c'] 27))) := ht.below (below_alloc w _)
  have HR1 : Hid (Reads (w.alloc (.cells #[.int .i64 b, .int .i64 p, .int .i64 s, .slice a n c, .slice a' m c'] 27)) a n zs) := hr.below (below_alloc w _)
  have HM1 : Hid (ReadsB (w.alloc (.cells #[.int .i64 b, .int .i64 p, .int .i64 s, .slice a n c, .slice a' m c'] 27)) a' m bs) := hrb.below (below_alloc w _)
  have HX1 : Hid ((w.alloc (.cells #[.int .i64 b, .int .i64 p, .int .i64 s, .slice a n c, .slice a' m c'] 27)).heap[w.heap.size]? = some (.cells #[.int .i64 b, .int .i64 p, .int .i64 s, .slice a n c, .slice a' m c'] 27 (0, 0))) := heap_alloc_new _ _
  have HB1 : Hid (Below w.heap.size w (w.alloc (.cells #[.int .i64 b, .int .i64 p, .int .i64 s, .slice a n c, .slice a' m c'] 27))) := below_alloc w _
  obtain ⟨e0, e1, e2, e3, e4⟩ := cells5 HX1.out
  clear hr hrb ht
  obtain ⟨kk, rfl⟩ := Int.eq_ofNat_of_zero_le hk0
  have T3 : Hid True := trivial
  have fK : ¬ (K : Int) < 4 := by omega
  have f1 : ¬ (kk : Int) < 0 := by omega
  obtain ⟨K4, hK4⟩ : ∃ K4, K4 = K - 4 := ⟨_, rfl⟩
  obtain ⟨k1, hk1⟩ : ∃ k1, k1 = kk + 1 := ⟨_, rfl⟩
  obtain ⟨R1, hR1⟩ : ∃ R1, K4 - k1 = R1 := ⟨_, rfl⟩
  have e4 : (K : Int) - 4 = (K4 : Int) := by omega
  have f2 : ¬ (K4 : Int) ≤ (kk : Int) := by omega
  have f4 : ¬ (K : Int) - 4 ≤ (kk : Int) := by omega
  have ek : (kk : Int) + 1 = (k1 : Int) := by omega
  have f3 : (k1 : Int) ≤ (K4 : Int) := by omega
  have hk1s : k1 ≤ K4 ∧ K4 + 4 = K := by omega
  have hkk : kk < K4 := by omega
  simp only [Int.toNat_natCast] at hLG
  simp only [Int.toNat_natCast] at hRE
  obtain ⟨z, hz⟩ : ∃ z, (packL M).getD kk 0 = z := ⟨_, rfl⟩
  have HZ : Hid ((packL M).getD kk 0 = z) := hz
  rw [hz] at hLG
  rw [hz] at hRE
  have hzb : 0 ≤ z ∧ z ≤ 255 := by
    rw [← hz, List.getD_eq_getElem?_getD, List.getElem?_eq_getElem (by rw [HKL.out]; omega)]
    exact pack_byt M hok _ (List.getElem_mem _)
  clear hz
  obtain ⟨F, hF⟩ : ∃ F, bentL (packL M) kk [x, z] = F := ⟨_, rfl⟩
  have HLG : Hid (lrg F = false) := by unfold Hid; rw [← hF]; exact hLG
  have HRE : Hid (readR (sealL F) = .ok Y) := by unfold Hid; rw [← hF]; exact hRE
  clear hRE
  have HFE : Hid ((packL M).take kk ++ [x] ++ [z] ++ ((packL M).drop k1).take R1 = F) := by unfold Hid; rw [← hF, bentL, HKL.out, ← hR1, hK4, hk1]; try simp
  obtain ⟨N, hN⟩ : ∃ N, kk + 1 + 1 + R1 = N := ⟨_, rfl⟩
  have HRR : Hid (K - 4 - k1 = R1) := by unfold Hid; omega
  have HNN : Hid (kk + 1 + 1 + (K - 4 - k1) = N) := by unfold Hid; rw [HRR.out]; exact hN
  have HFB : Hid (Byt F) := by
    unfold Hid
    rw [← HFE.out]
    intro y hy
    simp only [List.mem_append, List.mem_singleton] at hy
    have q1 : ∀ y, y ∈ (packL M).take kk → 0 ≤ y ∧ y ≤ 255 := fun y hy => pack_byt M hok y (List.mem_of_mem_take hy)
    have q2 : ∀ y, y ∈ ((packL M).drop k1).take R1 → 0 ≤ y ∧ y ≤ 255 := fun y hy => pack_byt M hok y (List.mem_of_mem_drop (List.mem_of_mem_take hy))
    rcases hy with ((hy | hy) | hy) | hy
    · exact q1 y hy
    · rw [hy]; exact hx
    · rw [hy]; exact hzb
    · exact q2 y hy
  have hNb : N ≤ K + 2 := by omega
  have hNp : 0 < N + 4 := by omega
  have HNP : Hid (0 < N) := by unfold Hid; omega
  obtain ⟨N4, hN4⟩ : ∃ N4, N + 4 = N4 := ⟨_, rfl⟩
  have HN4 : Hid (N + 4 = N4) := hN4
  have hFl : F.length = N := by
    rw [← HFE.out, ← hN]
    simp only [List.length_append, List.length_take, List.length_drop, HKL.out, List.length_cons, List.length_nil]
    omega
  have HSL : Hid ((sealL F).length = N4) := by unfold Hid; rw [sealL, List.length_append, hFl]; exact hN4
  have HSB : Hid (Byt (sealL F)) := by
    unfold Hid
    intro y hy
    rcases List.mem_append.1 hy with hy | hy
    · exact HFB.out y hy
    · exact le4_byt _ y hy
  have hN40 : 0 < N4 := by omega
  have hN4b : N4 ≤ K + 6 := by omega
  have HYC : Hid (Y.Ok ∧ packL Y = sealL F) := canon HSB.out HRE.out
  have HYK : Hid Y.Ok := HYC.out.1
  have HYE : Hid (packL Y = sealL F) := HYC.out.2
  obtain ⟨yn, hyn⟩ : ∃ yn, Y.cs.length = yn := ⟨_, rfl⟩
  have HYN : Hid (Y.cs.length = yn) := hyn
  have HYP : Hid (0 < yn) := by
    unfold Hid
    obtain ⟨q1, q2, q3, q4, q5, q6, q7⟩ := fits_nat HYK.out.1
    have h9 := HYK.out.2.1
    rw [hyn] at h9
    rw [h9]
    exact Nat.mul_pos (Nat.mul_pos (by omega) (by omega)) (by unfold Img.S; omega)
  clear HYC hyn
  have HK1 : Hid (k1 = kk + 1 ∧ K4 = K - 4 ∧ k1 ≤ K4 ∧ K4 + 4 = K ∧ K4 - k1 = R1) := ⟨hk1, hK4, hk1s.1, hk1s.2, hR1⟩
  have hb5 : k1 ≤ K := by omega
  have hb6 : K4 ≤ K := by omega
  have hb7 : kk ≤ K := by omega
  have hb8 : 9 ≤ K4 := by omega
  have hb9 : R1 ≤ K - k1 := by omega
  have er : (K4 : Int) - (k1 : Int) = (R1 : Int) := by omega
  have er2 : ((K4 - k1 : Nat) : Int) = (R1 : Int) := by omega
  have er3 : K4 - k1 = R1 := hR1
  clear hLG hF hk0 hkK hk1 hK4 hk1s hR1 hN hN4 hFl
  go_enter Tryd.func6, Tryd.ntmps6
  go_wp2_with (first
    | (go_at_call 9; refine (heads_any _ HT1.out).mono ?_; rintro e t1 ⟨rfl, b1⟩
       have HX2 : Hid (t1.heap[w.heap.size]? = some (.cells #[.int .i64 b, .int .i64 p, .int .i64 s, .slice a n c, .slice a' m c'] 27 (0, 0))) := (b1.block _ (Array.getElem?_eq_some_iff.1 HX1.out).1).trans HX1.out
       have HB2 : Hid (Below w.heap.size w t1) := below_trans HB1.out b1
       have HT2 : Hid (Tab t1) := HT1.out.below b1
       have HR2 : Hid (Reads t1 a n zs) := HR1.out.below b1
       have HM2 : Hid (ReadsB t1 a' m bs) := HM1.out.below b1
       clear b1 e0 e1 e2 e3 e4
       obtain ⟨e0, e1, e2, e3, e4⟩ := cells5 HX2.out)
    | (go_at_call 12; refine (no_any _ _).mono ?_; rintro e t9 ⟨rfl, ht9⟩; rw [ht9]; clear ht9)
    | (go_at_call 11; have zz := T3; clear T3 zz; refine (packs_n hok HMs.out.1 HMs.out.2.1 HMs.out.2.2.1 HMs.out.2.2.2.1 HMs.out.2.2.2.2.1 HMs.out.2.2.2.2.2 _ HR2.out HM2.out HPOS.out hnc hc HT2.out).mono ?_; rintro e t3 ⟨g1, p1, rfl, o1, b3⟩; rw [HKL.out] at o1 ⊢
       have HX4 : Hid (t3.heap[w.heap.size]? = some (.cells #[.int .i64 b, .int .i64 p, .int .i64 s, .slice a n c, .slice a' m c'] 27 (0, 0))) := (b3.block _ (Array.getElem?_eq_some_iff.1 HX2.out).1).trans HX2.out
       have HB4 : Hid (Below w.heap.size w t3) := below_trans HB2.out b3
       have HT4 : Hid (Tab t3) := HT2.out.below b3
       have HR4 : Hid (Reads t3 a n zs) := HR2.out.below b3
       have HM4 : Hid (ReadsB t3 a' m bs) := HM2.out.below b3
       have HO4 : Hid (Reads t3 (some ⟨g1, 0, none⟩) K (packL M)) := o1.all (pack_byt M hok)
       have hp1 := o1.room_le hK0
       have hp2 : K ≤ p1 ∧ p1 ≤ 9223372036854775807 := by simp only [maxLen] at hp1; omega
       have HG4 : Hid (g1 < t3.heap.size) := o1.lt.2
       clear o1 hp1
       clear b3 e0 e1 e2 e3 e4
       have hq : (if p1 = k1 then some (⟨g1, 0, none⟩ : Addr) else some ⟨g1, k1, none⟩) = some ⟨g1, k1, none⟩ := by rw [if_neg (by have := HK1.out; omega)]
       have hp5 : (kk : Int) ≤ (p1 : Int) := by omega
       have hp6 : kk ≤ p1 := by omega
       have hp7 : (K4 : Int) ≤ (p1 : Int) := by omega
       have hp8 : K4 ≤ p1 := by omega
       have HRX : Hid (Reads t3 (some ⟨g1, k1, none⟩) R1 (((packL M).drop k1).take R1)) := by
         have h9 := (HO4.out.drop k1 hb5).front R1 hb9
         rw [Nat.zero_add] at h9
         exact h9
       have HRY : Hid (Reads t3 (some ⟨g1, k1, none⟩) (K - 4 - k1) (((packL M).drop k1).take R1)) := (by unfold Hid; rw [HRR.out]; exact HRX.out)
       have TA : Hid True := trivial)
    | (at_builtin; have zz := TA; clear TA zz; refine wpList_append_reads rfl (.tmp 38) (.tmp 41) rfl t3.heap.size (.slice (some ⟨t3.heap.size, 0, none⟩) 0 0) 0 [] rfl (own_empty' t3 t3.heap.size rfl) (some ⟨g1, 0, none⟩) kk p1 ((packL M).take kk) rfl ((HO4.out.front kk (by omega)).below (below_alloc _ _)) (by omega) (by simp) ?_; intro v1 w1 own1 grow1; simp only [Nat.zero_add, List.nil_append] at own1
       have HB6 : Hid (Below t3.heap.size t3 w1) := (below_alloc t3 _).grown grow1 (by simp) (fun q hq => ((own_empty' t3 t3.heap.size rfl).lt q hq).1)
       have HO6 : Hid (w1.ownsRow t3.heap.size 5 1 v1 kk (((packL M).take kk).map (Value.int .u8))) := own1
       have TB : Hid True := trivial
       clear own1 grow1)
    | (at_builtin; have zz := TB; clear TB zz; refine wpList_append_reads rfl (.tmp 45) (.tmp 47) rfl t3.heap.size v1 (kk) ((packL M).take kk) rfl (HO6.out.alloc _) (some ⟨w1.heap.size, 0, none⟩) 1 1 [x] rfl (reads_alloc w1 [x] (by intro y hy; rw [List.mem_singleton.1 hy]; omega)) (by omega) (by have := HB6.out.size; simp; omega) ?_; intro v2 w2 own2 grow2
       have HB7 : Hid (Below t3.heap.size t3 w2) := (HB6.out.alloc HB6.out.size _).grown grow2 (by have := HB6.out.size; simp; omega) (fun q hq => (HO6.out.lt q hq).1)
       have HO7 : Hid (w2.ownsRow t3.heap.size 5 1 v2 (kk + 1) (((packL M).take kk ++ [x]).map (Value.int .u8))) := own2
       have TC : Hid True := trivial
       have cz : w2.cell? ⟨g1, kk, none⟩ = some (.int .u8 z) := by
         have h9 := (HO4.out.below HB7.out).2.2.2 _ rfl kk (by omega)
         rw [plain_add, Nat.zero_add, HZ.out] at h9
         exact h9
       clear own2 grow2)
    | (at_builtin; have zz := TC; clear TC zz; refine wpList_append_reads rfl (.tmp 51) (.tmp 56) rfl t3.heap.size v2 (kk + 1) ((packL M).take kk ++ [x]) rfl (HO7.out.alloc _) (some ⟨w2.heap.size, 0, none⟩) 1 1 [z] rfl (reads_alloc w2 [z] (by intro y hy; rw [List.mem_singleton.1 hy]; omega)) (by omega) (by have := HB7.out.size; simp; omega) ?_; intro v3 w3 own2 grow2
       have HB8 : Hid (Below t3.heap.size t3 w3) := (HB7.out.alloc HB7.out.size _).grown grow2 (by have := HB7.out.size; simp; omega) (fun q hq => (HO7.out.lt q hq).1)
       have HO8 : Hid (w3.ownsRow t3.heap.size 5 1 v3 (kk + 1 + 1) (((packL M).take kk ++ [x] ++ [z]).map (Value.int .u8))) := own2
       have TD : Hid True := trivial
       clear own2 grow2)
    | (at_builtin; have zz := TD; clear TD zz; refine wpList_append_reads rfl (.tmp 58) (.tmp 65) rfl t3.heap.size v3 (kk + 1 + 1) ((packL M).take kk ++ [x] ++ [z]) rfl HO8.out (some ⟨g1, k1, none⟩) (K - 4 - k1) (p1 - k1) (((packL M).drop k1).take R1) rfl (HRY.out.below HB8.out) (by omega) HB8.out.size ?_; intro v4 w4 own4 grow4; rw [HNN.out] at own4; obtain ⟨g4, c4, rfl, hc41, hc42, hg41, hg42⟩ := own_shape own4 HNP.out
       have HB9 : Hid (Below t3.heap.size t3 w4) := HB8.out.grown grow4 HB8.out.size (fun q hq => (HO8.out.lt q hq).1)
       have HF9 : Hid (Reads w4 (some ⟨g4, 0, none⟩) N F) := by have h9 := Own.all own4 (by rw [HFE.out]; exact HFB.out); rw [HFE.out] at h9; exact h9
       have HT9 : Hid (Tab w4) := HT4.out.below HB9.out
       have HBB : Hid (Below w.heap.size w w4) := below_trans HB4.out HB9.out
       clear own4 grow4 hc41 hc42 hg41 hg42)
    | (go_at_call 15; refine (large_fn g4 0 _ _ F _ HF9.out (by omega)).mono ?_; rintro e t5 ⟨q5, rfl, ht5⟩; rw [HLG.out, ht5]
       have HFA : Hid (Reads (w4.drewN q5) (some ⟨g4, 0, none⟩) N F) := HF9.out.drewN q5
       have HTA : Hid (Tab (w4.drewN q5)) := HT9.out.drewN q5
       have HBC : Hid (Below w.heap.size w (w4.drewN q5)) := ⟨HBB.out.os, HBB.out.tape, HBB.out.output, HBB.out.size, HBB.out.block⟩
       clear ht5)
    | (go_at_call 17; refine (sealed_any (some ⟨g4, 0, none⟩) N _ F _ HFA.out (by omega) HTA.out).mono ?_; rintro e t6 ⟨g6, c6, rfl, o6, b6⟩; rw [HN4.out] at o6 ⊢
       have HO5 : Hid (Reads t6 (some ⟨g6, 0, none⟩) N4 (sealL F)) := o6.all HSB.out
       have hp9 := o6.room_le (by omega)
       have hpA : N4 ≤ c6 ∧ c6 ≤ 9223372036854775807 := by simp only [maxLen] at hp9; omega
       have HG6 : Hid (g6 < t6.heap.size) := o6.lt.2
       have HTC : Hid (Tab t6) := HTA.out.below b6
       have HBD : Hid (Below w.heap.size w t6) := below_trans HBC.out b6
       clear o6 hp9 b6)
    | (go_at_call 13; refine (read_n g6 0 N4 c6 (sealL F) _ HSL.out HO5.out (by omega) hpA.1 hpA.2 HG6.out HTC.out).mono ?_; rintro e t7 ⟨res, b7⟩
       rw [HRE.out] at res
       obtain ⟨g7, c7, gm, rfl, o7, m7⟩ := res
       rw [HYN.out] at o7 ⊢
       have hpB := o7.room_le HYP.out
       have hpC : yn ≤ c7 ∧ c7 ≤ 9223372036854775807 := by simp only [maxLen] at hpB; omega
       have HR7 : Hid (Reads t7 (some ⟨g7, 0, none⟩) yn Y.cs) := o7.all HYK.out.2.2.2
       have HM7 : Hid (ReadsB t7 (some ⟨gm, 0, none⟩) Y.b Y.ms) := (by have h9 := m7.reads Y.b (Nat.le_refl _); rw [List.take_of_length_le (Nat.le_of_eq HYK.out.2.2.1)] at h9; exact h9)
       have HT7 : Hid (Tab t7) := HTC.out.below b7
       have HO7 : Hid (Reads t7 (some ⟨g6, 0, none⟩) N4 (sealL F)) := HO5.out.below b7
       have HB7Z : Hid (Below w.heap.size w t7) := below_trans HBD.out b7
       have HT8 : Hid (Tab (t7.alloc (.cells #[.int .i64 (Y.b : Int), .int .i64 (Y.p : Int), .int .i64 (Y.s : Int), .slice (some ⟨g7, 0, none⟩) yn c7, .slice (some ⟨gm, 0, none⟩) Y.b Y.b] 27))) := HT7.out.below (below_alloc _ _)
       have HR8 : Hid (Reads (t7.alloc (.cells #[.int .i64 (Y.b : Int), .int .i64 (Y.p : Int), .int .i64 (Y.s : Int), .slice (some ⟨g7, 0, none⟩) yn c7, .slice (some ⟨gm, 0, none⟩) Y.b Y.b] 27)) (some ⟨g7, 0, none⟩) yn Y.cs) := HR7.out.below (below_alloc _ _)
       have HM8 : Hid (ReadsB (t7.alloc (.cells #[.int .i64 (Y.b : Int), .int .i64 (Y.p : Int), .int .i64 (Y.s : Int), .slice (some ⟨g7, 0, none⟩) yn c7, .slice (some ⟨gm, 0, none⟩) Y.b Y.b] 27)) (some ⟨gm, 0, none⟩) Y.b Y.ms) := HM7.out.below (below_alloc _ _)
       have HX8 : Hid ((t7.alloc (.cells #[.int .i64 (Y.b : Int), .int .i64 (Y.p : Int), .int .i64 (Y.s : Int), .slice (some ⟨g7, 0, none⟩) yn c7, .slice (some ⟨gm, 0, none⟩) Y.b Y.b] 27)).heap[t7.heap.size]? = some (.cells #[.int .i64 (Y.b : Int), .int .i64 (Y.p : Int), .int .i64 (Y.s : Int), .slice (some ⟨g7, 0, none⟩) yn c7, .slice (some ⟨gm, 0, none⟩) Y.b Y.b] 27 (0, 0))) := heap_alloc_new _ _
       obtain ⟨i0, i1, i2, i3, i4⟩ := cells5 HX8.out
       have TZ : Hid True := trivial
       clear b7 o7 m7 hpB)
    | (go_at_call 11; have zz := TZ; clear TZ zz; refine (packs_n HYK.out rfl rfl rfl rfl rfl rfl _ HR8.out HM8.out HYP.out hpC.1 hpC.2 HT8.out).mono ?_; rintro e t8 ⟨g8, p8, rfl, o8, b8⟩; rw [HYE.out, HSL.out] at o8 ⊢
       have HO8 : Hid (Reads t8 (some ⟨g8, 0, none⟩) N4 (sealL F)) := o8.all HSB.out
       have HO9 : Hid (Reads t8 (some ⟨g6, 0, none⟩) N4 (sealL F)) := (HO7.out.below (below_alloc _ _)).below b8
       have HBE : Hid (Below w.heap.size w t8) := below_trans HB7Z.out (below_trans (below_alloc _ _) b8)
       clear o8 b8)
    | (go_at_call 16; refine (same_eq _ _ _ _ _ (sealL F) _ HO8.out HO9.out).mono ?_; rintro e t9 ⟨rfl, hu9⟩; rw [hu9]; clear hu9))
  go_ret
  exact ⟨rfl, HBE.out⟩
set_option maxHeartbeats 4000000 in
set_option maxRecDepth 100000 in
theorem canon_lg0 (b p s : Int) (a a' : Option Addr) (n c m c' : Nat) (zs : List Int) (bs : List Bool) (k x h : Int) (w : World) (hn : n ≤ 140737488351232) (hm : m ≤ 140737488351232) (hr : Reads w a n zs) (hrb : ReadsB w a' m bs) (hnc : n ≤ c) (hc : c ≤ 9223372036854775807) (hk : -9223372036854775808 ≤ k ∧ k ≤ 9223372036854775807) (hx : 0 ≤ x ∧ x ≤ 255) (hh1 : (h == 1) = false) (hh2 : (h == 2) = false) (ht : Tab w) (hE : chkE b p s n m = 0) (hk0 : 0 ≤ k) (hkK : k < ((packL (⟨b.toNat, p.toNat, s.toNat, zs, bs⟩ : Img)).length : Int) - 4) (hLG : lrg (bentL (packL (⟨b.toNat, p.toNat, s.toNat, zs, bs⟩ : Img)) k.toNat [x]) = true) :
    Calls Tryd.prog 6 #[.agg #[.int .i64 b, .int .i64 p, .int .i64 s, .slice a n c, .slice a' m c'], .int .i64 k, .int .u8 x, .int .i64 h] w fun e w' => e = .returned (.bool true) ∧ Below w.heap.size w w' := by
  obtain ⟨M, hok, hMb, hMp, hMs, hMc, hMm, hMn⟩ := img_of hE hr.1 hrb.1 hr.2.1
  have HPOS : Hid (0 < n) := by
    unfold Hid
    obtain ⟨q1, q2, q3, q4, q5, q6, q7⟩ := fits_nat hok.1
    have h9 := hok.2.1
    rw [hMc, hr.1] at h9
    rw [h9]
    exact Nat.mul_pos (Nat.mul_pos (by omega) (by omega)) (by unfold Img.S; omega)
  obtain ⟨K, hK⟩ : ∃ K, (packL M).length = K := ⟨_, rfl⟩
  have HKL : Hid ((packL M).length = K) := hK
  have hMM : (⟨b.toNat, p.toNat, s.toNat, zs, bs⟩ : Img) = M := by obtain ⟨y1, y2, y3, y4, y5⟩ := M; simp only at hMb hMp hMs hMc hMm; subst hMc hMm; simp [hMb, hMp, hMs]
  rw [hMM, hK] at hkK
  rw [hMM] at hLG
  clear hMM
  have hK9 := pack_len M hok
  rw [hK] at hK9
  have hK0 : 0 < K := by
    rw [← hK, packL, sealL, List.length_append]
    have h5 : (le4 (sumL (nats (bodyL M)))).length = 4 := rfl
    omega
  have hK14 : 14 ≤ K := by
    have hb := packS_bound M.C (M.C + M.S) (chunks (M.C + M.S) (M.b * M.p) M.cs) ⟨headL M.b M.p M.s M.ms, 0, 0⟩ [] (chunks_len _ _ _ hok.2.1) (by omega) (by rw [head_len]; omega) (by simp)
    have h2 : (headL M.b M.p M.s M.ms).length ≤ (bodyL M).length := hb.1
    rw [head_len] at h2
    rw [← hK, packL, sealL, List.length_append]
    have h5 : (le4 (sumL (nats (bodyL M)))).length = 4 := rfl
    omega
  have HMs : Hid (b = (M.b : Int) ∧ p = (M.p : Int) ∧ s = (M.s : Int) ∧ M.cs = zs ∧ M.ms = bs ∧ M.b = m) := ⟨hMb, hMp, hMs, hMc, hMm, hMn⟩
  clear hE hK hMb hMp hMs hMc hMm hMn
  have hn2 : n ≤ 140737488355000 := by omega
  have hm2 : m ≤ 140737488355000 := by omega
  have HT1 : Hid (Tab (w.alloc (.cells #[.int .i64 b, .int .i64 p, .int .i64 s, .slice a n c, .slice a' m c'] 27))) := ht.below (below_alloc w _)
  have HR1 : Hid (Reads (w.alloc (.cells #[.int .i64 b, .int .i64 p, .int .i64 s, .slice a n c, .slice a' m c'] 27)) a n zs) := hr.below (below_alloc w _)
  have HM1 : Hid (ReadsB (w.alloc (.cells #[.int .i64 b, .int .i64 p, .int .i64 s, .slice a n c, .slice a' m c'] 27)) a' m bs) := hrb.below (below_alloc w _)
  have HX1 : Hid ((w.alloc (.cells #[.int .i64 b, .int .i64 p, .int .i64 s, .slice a n c, .slice a' m c'] 27)).heap[w.heap.size]? = some (.cells #[.int .i64 b, .int .i64 p, .int .i64 s, .slice a n c, .slice a' m c'] 27 (0, 0))) := heap_alloc_new _ _
  have HB1 : Hid (Below w.heap.size w (w.alloc (.cells #[.int .i64 b, .int .i64 p, .int .i64 s, .slice a n c, .slice a' m c'] 27))) := below_alloc w _
  obtain ⟨e0, e1, e2, e3, e4⟩ := cells5 HX1.out
  clear hr hrb ht
  obtain ⟨kk, rfl⟩ := Int.eq_ofNat_of_zero_le hk0
  have T3 : Hid True := trivial
  have fK : ¬ (K : Int) < 4 := by omega
  have f1 : ¬ (kk : Int) < 0 := by omega
  obtain ⟨K4, hK4⟩ : ∃ K4, K4 = K - 4 := ⟨_, rfl⟩
  obtain ⟨k1, hk1⟩ : ∃ k1, k1 = kk + 1 := ⟨_, rfl⟩
  obtain ⟨R1, hR1⟩ : ∃ R1, K4 - k1 = R1 := ⟨_, rfl⟩
  have e4 : (K : Int) - 4 = (K4 : Int) := by omega
  have f2 : ¬ (K4 : Int) ≤ (kk : Int) := by omega
  have f4 : ¬ (K : Int) - 4 ≤ (kk : Int) := by omega
  have ek : (kk : Int) + 1 = (k1 : Int) := by omega
  have f3 : (k1 : Int) ≤ (K4 : Int) := by omega
  have hk1s : k1 ≤ K4 ∧ K4 + 4 = K := by omega
  have hkk : kk < K4 := by omega
  simp only [Int.toNat_natCast] at hLG
  obtain ⟨F, hF⟩ : ∃ F, bentL (packL M) kk [x] = F := ⟨_, rfl⟩
  have HLG : Hid (lrg F = true) := by unfold Hid; rw [← hF]; exact hLG
  have HFE : Hid ((packL M).take kk ++ [x] ++ ((packL M).drop k1).take R1 = F) := by unfold Hid; rw [← hF, bentL, HKL.out, ← hR1, hK4, hk1]; try simp
  obtain ⟨N, hN⟩ : ∃ N, kk + 1 + R1 = N := ⟨_, rfl⟩
  have HRR : Hid (K - 4 - k1 = R1) := by unfold Hid; omega
  have HNN : Hid (kk + 1 + (K - 4 - k1) = N) := by unfold Hid; rw [HRR.out]; exact hN
  have HFB : Hid (Byt F) := by
    unfold Hid
    rw [← HFE.out]
    intro y hy
    simp only [List.mem_append, List.mem_singleton] at hy
    have q1 : ∀ y, y ∈ (packL M).take kk → 0 ≤ y ∧ y ≤ 255 := fun y hy => pack_byt M hok y (List.mem_of_mem_take hy)
    have q2 : ∀ y, y ∈ ((packL M).drop k1).take R1 → 0 ≤ y ∧ y ≤ 255 := fun y hy => pack_byt M hok y (List.mem_of_mem_drop (List.mem_of_mem_take hy))
    rcases hy with (hy | hy) | hy
    · exact q1 y hy
    · rw [hy]; exact hx
    · exact q2 y hy
  have hNb : N ≤ K + 2 := by omega
  have hNp : 0 < N + 4 := by omega
  have HNP : Hid (0 < N) := by unfold Hid; omega
  have HK1 : Hid (k1 = kk + 1 ∧ K4 = K - 4 ∧ k1 ≤ K4 ∧ K4 + 4 = K ∧ K4 - k1 = R1) := ⟨hk1, hK4, hk1s.1, hk1s.2, hR1⟩
  have hb5 : k1 ≤ K := by omega
  have hb6 : K4 ≤ K := by omega
  have hb7 : kk ≤ K := by omega
  have hb8 : 9 ≤ K4 := by omega
  have hb9 : R1 ≤ K - k1 := by omega
  have er : (K4 : Int) - (k1 : Int) = (R1 : Int) := by omega
  have er2 : ((K4 - k1 : Nat) : Int) = (R1 : Int) := by omega
  have er3 : K4 - k1 = R1 := hR1
  clear hLG hF hk0 hkK hk1 hK4 hk1s hR1 hN
  go_enter Tryd.func6, Tryd.ntmps6
  go_wp2_with (first
    | (go_at_call 9; refine (heads_any _ HT1.out).mono ?_; rintro e t1 ⟨rfl, b1⟩
       have HX2 : Hid (t1.heap[w.heap.size]? = some (.cells #[.int .i64 b, .int .i64 p, .int .i64 s, .slice a n c, .slice a' m c'] 27 (0, 0))) := (b1.block _ (Array.getElem?_eq_some_iff.1 HX1.out).1).trans HX1.out
       have HB2 : Hid (Below w.heap.size w t1) := below_trans HB1.out b1
       have HT2 : Hid (Tab t1) := HT1.out.below b1
       have HR2 : Hid (Reads t1 a n zs) := HR1.out.below b1
       have HM2 : Hid (ReadsB t1 a' m bs) := HM1.out.below b1
       clear b1 e0 e1 e2 e3 e4
       obtain ⟨e0, e1, e2, e3, e4⟩ := cells5 HX2.out)
    | (go_at_call 12; refine (no_any _ _).mono ?_; rintro e t9 ⟨rfl, ht9⟩; rw [ht9]; clear ht9)
    | (go_at_call 11; have zz := T3; clear T3 zz; refine (packs_n hok HMs.out.1 HMs.out.2.1 HMs.out.2.2.1 HMs.out.2.2.2.1 HMs.out.2.2.2.2.1 HMs.out.2.2.2.2.2 _ HR2.out HM2.out HPOS.out hnc hc HT2.out).mono ?_; rintro e t3 ⟨g1, p1, rfl, o1, b3⟩; rw [HKL.out] at o1 ⊢
       have HX4 : Hid (t3.heap[w.heap.size]? = some (.cells #[.int .i64 b, .int .i64 p, .int .i64 s, .slice a n c, .slice a' m c'] 27 (0, 0))) := (b3.block _ (Array.getElem?_eq_some_iff.1 HX2.out).1).trans HX2.out
       have HB4 : Hid (Below w.heap.size w t3) := below_trans HB2.out b3
       have HT4 : Hid (Tab t3) := HT2.out.below b3
       have HR4 : Hid (Reads t3 a n zs) := HR2.out.below b3
       have HM4 : Hid (ReadsB t3 a' m bs) := HM2.out.below b3
       have HO4 : Hid (Reads t3 (some ⟨g1, 0, none⟩) K (packL M)) := o1.all (pack_byt M hok)
       have hp1 := o1.room_le hK0
       have hp2 : K ≤ p1 ∧ p1 ≤ 9223372036854775807 := by simp only [maxLen] at hp1; omega
       have HG4 : Hid (g1 < t3.heap.size) := o1.lt.2
       clear o1 hp1
       clear b3 e0 e1 e2 e3 e4
       have hq : (if p1 = k1 then some (⟨g1, 0, none⟩ : Addr) else some ⟨g1, k1, none⟩) = some ⟨g1, k1, none⟩ := by rw [if_neg (by have := HK1.out; omega)]
       have hp5 : (kk : Int) ≤ (p1 : Int) := by omega
       have hp6 : kk ≤ p1 := by omega
       have hp7 : (K4 : Int) ≤ (p1 : Int) := by omega
       have hp8 : K4 ≤ p1 := by omega
       have HRX : Hid (Reads t3 (some ⟨g1, k1, none⟩) R1 (((packL M).drop k1).take R1)) := by
         have h9 := (HO4.out.drop k1 hb5).front R1 hb9
         rw [Nat.zero_add] at h9
         exact h9
       have HRY : Hid (Reads t3 (some ⟨g1, k1, none⟩) (K - 4 - k1) (((packL M).drop k1).take R1)) := (by unfold Hid; rw [HRR.out]; exact HRX.out)
       have TA : Hid True := trivial)
    | (at_builtin; have zz := TA; clear TA zz; refine wpList_append_reads rfl (.tmp 38) (.tmp 41) rfl t3.heap.size (.slice (some ⟨t3.heap.size, 0, none⟩) 0 0) 0 [] rfl (own_empty' t3 t3.heap.size rfl) (some ⟨g1, 0, none⟩) kk p1 ((packL M).take kk) rfl ((HO4.out.front kk (by omega)).below (below_alloc _ _)) (by omega) (by simp) ?_; intro v1 w1 own1 grow1; simp only [Nat.zero_add, List.nil_append] at own1
       have HB6 : Hid (Below t3.heap.size t3 w1) := (below_alloc t3 _).grown grow1 (by simp) (fun q hq => ((own_empty' t3 t3.heap.size rfl).lt q hq).1)
       have HO6 : Hid (w1.ownsRow t3.heap.size 5 1 v1 kk (((packL M).take kk).map (Value.int .u8))) := own1
       have TB : Hid True := trivial
       clear own1 grow1)
    | (at_builtin; have zz := TB; clear TB zz; refine wpList_append_reads rfl (.tmp 45) (.tmp 47) rfl t3.heap.size v1 (kk) ((packL M).take kk) rfl (HO6.out.alloc _) (some ⟨w1.heap.size, 0, none⟩) 1 1 [x] rfl (reads_alloc w1 [x] (by intro y hy; rw [List.mem_singleton.1 hy]; omega)) (by omega) (by have := HB6.out.size; simp; omega) ?_; intro v2 w2 own2 grow2
       have HB7 : Hid (Below t3.heap.size t3 w2) := (HB6.out.alloc HB6.out.size _).grown grow2 (by have := HB6.out.size; simp; omega) (fun q hq => (HO6.out.lt q hq).1)
       have HO7 : Hid (w2.ownsRow t3.heap.size 5 1 v2 (kk + 1) (((packL M).take kk ++ [x]).map (Value.int .u8))) := own2
       have TC : Hid True := trivial
       clear own2 grow2)
    | (at_builtin; have zz := TC; clear TC zz; refine wpList_append_reads rfl (.tmp 58) (.tmp 65) rfl t3.heap.size v2 (kk + 1) ((packL M).take kk ++ [x]) rfl HO7.out (some ⟨g1, k1, none⟩) (K - 4 - k1) (p1 - k1) (((packL M).drop k1).take R1) rfl (HRY.out.below HB7.out) (by omega) HB7.out.size ?_; intro v4 w4 own4 grow4; rw [HNN.out] at own4; obtain ⟨g4, c4, rfl, hc41, hc42, hg41, hg42⟩ := own_shape own4 HNP.out
       have HB9 : Hid (Below t3.heap.size t3 w4) := HB7.out.grown grow4 HB7.out.size (fun q hq => (HO7.out.lt q hq).1)
       have HF9 : Hid (Reads w4 (some ⟨g4, 0, none⟩) N F) := by have h9 := Own.all own4 (by rw [HFE.out]; exact HFB.out); rw [HFE.out] at h9; exact h9
       have HT9 : Hid (Tab w4) := HT4.out.below HB9.out
       have HBB : Hid (Below w.heap.size w w4) := below_trans HB4.out HB9.out
       clear own4 grow4 hc41 hc42 hg41 hg42)
    | (go_at_call 15; refine (large_fn g4 0 _ _ F _ HF9.out (by omega)).mono ?_; rintro e t5 ⟨q5, rfl, ht5⟩; rw [HLG.out, ht5]
       have HFA : Hid (Reads (w4.drewN q5) (some ⟨g4, 0, none⟩) N F) := HF9.out.drewN q5
       have HTA : Hid (Tab (w4.drewN q5)) := HT9.out.drewN q5
       have HBC : Hid (Below w.heap.size w (w4.drewN q5)) := ⟨HBB.out.os, HBB.out.tape, HBB.out.output, HBB.out.size, HBB.out.block⟩
       clear ht5))
  go_ret
  exact ⟨rfl, HBC.out⟩

set_option maxHeartbeats 4000000 in
set_option maxRecDepth 100000 in
theorem canon_er0 (b p s : Int) (a a' : Option Addr) (n c m c' : Nat) (zs : List Int) (bs : List Bool) (k x h : Int) (w : World) (hn : n ≤ 140737488351232) (hm : m ≤ 140737488351232) (hr : Reads w a n zs) (hrb : ReadsB w a' m bs) (hnc : n ≤ c) (hc : c ≤ 9223372036854775807) (hk : -9223372036854775808 ≤ k ∧ k ≤ 9223372036854775807) (hx : 0 ≤ x ∧ x ≤ 255) (hh1 : (h == 1) = false) (hh2 : (h == 2) = false) (ht : Tab w) (hE : chkE b p s n m = 0) (hk0 : 0 ≤ k) (hkK : k < ((packL (⟨b.toNat, p.toNat, s.toNat, zs, bs⟩ : Img)).length : Int) - 4) (hLG : lrg (bentL (packL (⟨b.toNat, p.toNat, s.toNat, zs, bs⟩ : Img)) k.toNat [x]) = false) (y : Int) (hRE : readR (sealL (bentL (packL (⟨b.toNat, p.toNat, s.toNat, zs, bs⟩ : Img)) k.toNat [x])) = .error y) :
    Calls Tryd.prog 6 #[.agg #[.int .i64 b, .int .i64 p, .int .i64 s, .slice a n c, .slice a' m c'], .int .i64 k, .int .u8 x, .int .i64 h] w fun e w' => e = .returned (.bool true) ∧ Below w.heap.size w w' := by
  obtain ⟨M, hok, hMb, hMp, hMs, hMc, hMm, hMn⟩ := img_of hE hr.1 hrb.1 hr.2.1
  have HPOS : Hid (0 < n) := by
    unfold Hid
    obtain ⟨q1, q2, q3, q4, q5, q6, q7⟩ := fits_nat hok.1
    have h9 := hok.2.1
    rw [hMc, hr.1] at h9
    rw [h9]
    exact Nat.mul_pos (Nat.mul_pos (by omega) (by omega)) (by unfold Img.S; omega)
  obtain ⟨K, hK⟩ : ∃ K, (packL M).length = K := ⟨_, rfl⟩
  have HKL : Hid ((packL M).length = K) := hK
  have hMM : (⟨b.toNat, p.toNat, s.toNat, zs, bs⟩ : Img) = M := by obtain ⟨y1, y2, y3, y4, y5⟩ := M; simp only at hMb hMp hMs hMc hMm; subst hMc hMm; simp [hMb, hMp, hMs]
  rw [hMM, hK] at hkK
  rw [hMM] at hLG
  rw [hMM] at hRE
  clear hMM
  have hK9 := pack_len M hok
  rw [hK] at hK9
  have hK0 : 0 < K := by
    rw [← hK, packL, sealL, List.length_append]
    have h5 : (le4 (sumL (nats (bodyL M)))).length = 4 := rfl
    omega
  have hK14 : 14 ≤ K := by
    have hb := packS_bound M.C (M.C + M.S) (chunks (M.C + M.S) (M.b * M.p) M.cs) ⟨headL M.b M.p M.s M.ms, 0, 0⟩ [] (chunks_len _ _ _ hok.2.1) (by omega) (by rw [head_len]; omega) (by simp)
    have h2 : (headL M.b M.p M.s M.ms).length ≤ (bodyL M).length := hb.1
    rw [head_len] at h2
    rw [← hK, packL, sealL, List.length_append]
    have h5 : (le4 (sumL (nats (bodyL M)))).length = 4 := rfl
    omega
  have HMs : Hid (b = (M.b : Int) ∧ p = (M.p : Int) ∧ s = (M.s : Int) ∧ M.cs = zs ∧ M.ms = bs ∧ M.b = m) := ⟨hMb, hMp, hMs, hMc, hMm, hMn⟩
  clear hE hK hMb hMp hMs hMc hMm hMn
  have hn2 : n ≤ 140737488355000 := by omega
  have hm2 : m ≤ 140737488355000 := by omega
  have HT1 : Hid (Tab (w.alloc (.cells #[.int .i64 b, .int .i64 p, .int .i64 s, .slice a n c, .slice a' m c'] 27))) := ht.below (below_alloc w _)
  have HR1 : Hid (Reads (w.alloc (.cells #[.int .i64 b, .int .i64 p, .int .i64 s, .slice a n c, .slice a' m c'] 27)) a n zs) := hr.below (below_alloc w _)
  have HM1 : Hid (ReadsB (w.alloc (.cells #[.int .i64 b, .int .i64 p, .int .i64 s, .slice a n c, .slice a' m c'] 27)) a' m bs) := hrb.below (below_alloc w _)
  have HX1 : Hid ((w.alloc (.cells #[.int .i64 b, .int .i64 p, .int .i64 s, .slice a n c, .slice a' m c'] 27)).heap[w.heap.size]? = some (.cells #[.int .i64 b, .int .i64 p, .int .i64 s, .slice a n c, .slice a' m c'] 27 (0, 0))) := heap_alloc_new _ _
  have HB1 : Hid (Below w.heap.size w (w.alloc (.cells #[.int .i64 b, .int .i64 p, .int .i64 s, .slice a n c, .slice a' m c'] 27))) := below_alloc w _
  obtain ⟨e0, e1, e2, e3, e4⟩ := cells5 HX1.out
  clear hr hrb ht
  obtain ⟨kk, rfl⟩ := Int.eq_ofNat_of_zero_le hk0
  have T3 : Hid True := trivial
  have fK : ¬ (K : Int) < 4 := by omega
  have f1 : ¬ (kk : Int) < 0 := by omega
  obtain ⟨K4, hK4⟩ : ∃ K4, K4 = K - 4 := ⟨_, rfl⟩
  obtain ⟨k1, hk1⟩ : ∃ k1, k1 = kk + 1 := ⟨_, rfl⟩
  obtain ⟨R1, hR1⟩ : ∃ R1, K4 - k1 = R1 := ⟨_, rfl⟩
  have e4 : (K : Int) - 4 = (K4 : Int) := by omega
  have f2 : ¬ (K4 : Int) ≤ (kk : Int) := by omega
  have f4 : ¬ (K : Int) - 4 ≤ (kk : Int) := by omega
  have ek : (kk : Int) + 1 = (k1 : Int) := by omega
  have f3 : (k1 : Int) ≤ (K4 : Int) := by omega
  have hk1s : k1 ≤ K4 ∧ K4 + 4 = K := by omega
  have hkk : kk < K4 := by omega
  simp only [Int.toNat_natCast] at hLG
  simp only [Int.toNat_natCast] at hRE
  obtain ⟨F, hF⟩ : ∃ F, bentL (packL M) kk [x] = F := ⟨_, rfl⟩
  have HLG : Hid (lrg F = false) := by unfold Hid; rw [← hF]; exact hLG
  have HRE : Hid (readR (sealL F) = .error y) := by unfold Hid; rw [← hF]; exact hRE
  clear hRE
  have HFE : Hid ((packL M).take kk ++ [x] ++ ((packL M).drop k1).take R1 = F) := by unfold Hid; rw [← hF, bentL, HKL.out, ← hR1, hK4, hk1]; try simp
  obtain ⟨N, hN⟩ : ∃ N, kk + 1 + R1 = N := ⟨_, rfl⟩
  have HRR : Hid (K - 4 - k1 = R1) := by unfold Hid; omega
  have HNN : Hid (kk + 1 + (K - 4 - k1) = N) := by unfold Hid; rw [HRR.out]; exact hN
  have HFB : Hid (Byt F) := by
    unfold Hid
    rw [← HFE.out]
    intro y hy
    simp only [List.mem_append, List.mem_singleton] at hy
    have q1 : ∀ y, y ∈ (packL M).take kk → 0 ≤ y ∧ y ≤ 255 := fun y hy => pack_byt M hok y (List.mem_of_mem_take hy)
    have q2 : ∀ y, y ∈ ((packL M).drop k1).take R1 → 0 ≤ y ∧ y ≤ 255 := fun y hy => pack_byt M hok y (List.mem_of_mem_drop (List.mem_of_mem_take hy))
    rcases hy with (hy | hy) | hy
    · exact q1 y hy
    · rw [hy]; exact hx
    · exact q2 y hy
  have hNb : N ≤ K + 2 := by omega
  have hNp : 0 < N + 4 := by omega
  have HNP : Hid (0 < N) := by unfold Hid; omega
  obtain ⟨N4, hN4⟩ : ∃ N4, N + 4 = N4 := ⟨_, rfl⟩
  have HN4 : Hid (N + 4 = N4) := hN4
  have hFl : F.length = N := by
    rw [← HFE.out, ← hN]
    simp only [List.length_append, List.length_take, List.length_drop, HKL.out, List.length_cons, List.length_nil]
    omega
  have HSL : Hid ((sealL F).length = N4) := by unfold Hid; rw [sealL, List.length_append, hFl]; exact hN4
  have HSB : Hid (Byt (sealL F)) := by
    unfold Hid
    intro y hy
    rcases List.mem_append.1 hy with hy | hy
    · exact HFB.out y hy
    · exact le4_byt _ y hy
  have hN40 : 0 < N4 := by omega
  have hN4b : N4 ≤ K + 6 := by omega
  have HK1 : Hid (k1 = kk + 1 ∧ K4 = K - 4 ∧ k1 ≤ K4 ∧ K4 + 4 = K ∧ K4 - k1 = R1) := ⟨hk1, hK4, hk1s.1, hk1s.2, hR1⟩
  have hb5 : k1 ≤ K := by omega
  have hb6 : K4 ≤ K := by omega
  have hb7 : kk ≤ K := by omega
  have hb8 : 9 ≤ K4 := by omega
  have hb9 : R1 ≤ K - k1 := by omega
  have er : (K4 : Int) - (k1 : Int) = (R1 : Int) := by omega
  have er2 : ((K4 - k1 : Nat) : Int) = (R1 : Int) := by omega
  have er3 : K4 - k1 = R1 := hR1
  clear hLG hF hk0 hkK hk1 hK4 hk1s hR1 hN hN4 hFl
  go_enter Tryd.func6, Tryd.ntmps6
  go_wp2_with (first
    | (go_at_call 9; refine (heads_any _ HT1.out).mono ?_; rintro e t1 ⟨rfl, b1⟩
       have HX2 : Hid (t1.heap[w.heap.size]? = some (.cells #[.int .i64 b, .int .i64 p, .int .i64 s, .slice a n c, .slice a' m c'] 27 (0, 0))) := (b1.block _ (Array.getElem?_eq_some_iff.1 HX1.out).1).trans HX1.out
       have HB2 : Hid (Below w.heap.size w t1) := below_trans HB1.out b1
       have HT2 : Hid (Tab t1) := HT1.out.below b1
       have HR2 : Hid (Reads t1 a n zs) := HR1.out.below b1
       have HM2 : Hid (ReadsB t1 a' m bs) := HM1.out.below b1
       clear b1 e0 e1 e2 e3 e4
       obtain ⟨e0, e1, e2, e3, e4⟩ := cells5 HX2.out)
    | (go_at_call 12; refine (no_any _ _).mono ?_; rintro e t9 ⟨rfl, ht9⟩; rw [ht9]; clear ht9)
    | (go_at_call 11; have zz := T3; clear T3 zz; refine (packs_n hok HMs.out.1 HMs.out.2.1 HMs.out.2.2.1 HMs.out.2.2.2.1 HMs.out.2.2.2.2.1 HMs.out.2.2.2.2.2 _ HR2.out HM2.out HPOS.out hnc hc HT2.out).mono ?_; rintro e t3 ⟨g1, p1, rfl, o1, b3⟩; rw [HKL.out] at o1 ⊢
       have HX4 : Hid (t3.heap[w.heap.size]? = some (.cells #[.int .i64 b, .int .i64 p, .int .i64 s, .slice a n c, .slice a' m c'] 27 (0, 0))) := (b3.block _ (Array.getElem?_eq_some_iff.1 HX2.out).1).trans HX2.out
       have HB4 : Hid (Below w.heap.size w t3) := below_trans HB2.out b3
       have HT4 : Hid (Tab t3) := HT2.out.below b3
       have HR4 : Hid (Reads t3 a n zs) := HR2.out.below b3
       have HM4 : Hid (ReadsB t3 a' m bs) := HM2.out.below b3
       have HO4 : Hid (Reads t3 (some ⟨g1, 0, none⟩) K (packL M)) := o1.all (pack_byt M hok)
       have hp1 := o1.room_le hK0
       have hp2 : K ≤ p1 ∧ p1 ≤ 9223372036854775807 := by simp only [maxLen] at hp1; omega
       have HG4 : Hid (g1 < t3.heap.size) := o1.lt.2
       clear o1 hp1
       clear b3 e0 e1 e2 e3 e4
       have hq : (if p1 = k1 then some (⟨g1, 0, none⟩ : Addr) else some ⟨g1, k1, none⟩) = some ⟨g1, k1, none⟩ := by rw [if_neg (by have := HK1.out; omega)]
       have hp5 : (kk : Int) ≤ (p1 : Int) := by omega
       have hp6 : kk ≤ p1 := by omega
       have hp7 : (K4 : Int) ≤ (p1 : Int) := by omega
       have hp8 : K4 ≤ p1 := by omega
       have HRX : Hid (Reads t3 (some ⟨g1, k1, none⟩) R1 (((packL M).drop k1).take R1)) := by
         have h9 := (HO4.out.drop k1 hb5).front R1 hb9
         rw [Nat.zero_add] at h9
         exact h9
       have HRY : Hid (Reads t3 (some ⟨g1, k1, none⟩) (K - 4 - k1) (((packL M).drop k1).take R1)) := (by unfold Hid; rw [HRR.out]; exact HRX.out)
       have TA : Hid True := trivial)
    | (at_builtin; have zz := TA; clear TA zz; refine wpList_append_reads rfl (.tmp 38) (.tmp 41) rfl t3.heap.size (.slice (some ⟨t3.heap.size, 0, none⟩) 0 0) 0 [] rfl (own_empty' t3 t3.heap.size rfl) (some ⟨g1, 0, none⟩) kk p1 ((packL M).take kk) rfl ((HO4.out.front kk (by omega)).below (below_alloc _ _)) (by omega) (by simp) ?_; intro v1 w1 own1 grow1; simp only [Nat.zero_add, List.nil_append] at own1
       have HB6 : Hid (Below t3.heap.size t3 w1) := (below_alloc t3 _).grown grow1 (by simp) (fun q hq => ((own_empty' t3 t3.heap.size rfl).lt q hq).1)
       have HO6 : Hid (w1.ownsRow t3.heap.size 5 1 v1 kk (((packL M).take kk).map (Value.int .u8))) := own1
       have TB : Hid True := trivial
       clear own1 grow1)
    | (at_builtin; have zz := TB; clear TB zz; refine wpList_append_reads rfl (.tmp 45) (.tmp 47) rfl t3.heap.size v1 (kk) ((packL M).take kk) rfl (HO6.out.alloc _) (some ⟨w1.heap.size, 0, none⟩) 1 1 [x] rfl (reads_alloc w1 [x] (by intro y hy; rw [List.mem_singleton.1 hy]; omega)) (by omega) (by have := HB6.out.size; simp; omega) ?_; intro v2 w2 own2 grow2
       have HB7 : Hid (Below t3.heap.size t3 w2) := (HB6.out.alloc HB6.out.size _).grown grow2 (by have := HB6.out.size; simp; omega) (fun q hq => (HO6.out.lt q hq).1)
       have HO7 : Hid (w2.ownsRow t3.heap.size 5 1 v2 (kk + 1) (((packL M).take kk ++ [x]).map (Value.int .u8))) := own2
       have TC : Hid True := trivial
       clear own2 grow2)
    | (at_builtin; have zz := TC; clear TC zz; refine wpList_append_reads rfl (.tmp 58) (.tmp 65) rfl t3.heap.size v2 (kk + 1) ((packL M).take kk ++ [x]) rfl HO7.out (some ⟨g1, k1, none⟩) (K - 4 - k1) (p1 - k1) (((packL M).drop k1).take R1) rfl (HRY.out.below HB7.out) (by omega) HB7.out.size ?_; intro v4 w4 own4 grow4; rw [HNN.out] at own4; obtain ⟨g4, c4, rfl, hc41, hc42, hg41, hg42⟩ := own_shape own4 HNP.out
       have HB9 : Hid (Below t3.heap.size t3 w4) := HB7.out.grown grow4 HB7.out.size (fun q hq => (HO7.out.lt q hq).1)
       have HF9 : Hid (Reads w4 (some ⟨g4, 0, none⟩) N F) := by have h9 := Own.all own4 (by rw [HFE.out]; exact HFB.out); rw [HFE.out] at h9; exact h9
       have HT9 : Hid (Tab w4) := HT4.out.below HB9.out
       have HBB : Hid (Below w.heap.size w w4) := below_trans HB4.out HB9.out
       clear own4 grow4 hc41 hc42 hg41 hg42)
    | (go_at_call 15; refine (large_fn g4 0 _ _ F _ HF9.out (by omega)).mono ?_; rintro e t5 ⟨q5, rfl, ht5⟩; rw [HLG.out, ht5]
       have HFA : Hid (Reads (w4.drewN q5) (some ⟨g4, 0, none⟩) N F) := HF9.out.drewN q5
       have HTA : Hid (Tab (w4.drewN q5)) := HT9.out.drewN q5
       have HBC : Hid (Below w.heap.size w (w4.drewN q5)) := ⟨HBB.out.os, HBB.out.tape, HBB.out.output, HBB.out.size, HBB.out.block⟩
       clear ht5)
    | (go_at_call 17; refine (sealed_any (some ⟨g4, 0, none⟩) N _ F _ HFA.out (by omega) HTA.out).mono ?_; rintro e t6 ⟨g6, c6, rfl, o6, b6⟩; rw [HN4.out] at o6 ⊢
       have HO5 : Hid (Reads t6 (some ⟨g6, 0, none⟩) N4 (sealL F)) := o6.all HSB.out
       have hp9 := o6.room_le (by omega)
       have hpA : N4 ≤ c6 ∧ c6 ≤ 9223372036854775807 := by simp only [maxLen] at hp9; omega
       have HG6 : Hid (g6 < t6.heap.size) := o6.lt.2
       have HTC : Hid (Tab t6) := HTA.out.below b6
       have HBD : Hid (Below w.heap.size w t6) := below_trans HBC.out b6
       clear o6 hp9 b6)
    | (go_at_call 13; refine (read_n g6 0 N4 c6 (sealL F) _ HSL.out HO5.out (by omega) hpA.1 hpA.2 HG6.out HTC.out).mono ?_; rintro e t7 ⟨res, b7⟩
       rw [HRE.out] at res
       obtain ⟨rfl, hy0⟩ := res
       have hy1 : (y == 0) = false := (by rw [beq_eq_false_iff_ne]; exact hy0)
       have hy2 : ¬ y = 0 := hy0
       have HBE : Hid (Below w.heap.size w (t7.alloc (.cells #[.int .i64 0, .int .i64 0, .int .i64 0, .slice none 0 0, .slice none 0 0] 27))) := below_trans HBD.out (below_trans b7 (below_alloc _ _))
       have HXE : Hid ((t7.alloc (.cells #[.int .i64 0, .int .i64 0, .int .i64 0, .slice none 0 0, .slice none 0 0] 27)).heap[t7.heap.size]? = some (.cells #[.int .i64 0, .int .i64 0, .int .i64 0, .slice none 0 0, .slice none 0 0] 27 (0, 0))) := heap_alloc_new _ _
       obtain ⟨i0, i1, i2, i3, i4⟩ := cells5 HXE.out
       clear b7))
  go_ret
  exact ⟨rfl, HBE.out⟩

set_option maxHeartbeats 4000000 in
set_option maxRecDepth 100000 in
theorem canon_ok0 (b p s : Int) (a a' : Option Addr) (n c m c' : Nat) (zs : List Int) (bs : List Bool) (k x h : Int) (w : World) (hn : n ≤ 140737488351232) (hm : m ≤ 140737488351232) (hr : Reads w a n zs) (hrb : ReadsB w a' m bs) (hnc : n ≤ c) (hc : c ≤ 9223372036854775807) (hk : -9223372036854775808 ≤ k ∧ k ≤ 9223372036854775807) (hx : 0 ≤ x ∧ x ≤ 255) (hh1 : (h == 1) = false) (hh2 : (h == 2) = false) (ht : Tab w) (hE : chkE b p s n m = 0) (hk0 : 0 ≤ k) (hkK : k < ((packL (⟨b.toNat, p.toNat, s.toNat, zs, bs⟩ : Img)).length : Int) - 4) (hLG : lrg (bentL (packL (⟨b.toNat, p.toNat, s.toNat, zs, bs⟩ : Img)) k.toNat [x]) = false) (Y : Img) (hRE : readR (sealL (bentL (packL (⟨b.toNat, p.toNat, s.toNat, zs, bs⟩ : Img)) k.toNat [x])) = .ok Y) :
    Calls Tryd.prog 6 #[.agg #[.int .i64 b, .int .i64 p, .int .i64 s, .slice a n c, .slice a' m c'], .int .i64 k, .int .u8 x, .int .i64 h] w fun e w' => e = .returned (.bool true) ∧ Below w.heap.size w w' := by
  obtain ⟨M, hok, hMb, hMp, hMs, hMc, hMm, hMn⟩ := img_of hE hr.1 hrb.1 hr.2.1
  have HPOS : Hid (0 < n) := by
    unfold Hid
    obtain ⟨q1, q2, q3, q4, q5, q6, q7⟩ := fits_nat hok.1
    have h9 := hok.2.1
    rw [hMc, hr.1] at h9
    rw [h9]
    exact Nat.mul_pos (Nat.mul_pos (by omega) (by omega)) (by unfold Img.S; omega)
  obtain ⟨K, hK⟩ : ∃ K, (packL M).length = K := ⟨_, rfl⟩
  have HKL : Hid ((packL M).length = K) := hK
  have hMM : (⟨b.toNat, p.toNat, s.toNat, zs, bs⟩ : Img) = M := by obtain ⟨y1, y2, y3, y4, y5⟩ := M; simp only at hMb hMp hMs hMc hMm; subst hMc hMm; simp [hMb, hMp, hMs]
  rw [hMM, hK] at hkK
  rw [hMM] at hLG
  rw [hMM] at hRE
  clear hMM
  have hK9 := pack_len M hok
  rw [hK] at hK9
  have hK0 : 0 < K := by
    rw [← hK, packL, sealL, List.length_append]
    have h5 : (le4 (sumL (nats (bodyL M)))).length = 4 := rfl
    omega
  have hK14 : 14 ≤ K := by
    have hb := packS_bound M.C (M.C + M.S) (chunks (M.C + M.S) (M.b * M.p) M.cs) ⟨headL M.b M.p M.s M.ms, 0, 0⟩ [] (chunks_len _ _ _ hok.2.1) (by omega) (by rw [head_len]; omega) (by simp)
    have h2 : (headL M.b M.p M.s M.ms).length ≤ (bodyL M).length := hb.1
    rw [head_len] at h2
    rw [← hK, packL, sealL, List.length_append]
    have h5 : (le4 (sumL (nats (bodyL M)))).length = 4 := rfl
    omega
  have HMs : Hid (b = (M.b : Int) ∧ p = (M.p : Int) ∧ s = (M.s : Int) ∧ M.cs = zs ∧ M.ms = bs ∧ M.b = m) := ⟨hMb, hMp, hMs, hMc, hMm, hMn⟩
  clear hE hK hMb hMp hMs hMc hMm hMn
  have hn2 : n ≤ 140737488355000 := by omega
  have hm2 : m ≤ 140737488355000 := by omega
  have HT1 : Hid (Tab (w.alloc (.cells #[.int .i64 b, .int .i64 p, .int .i64 s, .slice a n c, .slice a' m c'] 27))) := ht.below (below_alloc w _)
  have HR1 : Hid (Reads (w.alloc (.cells #[.int .i64 b, .int .i64 p, .int .i64 s, .slice a n c, .slice a' m c'] 27)) a n zs) := hr.below (below_alloc w _)
  have HM1 : Hid (ReadsB (w.alloc (.cells #[.int .i64 b, .int .i64 p, .int .i64 s, .slice a n c, .slice a' m c'] 27)) a' m bs) := hrb.below (below_alloc w _)
  have HX1 : Hid ((w.alloc (.cells #[.int .i64 b, .int .i64 p, .int .i64 s, .slice a n c, .slice a' m c'] 27)).heap[w.heap.size]? = some (.cells #[.int .i64 b, .int .i64 p, .int .i64 s, .slice a n c, .slice a' m c'] 27 (0, 0))) := heap_alloc_new _ _
  have HB1 : Hid (Below w.heap.size w (w.alloc (.cells #[.int .i64 b, .int .i64 p, .int .i64 s, .slice a n c, .slice a' m c'] 27))) := below_alloc w _
  obtain ⟨e0, e1, e2, e3, e4⟩ := cells5 HX1.out
  clear hr hrb ht
  obtain ⟨kk, rfl⟩ := Int.eq_ofNat_of_zero_le hk0
  have T3 : Hid True := trivial
  have fK : ¬ (K : Int) < 4 := by omega
  have f1 : ¬ (kk : Int) < 0 := by omega
  obtain ⟨K4, hK4⟩ : ∃ K4, K4 = K - 4 := ⟨_, rfl⟩
  obtain ⟨k1, hk1⟩ : ∃ k1, k1 = kk + 1 := ⟨_, rfl⟩
  obtain ⟨R1, hR1⟩ : ∃ R1, K4 - k1 = R1 := ⟨_, rfl⟩
  have e4 : (K : Int) - 4 = (K4 : Int) := by omega
  have f2 : ¬ (K4 : Int) ≤ (kk : Int) := by omega
  have f4 : ¬ (K : Int) - 4 ≤ (kk : Int) := by omega
  have ek : (kk : Int) + 1 = (k1 : Int) := by omega
  have f3 : (k1 : Int) ≤ (K4 : Int) := by omega
  have hk1s : k1 ≤ K4 ∧ K4 + 4 = K := by omega
  have hkk : kk < K4 := by omega
  simp only [Int.toNat_natCast] at hLG
  simp only [Int.toNat_natCast] at hRE
  obtain ⟨F, hF⟩ : ∃ F, bentL (packL M) kk [x] = F := ⟨_, rfl⟩
  have HLG : Hid (lrg F = false) := by unfold Hid; rw [← hF]; exact hLG
  have HRE : Hid (readR (sealL F) = .ok Y) := by unfold Hid; rw [← hF]; exact hRE
  clear hRE
  have HFE : Hid ((packL M).take kk ++ [x] ++ ((packL M).drop k1).take R1 = F) := by unfold Hid; rw [← hF, bentL, HKL.out, ← hR1, hK4, hk1]; try simp
  obtain ⟨N, hN⟩ : ∃ N, kk + 1 + R1 = N := ⟨_, rfl⟩
  have HRR : Hid (K - 4 - k1 = R1) := by unfold Hid; omega
  have HNN : Hid (kk + 1 + (K - 4 - k1) = N) := by unfold Hid; rw [HRR.out]; exact hN
  have HFB : Hid (Byt F) := by
    unfold Hid
    rw [← HFE.out]
    intro y hy
    simp only [List.mem_append, List.mem_singleton] at hy
    have q1 : ∀ y, y ∈ (packL M).take kk → 0 ≤ y ∧ y ≤ 255 := fun y hy => pack_byt M hok y (List.mem_of_mem_take hy)
    have q2 : ∀ y, y ∈ ((packL M).drop k1).take R1 → 0 ≤ y ∧ y ≤ 255 := fun y hy => pack_byt M hok y (List.mem_of_mem_drop (List.mem_of_mem_take hy))
    rcases hy with (hy | hy) | hy
    · exact q1 y hy
    · rw [hy]; exact hx
    · exact q2 y hy
  have hNb : N ≤ K + 2 := by omega
  have hNp : 0 < N + 4 := by omega
  have HNP : Hid (0 < N) := by unfold Hid; omega
  obtain ⟨N4, hN4⟩ : ∃ N4, N + 4 = N4 := ⟨_, rfl⟩
  have HN4 : Hid (N + 4 = N4) := hN4
  have hFl : F.length = N := by
    rw [← HFE.out, ← hN]
    simp only [List.length_append, List.length_take, List.length_drop, HKL.out, List.length_cons, List.length_nil]
    omega
  have HSL : Hid ((sealL F).length = N4) := by unfold Hid; rw [sealL, List.length_append, hFl]; exact hN4
  have HSB : Hid (Byt (sealL F)) := by
    unfold Hid
    intro y hy
    rcases List.mem_append.1 hy with hy | hy
    · exact HFB.out y hy
    · exact le4_byt _ y hy
  have hN40 : 0 < N4 := by omega
  have hN4b : N4 ≤ K + 6 := by omega
  have HYC : Hid (Y.Ok ∧ packL Y = sealL F) := canon HSB.out HRE.out
  have HYK : Hid Y.Ok := HYC.out.1
  have HYE : Hid (packL Y = sealL F) := HYC.out.2
  obtain ⟨yn, hyn⟩ : ∃ yn, Y.cs.length = yn := ⟨_, rfl⟩
  have HYN : Hid (Y.cs.length = yn) := hyn
  have HYP : Hid (0 < yn) := by
    unfold Hid
    obtain ⟨q1, q2, q3, q4, q5, q6, q7⟩ := fits_nat HYK.out.1
    have h9 := HYK.out.2.1
    rw [hyn] at h9
    rw [h9]
    exact Nat.mul_pos (Nat.mul_pos (by omega) (by omega)) (by unfold Img.S; omega)
  clear HYC hyn
  have HK1 : Hid (k1 = kk + 1 ∧ K4 = K - 4 ∧ k1 ≤ K4 ∧ K4 + 4 = K ∧ K4 - k1 = R1) := ⟨hk1, hK4, hk1s.1, hk1s.2, hR1⟩
  have hb5 : k1 ≤ K := by omega
  have hb6 : K4 ≤ K := by omega
  have hb7 : kk ≤ K := by omega
  have hb8 : 9 ≤ K4 := by omega
  have hb9 : R1 ≤ K - k1 := by omega
  have er : (K4 : Int) - (k1 : Int) = (R1 : Int) := by omega
  have er2 : ((K4 - k1 : Nat) : Int) = (R1 : Int) := by omega
  have er3 : K4 - k1 = R1 := hR1
  clear hLG hF hk0 hkK hk1 hK4 hk1s hR1 hN hN4 hFl
  go_enter Tryd.func6, Tryd.ntmps6
  go_wp2_with (first
    | (go_at_call 9; refine (heads_any _ HT1.out).mono ?_; rintro e t1 ⟨rfl, b1⟩
       have HX2 : Hid (t1.heap[w.heap.size]? = some (.cells #[.int .i64 b, .int .i64 p, .int .i64 s, .slice a n c, .slice a' m c'] 27 (0, 0))) := (b1.block _ (Array.getElem?_eq_some_iff.1 HX1.out).1).trans HX1.out
       have HB2 : Hid (Below w.heap.size w t1) := below_trans HB1.out b1
       have HT2 : Hid (Tab t1) := HT1.out.below b1
       have HR2 : Hid (Reads t1 a n zs) := HR1.out.below b1
       have HM2 : Hid (ReadsB t1 a' m bs) := HM1.out.below b1
       clear b1 e0 e1 e2 e3 e4
       obtain ⟨e0, e1, e2, e3, e4⟩ := cells5 HX2.out)
    | (go_at_call 12; refine (no_any _ _).mono ?_; rintro e t9 ⟨rfl, ht9⟩; rw [ht9]; clear ht9)
    | (go_at_call 11; have zz := T3; clear T3 zz; refine (packs_n hok HMs.out.1 HMs.out.2.1 HMs.out.2.2.1 HMs.out.2.2.2.1 HMs.out.2.2.2.2.1 HMs.out.2.2.2.2.2 _ HR2.out HM2.out HPOS.out hnc hc HT2.out).mono ?_; rintro e t3 ⟨g1, p1, rfl, o1, b3⟩; rw [HKL.out] at o1 ⊢
       have HX4 : Hid (t3.heap[w.heap.size]? = some (.cells #[.int .i64 b, .int .i64 p, .int .i64 s, .slice a n c, .slice a' m c'] 27 (0, 0))) := (b3.block _ (Array.getElem?_eq_some_iff.1 HX2.out).1).trans HX2.out
       have HB4 : Hid (Below w.heap.size w t3) := below_trans HB2.out b3
       have HT4 : Hid (Tab t3) := HT2.out.below b3
       have HR4 : Hid (Reads t3 a n zs) := HR2.out.below b3
       have HM4 : Hid (ReadsB t3 a' m bs) := HM2.out.below b3
       have HO4 : Hid (Reads t3 (some ⟨g1, 0, none⟩) K (packL M)) := o1.all (pack_byt M hok)
       have hp1 := o1.room_le hK0
       have hp2 : K ≤ p1 ∧ p1 ≤ 9223372036854775807 := by simp only [maxLen] at hp1; omega
       have HG4 : Hid (g1 < t3.heap.size) := o1.lt.2
       clear o1 hp1
       clear b3 e0 e1 e2 e3 e4
       have hq : (if p1 = k1 then some (⟨g1, 0, none⟩ : Addr) else some ⟨g1, k1, none⟩) = some ⟨g1, k1, none⟩ := by rw [if_neg (by have := HK1.out; omega)]
       have hp5 : (kk : Int) ≤ (p1 : Int) := by omega
       have hp6 : kk ≤ p1 := by omega
       have hp7 : (K4 : Int) ≤ (p1 : Int) := by omega
       have hp8 : K4 ≤ p1 := by omega
       have HRX : Hid (Reads t3 (some ⟨g1, k1, none⟩) R1 (((packL M).drop k1).take R1)) := by
         have h9 := (HO4.out.drop k1 hb5).front R1 hb9
         rw [Nat.zero_add] at h9
         exact h9
       have HRY : Hid (Reads t3 (some ⟨g1, k1, none⟩) (K - 4 - k1) (((packL M).drop k1).take R1)) := (by unfold Hid; rw [HRR.out]; exact HRX.out)
       have TA : Hid True := trivial)
    | (at_builtin; have zz := TA; clear TA zz; refine wpList_append_reads rfl (.tmp 38) (.tmp 41) rfl t3.heap.size (.slice (some ⟨t3.heap.size, 0, none⟩) 0 0) 0 [] rfl (own_empty' t3 t3.heap.size rfl) (some ⟨g1, 0, none⟩) kk p1 ((packL M).take kk) rfl ((HO4.out.front kk (by omega)).below (below_alloc _ _)) (by omega) (by simp) ?_; intro v1 w1 own1 grow1; simp only [Nat.zero_add, List.nil_append] at own1
       have HB6 : Hid (Below t3.heap.size t3 w1) := (below_alloc t3 _).grown grow1 (by simp) (fun q hq => ((own_empty' t3 t3.heap.size rfl).lt q hq).1)
       have HO6 : Hid (w1.ownsRow t3.heap.size 5 1 v1 kk (((packL M).take kk).map (Value.int .u8))) := own1
       have TB : Hid True := trivial
       clear own1 grow1)
    | (at_builtin; have zz := TB; clear TB zz; refine wpList_append_reads rfl (.tmp 45) (.tmp 47) rfl t3.heap.size v1 (kk) ((packL M).take kk) rfl (HO6.out.alloc _) (some ⟨w1.heap.size, 0, none⟩) 1 1 [x] rfl (reads_alloc w1 [x] (by intro y hy; rw [List.mem_singleton.1 hy]; omega)) (by omega) (by have := HB6.out.size; simp; omega) ?_; intro v2 w2 own2 grow2
       have HB7 : Hid (Below t3.heap.size t3 w2) := (HB6.out.alloc HB6.out.size _).grown grow2 (by have := HB6.out.size; simp; omega) (fun q hq => (HO6.out.lt q hq).1)
       have HO7 : Hid (w2.ownsRow t3.heap.size 5 1 v2 (kk + 1) (((packL M).take kk ++ [x]).map (Value.int .u8))) := own2
       have TC : Hid True := trivial
       clear own2 grow2)
    | (at_builtin; have zz := TC; clear TC zz; refine wpList_append_reads rfl (.tmp 58) (.tmp 65) rfl t3.heap.size v2 (kk + 1) ((packL M).take kk ++ [x]) rfl HO7.out (some ⟨g1, k1, none⟩) (K - 4 - k1) (p1 - k1) (((packL M).drop k1).take R1) rfl (HRY.out.below HB7.out) (by omega) HB7.out.size ?_; intro v4 w4 own4 grow4; rw [HNN.out] at own4; obtain ⟨g4, c4, rfl, hc41, hc42, hg41, hg42⟩ := own_shape own4 HNP.out
       have HB9 : Hid (Below t3.heap.size t3 w4) := HB7.out.grown grow4 HB7.out.size (fun q hq => (HO7.out.lt q hq).1)
       have HF9 : Hid (Reads w4 (some ⟨g4, 0, none⟩) N F) := by have h9 := Own.all own4 (by rw [HFE.out]; exact HFB.out); rw [HFE.out] at h9; exact h9
       have HT9 : Hid (Tab w4) := HT4.out.below HB9.out
       have HBB : Hid (Below w.heap.size w w4) := below_trans HB4.out HB9.out
       clear own4 grow4 hc41 hc42 hg41 hg42)
    | (go_at_call 15; refine (large_fn g4 0 _ _ F _ HF9.out (by omega)).mono ?_; rintro e t5 ⟨q5, rfl, ht5⟩; rw [HLG.out, ht5]
       have HFA : Hid (Reads (w4.drewN q5) (some ⟨g4, 0, none⟩) N F) := HF9.out.drewN q5
       have HTA : Hid (Tab (w4.drewN q5)) := HT9.out.drewN q5
       have HBC : Hid (Below w.heap.size w (w4.drewN q5)) := ⟨HBB.out.os, HBB.out.tape, HBB.out.output, HBB.out.size, HBB.out.block⟩
       clear ht5)
    | (go_at_call 17; refine (sealed_any (some ⟨g4, 0, none⟩) N _ F _ HFA.out (by omega) HTA.out).mono ?_; rintro e t6 ⟨g6, c6, rfl, o6, b6⟩; rw [HN4.out] at o6 ⊢
       have HO5 : Hid (Reads t6 (some ⟨g6, 0, none⟩) N4 (sealL F)) := o6.all HSB.out
       have hp9 := o6.room_le (by omega)
       have hpA : N4 ≤ c6 ∧ c6 ≤ 9223372036854775807 := by simp only [maxLen] at hp9; omega
       have HG6 : Hid (g6 < t6.heap.size) := o6.lt.2
       have HTC : Hid (Tab t6) := HTA.out.below b6
       have HBD : Hid (Below w.heap.size w t6) := below_trans HBC.out b6
       clear o6 hp9 b6)
    | (go_at_call 13; refine (read_n g6 0 N4 c6 (sealL F) _ HSL.out HO5.out (by omega) hpA.1 hpA.2 HG6.out HTC.out).mono ?_; rintro e t7 ⟨res, b7⟩
       rw [HRE.out] at res
       obtain ⟨g7, c7, gm, rfl, o7, m7⟩ := res
       rw [HYN.out] at o7 ⊢
       have hpB := o7.room_le HYP.out
       have hpC : yn ≤ c7 ∧ c7 ≤ 9223372036854775807 := by simp only [maxLen] at hpB; omega
       have HR7 : Hid (Reads t7 (some ⟨g7, 0, none⟩) yn Y.cs) := o7.all HYK.out.2.2.2
       have HM7 : Hid (ReadsB t7 (some ⟨gm, 0, none⟩) Y.b Y.ms) := (by have h9 := m7.reads Y.b (Nat.le_refl _); rw [List.take_of_length_le (Nat.le_of_eq HYK.out.2.2.1)] at h9; exact h9)
       have HT7 : Hid (Tab t7) := HTC.out.below b7
       have HO7 : Hid (Reads t7 (some ⟨g6, 0, none⟩) N4 (sealL F)) := HO5.out.below b7
       have HB7Z : Hid (Below w.heap.size w t7) := below_trans HBD.out b7
       have HT8 : Hid (Tab (t7.alloc (.cells #[.int .i64 (Y.b : Int), .int .i64 (Y.p : Int), .int .i64 (Y.s : Int), .slice (some ⟨g7, 0, none⟩) yn c7, .slice (some ⟨gm, 0, none⟩) Y.b Y.b] 27))) := HT7.out.below (below_alloc _ _)
       have HR8 : Hid (Reads (t7.alloc (.cells #[.int .i64 (Y.b : Int), .int .i64 (Y.p : Int), .int .i64 (Y.s : Int), .slice (some ⟨g7, 0, none⟩) yn c7, .slice (some ⟨gm, 0, none⟩) Y.b Y.b] 27)) (some ⟨g7, 0, none⟩) yn Y.cs) := HR7.out.below (below_alloc _ _)
       have HM8 : Hid (ReadsB (t7.alloc (.cells #[.int .i64 (Y.b : Int), .int .i64 (Y.p : Int), .int .i64 (Y.s : Int), .slice (some ⟨g7, 0, none⟩) yn c7, .slice (some ⟨gm, 0, none⟩) Y.b Y.b] 27)) (some ⟨gm, 0, none⟩) Y.b Y.ms) := HM7.out.below (below_alloc _ _)
       have HX8 : Hid ((t7.alloc (.cells #[.int .i64 (Y.b : Int), .int .i64 (Y.p : Int), .int .i64 (Y.s : Int), .slice (some ⟨g7, 0, none⟩) yn c7, .slice (some ⟨gm, 0, none⟩) Y.b Y.b] 27)).heap[t7.heap.size]? = some (.cells #[.int .i64 (Y.b : Int), .int .i64 (Y.p : Int), .int .i64 (Y.s : Int), .slice (some ⟨g7, 0, none⟩) yn c7, .slice (some ⟨gm, 0, none⟩) Y.b Y.b] 27 (0, 0))) := heap_alloc_new _ _
       obtain ⟨i0, i1, i2, i3, i4⟩ := cells5 HX8.out
       have TZ : Hid True := trivial
       clear b7 o7 m7 hpB)
    | (go_at_call 11; have zz := TZ; clear TZ zz; refine (packs_n HYK.out rfl rfl rfl rfl rfl rfl _ HR8.out HM8.out HYP.out hpC.1 hpC.2 HT8.out).mono ?_; rintro e t8 ⟨g8, p8, rfl, o8, b8⟩; rw [HYE.out, HSL.out] at o8 ⊢
       have HO8 : Hid (Reads t8 (some ⟨g8, 0, none⟩) N4 (sealL F)) := o8.all HSB.out
       have HO9 : Hid (Reads t8 (some ⟨g6, 0, none⟩) N4 (sealL F)) := (HO7.out.below (below_alloc _ _)).below b8
       have HBE : Hid (Below w.heap.size w t8) := below_trans HB7Z.out (below_trans (below_alloc _ _) b8)
       clear o8 b8)
    | (go_at_call 16; refine (same_eq _ _ _ _ _ (sealL F) _ HO8.out HO9.out).mono ?_; rintro e t9 ⟨rfl, hu9⟩; rw [hu9]; clear hu9))
  go_ret
  exact ⟨rfl, HBE.out⟩
theorem canonWalk (b p s : Int) (a a' : Option Addr) (n c m c' : Nat) (zs : List Int) (bs : List Bool) (k x h : Int) (w : World) (hn : n ≤ 140737488351232) (hm : m ≤ 140737488351232) (hr : Reads w a n zs) (hrb : ReadsB w a' m bs) (hnc : n ≤ c) (hc : c ≤ 9223372036854775807) (hk : -9223372036854775808 ≤ k ∧ k ≤ 9223372036854775807) (hx : 0 ≤ x ∧ x ≤ 255) (hh : -9223372036854775808 ≤ h ∧ h ≤ 9223372036854775807) (ht : Tab w) :
    Calls Tryd.prog 6 #[.agg #[.int .i64 b, .int .i64 p, .int .i64 s, .slice a n c, .slice a' m c'], .int .i64 k, .int .u8 x, .int .i64 h] w fun e w' => e = .returned (.bool true) ∧ Below w.heap.size w w' := by
  by_cases hE : chkE b p s n m = 0
  · by_cases hkN : k < 0 ∨ ((packL (⟨b.toNat, p.toNat, s.toNat, zs, bs⟩ : Img)).length : Int) - 4 ≤ k
    · exact canon_out b p s a a' n c m c' zs bs k x h w hn hm hr hrb hnc hc hk hx hh ht hE hkN
    · have hk0 : 0 ≤ k := by omega
      have hkK : k < ((packL (⟨b.toNat, p.toNat, s.toNat, zs, bs⟩ : Img)).length : Int) - 4 := by omega
      by_cases h2 : h = 2
      · subst h2
        cases hLG : lrg (bentL (packL (⟨b.toNat, p.toNat, s.toNat, zs, bs⟩ : Img)) k.toNat []) with
        | true => exact canon_lg2 b p s a a' n c m c' zs bs k x  w hn hm hr hrb hnc hc hk hx ht hE hk0 hkK hLG
        | false =>
          cases hRE : readR (sealL (bentL (packL (⟨b.toNat, p.toNat, s.toNat, zs, bs⟩ : Img)) k.toNat [])) with
          | error y => exact canon_er2 b p s a a' n c m c' zs bs k x  w hn hm hr hrb hnc hc hk hx ht hE hk0 hkK hLG y hRE
          | ok Y => exact canon_ok2 b p s a a' n c m c' zs bs k x  w hn hm hr hrb hnc hc hk hx ht hE hk0 hkK hLG Y hRE
      · by_cases h1 : h = 1
        · subst h1
          cases hLG : lrg (bentL (packL (⟨b.toNat, p.toNat, s.toNat, zs, bs⟩ : Img)) k.toNat [x, (packL (⟨b.toNat, p.toNat, s.toNat, zs, bs⟩ : Img)).getD k.toNat 0]) with
          | true => exact canon_lg1 b p s a a' n c m c' zs bs k x  w hn hm hr hrb hnc hc hk hx ht hE hk0 hkK hLG
          | false =>
            cases hRE : readR (sealL (bentL (packL (⟨b.toNat, p.toNat, s.toNat, zs, bs⟩ : Img)) k.toNat [x, (packL (⟨b.toNat, p.toNat, s.toNat, zs, bs⟩ : Img)).getD k.toNat 0])) with
            | error y => exact canon_er1 b p s a a' n c m c' zs bs k x  w hn hm hr hrb hnc hc hk hx ht hE hk0 hkK hLG y hRE
            | ok Y => exact canon_ok1 b p s a a' n c m c' zs bs k x  w hn hm hr hrb hnc hc hk hx ht hE hk0 hkK hLG Y hRE
        · have hh1 : (h == 1) = false := by rw [beq_eq_false_iff_ne]; exact h1
          have hh2 : (h == 2) = false := by rw [beq_eq_false_iff_ne]; exact h2
          cases hLG : lrg (bentL (packL (⟨b.toNat, p.toNat, s.toNat, zs, bs⟩ : Img)) k.toNat [x]) with
          | true => exact canon_lg0 b p s a a' n c m c' zs bs k x h w hn hm hr hrb hnc hc hk hx hh1 hh2 ht hE hk0 hkK hLG
          | false =>
            cases hRE : readR (sealL (bentL (packL (⟨b.toNat, p.toNat, s.toNat, zs, bs⟩ : Img)) k.toNat [x])) with
            | error y => exact canon_er0 b p s a a' n c m c' zs bs k x h w hn hm hr hrb hnc hc hk hx hh1 hh2 ht hE hk0 hkK hLG y hRE
            | ok Y => exact canon_ok0 b p s a a' n c m c' zs bs k x h w hn hm hr hrb hnc hc hk hx hh1 hh2 ht hE hk0 hkK hLG Y hRE
  · exact canon_bad b p s a a' n c m c' zs bs k x h w hn hm hr hrb hnc hc hk hx hh ht hE
end Go.Proofs.YtnopljjngbgpdabDoor
