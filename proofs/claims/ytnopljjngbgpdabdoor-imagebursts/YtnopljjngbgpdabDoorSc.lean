/-
  SEAT YtnopljjngbgpdabDoor: what is packed is read back.
-/
import Derived.Test.YtnopljjngbgpdabDoorSb
namespace Go.Proofs.YtnopljjngbgpdabDoor
open Go.RowKit
set_option linter.unusedVariables false

theorem pack_len (M : Img) (h : M.Ok) : (packL M).length ≤ 900000000 := by
  obtain ⟨q1, q2, q3, q4, q5, q6, q7⟩ := fits_nat h.1
  have hb := packS_bound M.C (M.C + M.S) (chunks (M.C + M.S) (M.b * M.p) M.cs) ⟨headL M.b M.p M.s M.ms, 0, 0⟩ [] (chunks_len _ _ _ h.2.1) (by omega) (by rw [head_len]; omega) (by simp)
  have h2 := hb.2.1
  rw [chunks_count] at h2
  simp only at h2
  rw [head_len, h.2.2.1] at h2
  have h3 : M.b * M.p * (3 + (M.C + M.S)) ≤ 65536 * 2200 := Nat.mul_le_mul q7 (by unfold Img.C Img.S; omega)
  rw [packL, sealL, List.length_append]
  have h4 : (bodyL M).length ≤ 10 + (M.b + 7) / 8 + M.b * M.p * (3 + (M.C + M.S)) := h2
  have h5 : (le4 (sumL (nats (bodyL M)))).length = 4 := rfl
  omega

/-- An image that Check takes. -/
theorem img_of {b p s : Int} {n m : Nat} {zs : List Int} {bs : List Bool} (hE : chkE b p s n m = 0) (hz : zs.length = n) (hb : bs.length = m) (hby : Byt zs) :
    ∃ M : Img, M.Ok ∧ b = (M.b : Int) ∧ p = (M.p : Int) ∧ s = (M.s : Int) ∧ M.cs = zs ∧ M.ms = bs ∧ M.b = m := by
  unfold chkE at hE
  split at hE
  · rename_i hf
    split at hE
    · rename_i h2
      have h0 := of_decide_eq_true hf
      obtain ⟨b', rfl⟩ := Int.eq_ofNat_of_zero_le (show 0 ≤ b by omega)
      obtain ⟨p', rfl⟩ := Int.eq_ofNat_of_zero_le (show 0 ≤ p by omega)
      obtain ⟨s', rfl⟩ := Int.eq_ofNat_of_zero_le (show 0 ≤ s by omega)
      refine ⟨⟨b', p', s', zs, bs⟩, ⟨hf, ?_, ?_, hby⟩, rfl, rfl, rfl, rfl, rfl, by simp only; omega⟩
      · have h3 := h2.1
        rw [hz]
        unfold pgL at h3
        have e : (b' : Int) * (p' : Int) * (256 * (s' : Int) + (54 + 3 * (s' : Int))) = ((b' * p' * (256 * s' + (54 + 3 * s')) : Nat) : Int) := by
          have e2 : (256 * (s' : Int) + (54 + 3 * (s' : Int))) = ((256 * s' + (54 + 3 * s') : Nat) : Int) := by omega
          rw [e2, ← Int.natCast_mul, ← Int.natCast_mul]
        rw [e] at h3
        exact Int.ofNat.inj h3
      · rw [hb]; have := h2.2; simp only; omega
    · cases hE
  · cases hE

theorem packs_n {M : Img} (hok : M.Ok) {b p s : Int} {n m : Nat} {zs : List Int} {bs : List Bool} (hMb : b = (M.b : Int)) (hMp : p = (M.p : Int)) (hMs : s = (M.s : Int)) (hMc : M.cs = zs) (hMm : M.ms = bs) (hMn : M.b = m) {a a' : Option Addr} {c c' : Nat} (w : World) (hr : Reads w a n zs) (hrb : ReadsB w a' m bs) (hp : 0 < n) (hnc : n ≤ c) (hc : c ≤ 9223372036854775807) (ht : Tab w) :
    Calls Tryd.prog 11 #[.agg #[.int .i64 b, .int .i64 p, .int .i64 s, .slice a n c, .slice a' m c']] w fun e w' => ∃ g cap, e = .returned (.tuple #[.slice (some ⟨g, 0, none⟩) (packL M).length cap, .int .i64 0]) ∧ Own w' w.heap.size g (packL M).length cap (packL M) ∧ Below w.heap.size w w' := by
  subst hMb hMp hMs hMc hMm hMn
  obtain ⟨bk, off, rfl, hbk, _⟩ := hr.pos hp
  exact pack_ok M bk off n c a' M.b c' w hok hr hrb hbk hnc hc ht

theorem res_of {M : Img} (hok : M.Ok) {b p s : Int} {n m : Nat} {zs : List Int} {bs : List Bool} (hMb : b = (M.b : Int)) (hMp : p = (M.p : Int)) (hMs : s = (M.s : Int)) (hMc : M.cs = zs) (hMm : M.ms = bs) (hMn : M.b = m) (hz : zs.length = n) {w w' : World} {e : Ending} (h : RdRes w w' e (readR (packL M))) :
    ∃ g3 c3 gm, e = .returned (.tuple #[.agg #[.int .i64 b, .int .i64 p, .int .i64 s, .slice (some ⟨g3, 0, none⟩) n c3, .slice (some ⟨gm, 0, none⟩) m m], .int .i64 0]) ∧ Own w' w.heap.size g3 n c3 zs ∧ OwnB w' w.heap.size gm m m bs := by
  rw [back M hok] at h
  subst hMb hMp hMs hMc hMm hMn hz
  exact h

set_option maxHeartbeats 4000000 in
set_option maxRecDepth 100000 in
theorem back_bad (b p s : Int) (a a' : Option Addr) (n c m c' : Nat) (zs : List Int) (bs : List Bool) (w : World) (hn : n ≤ 140737488351232) (hm : m ≤ 140737488351232) (hr : Reads w a n zs) (hrb : ReadsB w a' m bs) (hnc : n ≤ c) (hc : c ≤ 9223372036854775807) (ht : Tab w) (hE : chkE b p s n m ≠ 0) :
    Calls Tryd.prog 3 #[.agg #[.int .i64 b, .int .i64 p, .int .i64 s, .slice a n c, .slice a' m c']] w fun e w' => e = .returned (.bool true) ∧ Below w.heap.size w w' := by
  have hn2 : n ≤ 140737488355000 := by omega
  have hm2 : m ≤ 140737488355000 := by omega
  have HT1 : Hid (Tab (w.alloc (.cells #[.int .i64 b, .int .i64 p, .int .i64 s, .slice a n c, .slice a' m c'] 27))) := ht.below (below_alloc w _)
  have HR1 : Hid (Reads (w.alloc (.cells #[.int .i64 b, .int .i64 p, .int .i64 s, .slice a n c, .slice a' m c'] 27)) a n zs) := hr.below (below_alloc w _)
  have HM1 : Hid (ReadsB (w.alloc (.cells #[.int .i64 b, .int .i64 p, .int .i64 s, .slice a n c, .slice a' m c'] 27)) a' m bs) := hrb.below (below_alloc w _)
  have HX1 : Hid ((w.alloc (.cells #[.int .i64 b, .int .i64 p, .int .i64 s, .slice a n c, .slice a' m c'] 27)).heap[w.heap.size]? = some (.cells #[.int .i64 b, .int .i64 p, .int .i64 s, .slice a n c, .slice a' m c'] 27 (0, 0))) := heap_alloc_new _ _
  have HB1 : Hid (Below w.heap.size w (w.alloc (.cells #[.int .i64 b, .int .i64 p, .int .i64 s, .slice a n c, .slice a' m c'] 27))) := below_alloc w _
  obtain ⟨e0, e1, e2, e3, e4⟩ := cells5 HX1.out
  clear hr hrb ht
  obtain ⟨x, hx⟩ : ∃ x, chkE b p s n m = x := ⟨_, rfl⟩
  have HEN : Hid (chkE b p s n m ≠ 0) := hE
  have HE : Hid (chkE b p s n m = x) := hx
  rw [hx] at hE
  have hx1 : (x == 0) = false := by rw [beq_eq_false_iff_ne]; exact hE
  clear hx
  go_enter Tryd.func3, Tryd.ntmps3
  go_wp2_with (first
    | (go_at_call 9; refine (heads_any _ HT1.out).mono ?_; rintro e t1 ⟨rfl, b1⟩
       have HX2 : Hid (t1.heap[w.heap.size]? = some (.cells #[.int .i64 b, .int .i64 p, .int .i64 s, .slice a n c, .slice a' m c'] 27 (0, 0))) := (b1.block _ (Array.getElem?_eq_some_iff.1 HX1.out).1).trans HX1.out
       have HB2 : Hid (Below w.heap.size w t1) := below_trans HB1.out b1
       have HT2 : Hid (Tab t1) := HT1.out.below b1
       have HR2 : Hid (Reads t1 a n zs) := HR1.out.below b1
       have HM2 : Hid (ReadsB t1 a' m bs) := HM1.out.below b1
       clear b1 e0 e1 e2 e3 e4
       obtain ⟨e0, e1, e2, e3, e4⟩ := cells5 HX2.out)
    | (go_at_call 10; refine (check_any b p s _ _ n _ m _ _ hn2 hm2).mono ?_; rintro e t2 ⟨rfl, b2⟩; rw [HE.out]
       have HX3 : Hid (t2.heap[w.heap.size]? = some (.cells #[.int .i64 b, .int .i64 p, .int .i64 s, .slice a n c, .slice a' m c'] 27 (0, 0))) := (b2.block _ (Array.getElem?_eq_some_iff.1 HX2.out).1).trans HX2.out
       have HB3 : Hid (Below w.heap.size w t2) := below_trans HB2.out b2
       have HT3 : Hid (Tab t2) := HT2.out.below b2
       have HR3 : Hid (Reads t2 a n zs) := HR2.out.below b2
       have HM3 : Hid (ReadsB t2 a' m bs) := HM2.out.below b2
       clear b2 e0 e1 e2 e3 e4
       obtain ⟨e0, e1, e2, e3, e4⟩ := cells5 HX3.out)
    | (go_at_call 12; refine (no_any _ _).mono ?_; rintro e t9 ⟨rfl, ht9⟩; rw [ht9]; clear ht9)
    | (go_at_call 11; refine (pack_bad b p s _ _ n _ m _ _ HEN.out hn2 hm2).mono ?_; rintro e t3 ⟨rfl, b3⟩; rw [HE.out]
       have HX4 : Hid (t3.heap[w.heap.size]? = some (.cells #[.int .i64 b, .int .i64 p, .int .i64 s, .slice a n c, .slice a' m c'] 27 (0, 0))) := (b3.block _ (Array.getElem?_eq_some_iff.1 HX3.out).1).trans HX3.out
       have HB4 : Hid (Below w.heap.size w t3) := below_trans HB3.out b3
       have HT4 : Hid (Tab t3) := HT3.out.below b3
       have HR4 : Hid (Reads t3 a n zs) := HR3.out.below b3
       have HM4 : Hid (ReadsB t3 a' m bs) := HM3.out.below b3
       clear b3 e0 e1 e2 e3 e4
       obtain ⟨e0, e1, e2, e3, e4⟩ := cells5 HX4.out))
  go_ret
  exact ⟨rfl, HB4.out⟩

set_option maxHeartbeats 4000000 in
set_option maxRecDepth 100000 in
theorem back_good (b p s : Int) (a a' : Option Addr) (n c m c' : Nat) (zs : List Int) (bs : List Bool) (w : World) (hn : n ≤ 140737488351232) (hm : m ≤ 140737488351232) (hr : Reads w a n zs) (hrb : ReadsB w a' m bs) (hnc : n ≤ c) (hc : c ≤ 9223372036854775807) (ht : Tab w) (hE : chkE b p s n m = 0) :
    Calls Tryd.prog 3 #[.agg #[.int .i64 b, .int .i64 p, .int .i64 s, .slice a n c, .slice a' m c']] w fun e w' => e = .returned (.bool true) ∧ Below w.heap.size w w' := by
  obtain ⟨M, hok, hMb, hMp, hMs, hMc, hMm, hMn⟩ := img_of hE hr.1 hrb.1 hr.2.1
  have HBY : Hid (Byt zs) := hr.2.1
  have HZL : Hid (zs.length = n) := hr.1
  have HPOS : Hid (0 < n) := by
    unfold Hid
    obtain ⟨q1, q2, q3, q4, q5, q6, q7⟩ := fits_nat hok.1
    have h9 := hok.2.1
    rw [hMc, hr.1] at h9
    rw [h9]
    exact Nat.mul_pos (Nat.mul_pos (by omega) (by omega)) (by unfold Img.S; omega)
  obtain ⟨K, hK⟩ : ∃ K, (packL M).length = K := ⟨_, rfl⟩
  have HKL : Hid ((packL M).length = K) := hK
  have hK9 := pack_len M hok
  rw [hK] at hK9
  have hK0 : 0 < K := by
    rw [← hK, packL, sealL, List.length_append]
    have h5 : (le4 (sumL (nats (bodyL M)))).length = 4 := rfl
    omega
  have HE : Hid (chkE b p s n m = 0) := hE
  have HMs : Hid (b = (M.b : Int) ∧ p = (M.p : Int) ∧ s = (M.s : Int) ∧ M.cs = zs ∧ M.ms = bs ∧ M.b = m) := ⟨hMb, hMp, hMs, hMc, hMm, hMn⟩
  clear hE hK hMb hMp hMs hMc hMm hMn
  have hn2 : n ≤ 140737488355000 := by omega
  have hm2 : m ≤ 140737488355000 := by omega
  have HT1 : Hid (Tab (w.alloc (.cells #[.int .i64 b, .int .i64 p, .int .i64 s, .slice a n c, .slice a' m c'] 27))) := ht.below (below_alloc w _)
  have HR1 : Hid (Reads (w.alloc (.cells #[.int .i64 b, .int .i64 p, .int .i64 s, .slice a n c, .slice a' m c'] 27)) a n zs) := hr.below (below_alloc w _)
  have HM1 : Hid (ReadsB (w.alloc (.cells #[.int .i64 b, .int .i64 p, .int .i64 s, .slice a n c, .slice a' m c'] 27)) a' m bs) := hrb.below (below_alloc w _)
  have HX1 : Hid ((w.alloc (.cells #[.int .i64 b, .int .i64 p, .int .i64 s, .slice a n c, .slice a' m c'] 27)).heap[w.heap.size]? = some (.cells #[.int .i64 b, .int .i64 p, .int .i64 s, .slice a n c, .slice a' m c'] 27 (0, 0))) := heap_alloc_new _ _
  have HB1 : Hid (Below w.heap.size w (w.alloc (.cells #[.int .i64 b, .int .i64 p, .int .i64 s, .slice a n c, .slice a' m c'] 27))) := below_alloc w _
  obtain ⟨e0, e1, e2, e3, e4⟩ := cells5 HX1.out
  clear hr hrb ht
  go_enter Tryd.func3, Tryd.ntmps3
  go_wp2_with (first
    | (go_at_call 9; refine (heads_any _ HT1.out).mono ?_; rintro e t1 ⟨rfl, b1⟩
       have HX2 : Hid (t1.heap[w.heap.size]? = some (.cells #[.int .i64 b, .int .i64 p, .int .i64 s, .slice a n c, .slice a' m c'] 27 (0, 0))) := (b1.block _ (Array.getElem?_eq_some_iff.1 HX1.out).1).trans HX1.out
       have HB2 : Hid (Below w.heap.size w t1) := below_trans HB1.out b1
       have HT2 : Hid (Tab t1) := HT1.out.below b1
       have HR2 : Hid (Reads t1 a n zs) := HR1.out.below b1
       have HM2 : Hid (ReadsB t1 a' m bs) := HM1.out.below b1
       clear b1 e0 e1 e2 e3 e4
       obtain ⟨e0, e1, e2, e3, e4⟩ := cells5 HX2.out)
    | (go_at_call 10; refine (check_any b p s _ _ n _ m _ _ hn2 hm2).mono ?_; rintro e t2 ⟨rfl, b2⟩; rw [HE.out]
       have HX3 : Hid (t2.heap[w.heap.size]? = some (.cells #[.int .i64 b, .int .i64 p, .int .i64 s, .slice a n c, .slice a' m c'] 27 (0, 0))) := (b2.block _ (Array.getElem?_eq_some_iff.1 HX2.out).1).trans HX2.out
       have HB3 : Hid (Below w.heap.size w t2) := below_trans HB2.out b2
       have HT3 : Hid (Tab t2) := HT2.out.below b2
       have HR3 : Hid (Reads t2 a n zs) := HR2.out.below b2
       have HM3 : Hid (ReadsB t2 a' m bs) := HM2.out.below b2
       clear b2 e0 e1 e2 e3 e4
       obtain ⟨e0, e1, e2, e3, e4⟩ := cells5 HX3.out)
    | (go_at_call 12; refine (no_any _ _).mono ?_; rintro e t9 ⟨rfl, ht9⟩; rw [ht9]; clear ht9)
    | (go_at_call 11; refine (packs_n hok HMs.out.1 HMs.out.2.1 HMs.out.2.2.1 HMs.out.2.2.2.1 HMs.out.2.2.2.2.1 HMs.out.2.2.2.2.2 _ HR3.out HM3.out HPOS.out hnc hc HT3.out).mono ?_; rintro e t3 ⟨g1, p1, rfl, o1, b3⟩; rw [HKL.out] at o1 ⊢
       have HX4 : Hid (t3.heap[w.heap.size]? = some (.cells #[.int .i64 b, .int .i64 p, .int .i64 s, .slice a n c, .slice a' m c'] 27 (0, 0))) := (b3.block _ (Array.getElem?_eq_some_iff.1 HX3.out).1).trans HX3.out
       have HB4 : Hid (Below w.heap.size w t3) := below_trans HB3.out b3
       have HT4 : Hid (Tab t3) := HT3.out.below b3
       have HR4 : Hid (Reads t3 a n zs) := HR3.out.below b3
       have HM4 : Hid (ReadsB t3 a' m bs) := HM3.out.below b3
       have HO4 : Hid (Reads t3 (some ⟨g1, 0, none⟩) K (packL M)) := o1.all (pack_byt M hok)
       have hp1 := o1.room_le hK0
       have hp2 : K ≤ p1 ∧ p1 ≤ 9223372036854775807 := by simp only [maxLen] at hp1; omega
       have HG4 : Hid (g1 < t3.heap.size) := o1.lt.2
       clear o1 hp1
       clear b3 e0 e1 e2 e3 e4
       obtain ⟨e0, e1, e2, e3, e4⟩ := cells5 HX4.out)
    | (go_at_call 13; refine (read_n g1 0 K p1 (packL M) _ HKL.out HO4.out (by omega) hp2.1 hp2.2 HG4.out HT4.out).mono ?_; rintro e t4 ⟨res, b4⟩
       obtain ⟨g3, c3, gm, rfl, o3, m3⟩ := res_of hok HMs.out.1 HMs.out.2.1 HMs.out.2.2.1 HMs.out.2.2.2.1 HMs.out.2.2.2.2.1 HMs.out.2.2.2.2.2 HZL.out res
       have b5 : Below t3.heap.size t3 (t4.alloc (.cells #[.int .i64 b, .int .i64 p, .int .i64 s, .slice (some ⟨g3, 0, none⟩) n c3, .slice (some ⟨gm, 0, none⟩) m m] 27)) := below_trans b4 (below_alloc _ _)
       have HX5 : Hid ((t4.alloc (.cells #[.int .i64 b, .int .i64 p, .int .i64 s, .slice (some ⟨g3, 0, none⟩) n c3, .slice (some ⟨gm, 0, none⟩) m m] 27)).heap[w.heap.size]? = some (.cells #[.int .i64 b, .int .i64 p, .int .i64 s, .slice a n c, .slice a' m c'] 27 (0, 0))) := (b5.block _ (Array.getElem?_eq_some_iff.1 HX4.out).1).trans HX4.out
       have HB5 : Hid (Below w.heap.size w (t4.alloc (.cells #[.int .i64 b, .int .i64 p, .int .i64 s, .slice (some ⟨g3, 0, none⟩) n c3, .slice (some ⟨gm, 0, none⟩) m m] 27))) := below_trans HB4.out b5
       have HT5 : Hid (Tab (t4.alloc (.cells #[.int .i64 b, .int .i64 p, .int .i64 s, .slice (some ⟨g3, 0, none⟩) n c3, .slice (some ⟨gm, 0, none⟩) m m] 27))) := HT4.out.below b5
       have HR5 : Hid (Reads (t4.alloc (.cells #[.int .i64 b, .int .i64 p, .int .i64 s, .slice (some ⟨g3, 0, none⟩) n c3, .slice (some ⟨gm, 0, none⟩) m m] 27)) a n zs) := HR4.out.below b5
       have HM5 : Hid (ReadsB (t4.alloc (.cells #[.int .i64 b, .int .i64 p, .int .i64 s, .slice (some ⟨g3, 0, none⟩) n c3, .slice (some ⟨gm, 0, none⟩) m m] 27)) a' m bs) := HM4.out.below b5
       have HQ5 : Hid (Reads (t4.alloc (.cells #[.int .i64 b, .int .i64 p, .int .i64 s, .slice (some ⟨g3, 0, none⟩) n c3, .slice (some ⟨gm, 0, none⟩) m m] 27)) (some ⟨g3, 0, none⟩) n zs) := (o3.all HBY.out).below (below_alloc _ _)
       have HN5 : Hid (ReadsB (t4.alloc (.cells #[.int .i64 b, .int .i64 p, .int .i64 s, .slice (some ⟨g3, 0, none⟩) n c3, .slice (some ⟨gm, 0, none⟩) m m] 27)) (some ⟨gm, 0, none⟩) m bs) := by have h9 := (m3.reads m (Nat.le_refl _)).below (below_alloc t4 (.cells #[.int .i64 b, .int .i64 p, .int .i64 s, .slice (some ⟨g3, 0, none⟩) n c3, .slice (some ⟨gm, 0, none⟩) m m] 27)); rw [List.take_of_length_le (Nat.le_of_eq m3.len)] at h9; exact h9
       have HY5 : Hid ((t4.alloc (.cells #[.int .i64 b, .int .i64 p, .int .i64 s, .slice (some ⟨g3, 0, none⟩) n c3, .slice (some ⟨gm, 0, none⟩) m m] 27)).heap[t4.heap.size]? = some (.cells #[.int .i64 b, .int .i64 p, .int .i64 s, .slice (some ⟨g3, 0, none⟩) n c3, .slice (some ⟨gm, 0, none⟩) m m] 27 (0, 0))) := heap_alloc_new _ _
       clear res o3 m3 b4
       obtain ⟨y0, y1, y2, y3, y4⟩ := cells5 HY5.out
       clear b5 e0 e1 e2 e3 e4
       obtain ⟨e0, e1, e2, e3, e4⟩ := cells5 HX5.out)
    | (go_at_call 14; refine (alike_eq b p s _ _ n _ _ zs _ _ m _ _ bs _ HQ5.out HR5.out HN5.out HM5.out hm2).mono ?_; rintro e t6 ⟨rfl, b6⟩
       have HB6 : Hid (Below w.heap.size w t6) := below_trans HB5.out b6
       clear b6 e0 e1 e2 e3 e4 y0 y1 y2 y3 y4))
  go_ret
  exact ⟨rfl, HB6.out⟩

theorem backWalk (b p s : Int) (a a' : Option Addr) (n c m c' : Nat) (zs : List Int) (bs : List Bool) (w : World) (hn : n ≤ 140737488351232) (hm : m ≤ 140737488351232) (hr : Reads w a n zs) (hrb : ReadsB w a' m bs) (hnc : n ≤ c) (hc : c ≤ 9223372036854775807) (ht : Tab w) :
    Calls Tryd.prog 3 #[.agg #[.int .i64 b, .int .i64 p, .int .i64 s, .slice a n c, .slice a' m c']] w fun e w' => e = .returned (.bool true) ∧ Below w.heap.size w w' := by
  by_cases hE : chkE b p s n m = 0
  · exact back_good b p s a a' n c m c' zs bs w hn hm hr hrb hnc hc ht hE
  · exact back_bad b p s a a' n c m c' zs bs w hn hm hr hrb hnc hc ht hE

end Go.Proofs.YtnopljjngbgpdabDoor
