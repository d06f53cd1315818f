/-
  SEAT YtnopljjngbgpdabDoor: Sm, of several texts.
-/
import Derived.Test.YtnopljjngbgpdabDoorSd
namespace Go.Proofs.YtnopljjngbgpdabDoor
open Go.RowKit
set_option linter.unusedVariables false

theorem le4_cells (u : World) (s : Nat) : Reads (u.alloc (.cells #[.int .u8 ((s % 256 : Nat) : Int), .int .u8 ((s / 256 % 256 : Nat) : Int), .int .u8 ((s / 65536 % 256 : Nat) : Int), .int .u8 ((s / 16777216 % 256 : Nat) : Int)] 5)) (some ⟨u.heap.size, 0, none⟩) 4 (le4 s) :=
  reads_alloc u (le4 s) (by intro x hx; simp [le4] at hx; omega)

set_option maxHeartbeats 2000000 in
set_option maxRecDepth 100000 in
theorem sealed_any (a : Option Addr) (n c : Nat) (bs : List Int) (w : World) (hr : Reads w a n bs) (hn : n ≤ 100000000000000) (ht : Tab w) :
    Calls Tryd.prog 17 #[.slice a n c] w fun e w' => ∃ g cc, e = .returned (.slice (some ⟨g, 0, none⟩) (n + 4) cc) ∧ Own w' w.heap.size g (n + 4) cc (sealL bs) ∧ Below w.heap.size w w' := by
  obtain ⟨s, hs⟩ : ∃ s, sumL (nats bs) = s := ⟨_, rfl⟩
  have HS : Hid (sumL (nats bs) = s) := hs
  have hs4 : s < 4294967296 := by rw [← hs]; exact sumL_lt hr.2.1
  have w0 : IntKind.u8.wrap (s : Int) = ((s % 256 : Nat) : Int) := by rw [IntKind.wrap_u8]; omega
  have w1 : IntKind.u8.wrap ((s : Int) / 256) = ((s / 256 % 256 : Nat) : Int) := by rw [IntKind.wrap_u8]; omega
  have w2 : IntKind.u8.wrap ((s : Int) / 65536) = ((s / 65536 % 256 : Nat) : Int) := by rw [IntKind.wrap_u8]; omega
  have w3 : IntKind.u8.wrap ((s : Int) / 16777216) = ((s / 16777216 % 256 : Nat) : Int) := by rw [IntKind.wrap_u8]; omega
  have HR : Hid (Reads w a n bs) := hr
  have HT : Hid (Tab w) := ht
  have TA : Hid True := trivial
  clear hs hr ht
  go_enter Tryd.func17, Tryd.ntmps17
  go_wp2_with (first
    | (go_at_call 33; refine (sum_any _ _ _ bs _ (by omega) HR.out HT.out).mono ?_; rintro e t1 ⟨rfl, ht1⟩; rw [← ht1, HS.out]; clear ht1)
    | (at_builtin; have zz := TA; clear TA zz; refine wpList_append_reads rfl (.tmp 6) (.tmp 7) rfl w.heap.size (.slice (some ⟨w.heap.size, 0, none⟩) 0 0) 0 [] rfl (own_empty' w w.heap.size rfl) a n c bs rfl (HR.out.below (below_alloc _ _)) (by omega) (by simp) ?_; intro v1 w1 own1 grow1; simp only [Nat.zero_add, List.nil_append] at own1
       have HB6 : Hid (Below w.heap.size w w1) := (below_alloc w _).grown grow1 (by simp) (fun q hq => ((own_empty' w w.heap.size rfl).lt q hq).1)
       have HO6 : Hid (w1.ownsRow w.heap.size 5 1 v1 n (bs.map (Value.int .u8))) := own1
       have TB : Hid True := trivial
       clear own1 grow1)
    | (at_builtin; have zz := TB; clear TB zz; refine wpList_append_reads rfl (.tmp 8) (.tmp 20) rfl w.heap.size v1 n bs rfl (HO6.out.alloc _) _ 4 4 (le4 s) rfl (le4_cells w1 s) (by omega) (by have := HB6.out.size; simp; omega) ?_; intro v2 w2 own2 grow2; obtain ⟨g2, c2, rfl, hc21, hc22, hg21, hg22⟩ := own_shape own2 (by omega)
       have HB7 : Hid (Below w.heap.size w w2) := (HB6.out.alloc HB6.out.size _).grown grow2 (by have := HB6.out.size; simp; omega) (fun q hq => (HO6.out.lt q hq).1)
       have HO7 : Hid (Own w2 w.heap.size g2 (n + 4) c2 (bs ++ le4 s)) := own2
       clear own2 grow2 hc21 hc22 hg21 hg22))
  go_ret
  exact ⟨g2, c2, rfl, by unfold sealL; rw [HS.out]; exact HO7.out, HB7.out⟩

set_option maxHeartbeats 2000000 in
set_option maxRecDepth 100000 in
theorem large_any (bk off n c : Nat) (bs : List Int) (w : World) (hr : Reads w (some ⟨bk, off, none⟩) n bs) (hn : n ≤ 140737488355000) :
    Calls Tryd.prog 15 #[.slice (some ⟨bk, off, none⟩) n c] w fun e w' => ∃ (b : Bool) (q : Nat), e = .returned (.bool b) ∧ w' = w.drewN q := by
  by_cases h : n < 10
  · have d1 : (n : Int) < 10 := by omega
    go_enter Tryd.func15, Tryd.ntmps15
    go_wp2
    go_ret
    exact ⟨_, 0, rfl, rfl⟩
  · have d1 : ¬ (n : Int) < 10 := by omega
    obtain ⟨b', o', hb, hbk, hcell⟩ := hr.pos (by omega)
    have hb2 := Option.some.inj hb
    injection hb2 with hb3 hb4
    subst hb3 hb4
    have k5 := hcell 5 (by omega)
    have k6 := hcell 6 (by omega)
    have k7 := hcell 7 (by omega)
    have k8 := hcell 8 (by omega)
    have k9 := hcell 9 (by omega)
    have j5 : (5 : Int) < (n : Int) := by omega
    have j6 : (6 : Int) < (n : Int) := by omega
    have j7 : (7 : Int) < (n : Int) := by omega
    have j8 : (8 : Int) < (n : Int) := by omega
    have j9 : (9 : Int) < (n : Int) := by omega
    have b5 := byt_getD hr.2.1 5
    have b6 := byt_getD hr.2.1 6
    have b7 := byt_getD hr.2.1 7
    have b8 := byt_getD hr.2.1 8
    have b9 := byt_getD hr.2.1 9
    generalize bs.getD 5 0 = z5 at k5 b5
    generalize bs.getD 6 0 = z6 at k6 b6
    generalize bs.getD 7 0 = z7 at k7 b7
    generalize bs.getD 8 0 = z8 at k8 b8
    generalize bs.getD 9 0 = z9 at k9 b9
    clear hcell hr
    go_enter Tryd.func15, Tryd.ntmps15
    go_wp2
    go_quiet (fail)
    go_wp2
    go_ret
    exact ⟨_, _, rfl, rfl⟩
theorem same_any (a a' : Option Addr) (n n' c c' : Nat) (xs ys : List Int) (w : World) (h : Reads w a n xs) (h' : Reads w a' n' ys) :
    Calls Tryd.prog 16 #[.slice a n c, .slice a' n' c'] w fun e w' => e = .returned (.bool (decide (xs = ys))) ∧ w' = w := by
  have e1 := conv a n c xs w h
  have e2 := conv a' n' c' ys w h'
  have HE : Hid _ := str_eq h.2.1 h'.2.1
  clear h h'
  go_enter Tryd.func16, Tryd.ntmps16
  go_wp2
  go_ret
  refine ⟨?_, rfl⟩
  exact ret_bool HE.out
/-- What the laws leave out. -/
def lrg (bs : List Int) : Bool := if bs.length < 10 then false else decide ((4194304 : Int) < ((bs.getD 5 0 + 256 * bs.getD 6 0) * (bs.getD 7 0 + 256 * bs.getD 8 0)) * (259 * bs.getD 9 0 + 54))

set_option maxHeartbeats 2000000 in
set_option maxRecDepth 100000 in
theorem large_fn (bk off n c : Nat) (bs : List Int) (w : World) (hr : Reads w (some ⟨bk, off, none⟩) n bs) (hn : n ≤ 140737488355000) :
    Calls Tryd.prog 15 #[.slice (some ⟨bk, off, none⟩) n c] w fun e w' => ∃ (q : Nat), e = .returned (.bool (lrg bs)) ∧ w' = w.drewN q := by
  by_cases h : n < 10
  · have d1 : (n : Int) < 10 := by omega
    go_enter Tryd.func15, Tryd.ntmps15
    go_wp2
    go_ret
    have e9 : lrg bs = false := by unfold lrg; rw [if_pos (by have := hr.1; omega)]
    exact ⟨0, by rw [e9]; rfl, rfl⟩
  · have d1 : ¬ (n : Int) < 10 := by omega
    obtain ⟨b', o', hb, hbk, hcell⟩ := hr.pos (by omega)
    have hb2 := Option.some.inj hb
    injection hb2 with hb3 hb4
    subst hb3 hb4
    have k5 := hcell 5 (by omega)
    have k6 := hcell 6 (by omega)
    have k7 := hcell 7 (by omega)
    have k8 := hcell 8 (by omega)
    have k9 := hcell 9 (by omega)
    have j5 : (5 : Int) < (n : Int) := by omega
    have j6 : (6 : Int) < (n : Int) := by omega
    have j7 : (7 : Int) < (n : Int) := by omega
    have j8 : (8 : Int) < (n : Int) := by omega
    have j9 : (9 : Int) < (n : Int) := by omega
    have b5 := byt_getD hr.2.1 5
    have b6 := byt_getD hr.2.1 6
    have b7 := byt_getD hr.2.1 7
    have b8 := byt_getD hr.2.1 8
    have b9 := byt_getD hr.2.1 9
    have HL : Hid (lrg bs = decide ((4194304 : Int) < ((bs.getD 5 0 + 256 * bs.getD 6 0) * (bs.getD 7 0 + 256 * bs.getD 8 0)) * (259 * bs.getD 9 0 + 54))) := by unfold Hid lrg; rw [if_neg (by have := hr.1; omega)]
    generalize bs.getD 5 0 = z5 at k5 b5 HL
    generalize bs.getD 6 0 = z6 at k6 b6 HL
    generalize bs.getD 7 0 = z7 at k7 b7 HL
    generalize bs.getD 8 0 = z8 at k8 b8 HL
    generalize bs.getD 9 0 = z9 at k9 b9 HL
    obtain ⟨A, hA⟩ : ∃ A, z5 + 256 * z6 = A := ⟨_, rfl⟩
    obtain ⟨B, hB⟩ : ∃ B, z7 + 256 * z8 = B := ⟨_, rfl⟩
    obtain ⟨Q, hQ⟩ : ∃ Q, 259 * z9 + 54 = Q := ⟨_, rfl⟩
    have hA1 : 0 ≤ A ∧ A ≤ 65535 := by omega
    have hB1 : 0 ≤ B ∧ B ≤ 65535 := by omega
    have hQ1 : 0 ≤ Q ∧ Q ≤ 66099 := by omega
    obtain ⟨P, hP⟩ : ∃ P, A * B = P := ⟨_, rfl⟩
    have hP1 : 0 ≤ P ∧ P ≤ 4294836225 := by
      rw [← hP]
      exact ⟨Int.mul_nonneg hA1.1 hB1.1, by have := Int.mul_le_mul hA1.2 hB1.2 hB1.1 (by omega : (0 : Int) ≤ 65535); omega⟩
    obtain ⟨R, hR⟩ : ∃ R, P * Q = R := ⟨_, rfl⟩
    have hR1 : 0 ≤ R ∧ R ≤ 300000000000000 := by
      rw [← hR]
      exact ⟨Int.mul_nonneg hP1.1 hQ1.1, by have := Int.mul_le_mul hP1.2 hQ1.2 hQ1.1 (by omega : (0 : Int) ≤ 4294836225); omega⟩
    have HL2 : Hid (lrg bs = decide ((4194304 : Int) < R)) := by unfold Hid; rw [HL.out, hA, hB, hQ, hP, hR]
    clear hcell hr HL
    go_enter Tryd.func15, Tryd.ntmps15
    go_wp2
    go_quiet (fail)
    go_wp2
    go_ret
    refine ⟨_, ?_, rfl⟩
    rw [HL2.out]
    first | rfl | (congr 2; done) | simp
set_option maxHeartbeats 4000000 in
set_option maxRecDepth 100000 in
theorem canon_bad (b p s : Int) (a a' : Option Addr) (n c m c' : Nat) (zs : List Int) (bs : List Bool) (k x h : Int) (w : World) (hn : n ≤ 140737488351232) (hm : m ≤ 140737488351232) (hr : Reads w a n zs) (hrb : ReadsB w a' m bs) (hnc : n ≤ c) (hc : c ≤ 9223372036854775807) (hk : -9223372036854775808 ≤ k ∧ k ≤ 9223372036854775807) (hx : 0 ≤ x ∧ x ≤ 255) (hh : -9223372036854775808 ≤ h ∧ h ≤ 9223372036854775807) (ht : Tab w) (hE : chkE b p s n m ≠ 0) :
    Calls Tryd.prog 6 #[.agg #[.int .i64 b, .int .i64 p, .int .i64 s, .slice a n c, .slice a' m c'], .int .i64 k, .int .u8 x, .int .i64 h] w fun e w' => e = .returned (.bool true) ∧ Below w.heap.size w w' := by
  have hn2 : n ≤ 140737488355000 := by omega
  have hm2 : m ≤ 140737488355000 := by omega
  have HT1 : Hid (Tab (w.alloc (.cells #[.int .i64 b, .int .i64 p, .int .i64 s, .slice a n c, .slice a' m c'] 27))) := ht.below (below_alloc w _)
  have HR1 : Hid (Reads (w.alloc (.cells #[.int .i64 b, .int .i64 p, .int .i64 s, .slice a n c, .slice a' m c'] 27)) a n zs) := hr.below (below_alloc w _)
  have HM1 : Hid (ReadsB (w.alloc (.cells #[.int .i64 b, .int .i64 p, .int .i64 s, .slice a n c, .slice a' m c'] 27)) a' m bs) := hrb.below (below_alloc w _)
  have HX1 : Hid ((w.alloc (.cells #[.int .i64 b, .int .i64 p, .int .i64 s, .slice a n c, .slice a' m c'] 27)).heap[w.heap.size]? = some (.cells #[.int .i64 b, .int .i64 p, .int .i64 s, .slice a n c, .slice a' m c'] 27 (0, 0))) := heap_alloc_new _ _
  have HB1 : Hid (Below w.heap.size w (w.alloc (.cells #[.int .i64 b, .int .i64 p, .int .i64 s, .slice a n c, .slice a' m c'] 27))) := below_alloc w _
  obtain ⟨e0, e1, e2, e3, e4⟩ := cells5 HX1.out
  clear hr hrb ht
  obtain ⟨y, hy⟩ : ∃ y, chkE b p s n m = y := ⟨_, rfl⟩
  have HEN : Hid (chkE b p s n m ≠ 0) := hE
  have HE : Hid (chkE b p s n m = y) := hy
  rw [hy] at hE
  have hx1 : (y == 0) = false := by rw [beq_eq_false_iff_ne]; exact hE
  clear hy
  go_enter Tryd.func6, Tryd.ntmps6
  go_wp2_with (first
    | (go_at_call 9; refine (heads_any _ HT1.out).mono ?_; rintro e t1 ⟨rfl, b1⟩
       have HX2 : Hid (t1.heap[w.heap.size]? = some (.cells #[.int .i64 b, .int .i64 p, .int .i64 s, .slice a n c, .slice a' m c'] 27 (0, 0))) := (b1.block _ (Array.getElem?_eq_some_iff.1 HX1.out).1).trans HX1.out
       have HB2 : Hid (Below w.heap.size w t1) := below_trans HB1.out b1
       have HT2 : Hid (Tab t1) := HT1.out.below b1
       have HR2 : Hid (Reads t1 a n zs) := HR1.out.below b1
       have HM2 : Hid (ReadsB t1 a' m bs) := HM1.out.below b1
       clear b1 e0 e1 e2 e3 e4
       obtain ⟨e0, e1, e2, e3, e4⟩ := cells5 HX2.out)
    | (go_at_call 12; refine (no_any _ _).mono ?_; rintro e t9 ⟨rfl, ht9⟩; rw [ht9]; clear ht9)
    | (go_at_call 11; refine (pack_bad b p s _ _ n _ m _ _ HEN.out hn2 hm2).mono ?_; rintro e t3 ⟨rfl, b3⟩; rw [HE.out]
       have HX4 : Hid (t3.heap[w.heap.size]? = some (.cells #[.int .i64 b, .int .i64 p, .int .i64 s, .slice a n c, .slice a' m c'] 27 (0, 0))) := (b3.block _ (Array.getElem?_eq_some_iff.1 HX2.out).1).trans HX2.out
       have HB4 : Hid (Below w.heap.size w t3) := below_trans HB2.out b3
       have HT4 : Hid (Tab t3) := HT2.out.below b3
       have HR4 : Hid (Reads t3 a n zs) := HR2.out.below b3
       have HM4 : Hid (ReadsB t3 a' m bs) := HM2.out.below b3
       clear b3 e0 e1 e2 e3 e4
       obtain ⟨e0, e1, e2, e3, e4⟩ := cells5 HX4.out))
  go_ret
  exact ⟨rfl, HB4.out⟩

set_option maxHeartbeats 4000000 in
set_option maxRecDepth 100000 in
theorem canon_out (b p s : Int) (a a' : Option Addr) (n c m c' : Nat) (zs : List Int) (bs : List Bool) (k x h : Int) (w : World) (hn : n ≤ 140737488351232) (hm : m ≤ 140737488351232) (hr : Reads w a n zs) (hrb : ReadsB w a' m bs) (hnc : n ≤ c) (hc : c ≤ 9223372036854775807) (hk : -9223372036854775808 ≤ k ∧ k ≤ 9223372036854775807) (hx : 0 ≤ x ∧ x ≤ 255) (hh : -9223372036854775808 ≤ h ∧ h ≤ 9223372036854775807) (ht : Tab w) (hE : chkE b p s n m = 0) (hkN : k < 0 ∨ ((packL (⟨b.toNat, p.toNat, s.toNat, zs, bs⟩ : Img)).length : Int) - 4 ≤ k) :
    Calls Tryd.prog 6 #[.agg #[.int .i64 b, .int .i64 p, .int .i64 s, .slice a n c, .slice a' m c'], .int .i64 k, .int .u8 x, .int .i64 h] w fun e w' => e = .returned (.bool true) ∧ Below w.heap.size w w' := by
  obtain ⟨M, hok, hMb, hMp, hMs, hMc, hMm, hMn⟩ := img_of hE hr.1 hrb.1 hr.2.1
  have HPOS : Hid (0 < n) := by
    unfold Hid
    obtain ⟨q1, q2, q3, q4, q5, q6, q7⟩ := fits_nat hok.1
    have h9 := hok.2.1
    rw [hMc, hr.1] at h9
    rw [h9]
    exact Nat.mul_pos (Nat.mul_pos (by omega) (by omega)) (by unfold Img.S; omega)
  obtain ⟨K, hK⟩ : ∃ K, (packL M).length = K := ⟨_, rfl⟩
  have HKL : Hid ((packL M).length = K) := hK
  have hMM : (⟨b.toNat, p.toNat, s.toNat, zs, bs⟩ : Img) = M := by obtain ⟨y1, y2, y3, y4, y5⟩ := M; simp only at hMb hMp hMs hMc hMm; subst hMc hMm; simp [hMb, hMp, hMs]
  rw [hMM, hK] at hkN
  clear hMM
  have hK9 := pack_len M hok
  rw [hK] at hK9
  have hK0 : 0 < K := by
    rw [← hK, packL, sealL, List.length_append]
    have h5 : (le4 (sumL (nats (bodyL M)))).length = 4 := rfl
    omega
  have hK14 : 14 ≤ K := by
    have hb := packS_bound M.C (M.C + M.S) (chunks (M.C + M.S) (M.b * M.p) M.cs) ⟨headL M.b M.p M.s M.ms, 0, 0⟩ [] (chunks_len _ _ _ hok.2.1) (by omega) (by rw [head_len]; omega) (by simp)
    have h2 : (headL M.b M.p M.s M.ms).length ≤ (bodyL M).length := hb.1
    rw [head_len] at h2
    rw [← hK, packL, sealL, List.length_append]
    have h5 : (le4 (sumL (nats (bodyL M)))).length = 4 := rfl
    omega
  have HMs : Hid (b = (M.b : Int) ∧ p = (M.p : Int) ∧ s = (M.s : Int) ∧ M.cs = zs ∧ M.ms = bs ∧ M.b = m) := ⟨hMb, hMp, hMs, hMc, hMm, hMn⟩
  clear hE hK hMb hMp hMs hMc hMm hMn
  have hn2 : n ≤ 140737488355000 := by omega
  have hm2 : m ≤ 140737488355000 := by omega
  have HT1 : Hid (Tab (w.alloc (.cells #[.int .i64 b, .int .i64 p, .int .i64 s, .slice a n c, .slice a' m c'] 27))) := ht.below (below_alloc w _)
  have HR1 : Hid (Reads (w.alloc (.cells #[.int .i64 b, .int .i64 p, .int .i64 s, .slice a n c, .slice a' m c'] 27)) a n zs) := hr.below (below_alloc w _)
  have HM1 : Hid (ReadsB (w.alloc (.cells #[.int .i64 b, .int .i64 p, .int .i64 s, .slice a n c, .slice a' m c'] 27)) a' m bs) := hrb.below (below_alloc w _)
  have HX1 : Hid ((w.alloc (.cells #[.int .i64 b, .int .i64 p, .int .i64 s, .slice a n c, .slice a' m c'] 27)).heap[w.heap.size]? = some (.cells #[.int .i64 b, .int .i64 p, .int .i64 s, .slice a n c, .slice a' m c'] 27 (0, 0))) := heap_alloc_new _ _
  have HB1 : Hid (Below w.heap.size w (w.alloc (.cells #[.int .i64 b, .int .i64 p, .int .i64 s, .slice a n c, .slice a' m c'] 27))) := below_alloc w _
  obtain ⟨e0, e1, e2, e3, e4⟩ := cells5 HX1.out
  clear hr hrb ht
  have T3 : Hid True := trivial
  have fK : ¬ (K : Int) < 4 := by omega
  rcases Int.lt_or_le k 0 with f1 | f1
  · go_enter Tryd.func6, Tryd.ntmps6
    go_wp2_with (first
      | (go_at_call 9; refine (heads_any _ HT1.out).mono ?_; rintro e t1 ⟨rfl, b1⟩
         have HX2 : Hid (t1.heap[w.heap.size]? = some (.cells #[.int .i64 b, .int .i64 p, .int .i64 s, .slice a n c, .slice a' m c'] 27 (0, 0))) := (b1.block _ (Array.getElem?_eq_some_iff.1 HX1.out).1).trans HX1.out
         have HB2 : Hid (Below w.heap.size w t1) := below_trans HB1.out b1
         have HT2 : Hid (Tab t1) := HT1.out.below b1
         have HR2 : Hid (Reads t1 a n zs) := HR1.out.below b1
         have HM2 : Hid (ReadsB t1 a' m bs) := HM1.out.below b1
         clear b1 e0 e1 e2 e3 e4
         obtain ⟨e0, e1, e2, e3, e4⟩ := cells5 HX2.out)
      | (go_at_call 12; refine (no_any _ _).mono ?_; rintro e t9 ⟨rfl, ht9⟩; rw [ht9]; clear ht9)
      | (go_at_call 11; have zz := T3; clear T3 zz; refine (packs_n hok HMs.out.1 HMs.out.2.1 HMs.out.2.2.1 HMs.out.2.2.2.1 HMs.out.2.2.2.2.1 HMs.out.2.2.2.2.2 _ HR2.out HM2.out HPOS.out hnc hc HT2.out).mono ?_; rintro e t3 ⟨g1, p1, rfl, o1, b3⟩; rw [HKL.out] at o1 ⊢
         have HX4 : Hid (t3.heap[w.heap.size]? = some (.cells #[.int .i64 b, .int .i64 p, .int .i64 s, .slice a n c, .slice a' m c'] 27 (0, 0))) := (b3.block _ (Array.getElem?_eq_some_iff.1 HX2.out).1).trans HX2.out
         have HB4 : Hid (Below w.heap.size w t3) := below_trans HB2.out b3
         have HT4 : Hid (Tab t3) := HT2.out.below b3
         have HR4 : Hid (Reads t3 a n zs) := HR2.out.below b3
         have HM4 : Hid (ReadsB t3 a' m bs) := HM2.out.below b3
         have HO4 : Hid (Reads t3 (some ⟨g1, 0, none⟩) K (packL M)) := o1.all (pack_byt M hok)
         have hp1 := o1.room_le hK0
         have hp2 : K ≤ p1 ∧ p1 ≤ 9223372036854775807 := by simp only [maxLen] at hp1; omega
         have HG4 : Hid (g1 < t3.heap.size) := o1.lt.2
         clear o1 hp1
         clear b3 e0 e1 e2 e3 e4))
    go_ret
    exact ⟨rfl, HB4.out⟩
  · have f2 : ¬ k < (K : Int) - 4 := by omega
    have f3 : (K : Int) - 4 ≤ k := by omega
    go_enter Tryd.func6, Tryd.ntmps6
    go_wp2_with (first
      | (go_at_call 9; refine (heads_any _ HT1.out).mono ?_; rintro e t1 ⟨rfl, b1⟩
         have HX2 : Hid (t1.heap[w.heap.size]? = some (.cells #[.int .i64 b, .int .i64 p, .int .i64 s, .slice a n c, .slice a' m c'] 27 (0, 0))) := (b1.block _ (Array.getElem?_eq_some_iff.1 HX1.out).1).trans HX1.out
         have HB2 : Hid (Below w.heap.size w t1) := below_trans HB1.out b1
         have HT2 : Hid (Tab t1) := HT1.out.below b1
         have HR2 : Hid (Reads t1 a n zs) := HR1.out.below b1
         have HM2 : Hid (ReadsB t1 a' m bs) := HM1.out.below b1
         clear b1 e0 e1 e2 e3 e4
         obtain ⟨e0, e1, e2, e3, e4⟩ := cells5 HX2.out)
      | (go_at_call 12; refine (no_any _ _).mono ?_; rintro e t9 ⟨rfl, ht9⟩; rw [ht9]; clear ht9)
      | (go_at_call 11; have zz := T3; clear T3 zz; refine (packs_n hok HMs.out.1 HMs.out.2.1 HMs.out.2.2.1 HMs.out.2.2.2.1 HMs.out.2.2.2.2.1 HMs.out.2.2.2.2.2 _ HR2.out HM2.out HPOS.out hnc hc HT2.out).mono ?_; rintro e t3 ⟨g1, p1, rfl, o1, b3⟩; rw [HKL.out] at o1 ⊢
         have HX4 : Hid (t3.heap[w.heap.size]? = some (.cells #[.int .i64 b, .int .i64 p, .int .i64 s, .slice a n c, .slice a' m c'] 27 (0, 0))) := (b3.block _ (Array.getElem?_eq_some_iff.1 HX2.out).1).trans HX2.out
         have HB4 : Hid (Below w.heap.size w t3) := below_trans HB2.out b3
         have HT4 : Hid (Tab t3) := HT2.out.below b3
         have HR4 : Hid (Reads t3 a n zs) := HR2.out.below b3
         have HM4 : Hid (ReadsB t3 a' m bs) := HM2.out.below b3
         have HO4 : Hid (Reads t3 (some ⟨g1, 0, none⟩) K (packL M)) := o1.all (pack_byt M hok)
         have hp1 := o1.room_le hK0
         have hp2 : K ≤ p1 ∧ p1 ≤ 9223372036854775807 := by simp only [maxLen] at hp1; omega
         have HG4 : Hid (g1 < t3.heap.size) := o1.lt.2
         clear o1 hp1
         clear b3 e0 e1 e2 e3 e4))
    go_ret
    exact ⟨rfl, HB4.out⟩
end Go.Proofs.YtnopljjngbgpdabDoor
