/-
  SEAT YtnopljjngbgpdabDoor: a row is whole.
-/
import Derived.Test.YtnopljjngbgpdabDoorSc
import Derived.Deep.DeepAppendWide
namespace Go.Proofs.YtnopljjngbgpdabDoor
open Go.RowKit
set_option linter.unusedVariables false

theorem own_empty (u : World) : (u.alloc (.cells #[] 5)).ownsRow u.heap.size 5 1 (.slice (some ⟨u.heap.size, 0, none⟩) 0 0) 0 (([] : List Int).map (Value.int .u8)) := by
  refine ⟨by simp, Or.inr ⟨u.heap.size, 0, #[], rfl, Nat.le_refl _, heap_alloc_new u _, Nat.le_refl _, by simp [maxLen], by simp, by simp⟩⟩

theorem own_empty' (u : World) (N : Nat) (h : u.heap.size = N) : (u.alloc (.cells #[] 5)).ownsRow N 5 1 (.slice (some ⟨N, 0, none⟩) 0 0) 0 (([] : List Int).map (Value.int .u8)) := by
  subst h
  exact own_empty u

/-- A row behind a row, past 2^47 bytes too. -/
theorem wpList_append_wide {w : World} {ops : Array Oper} {rest : List Oper} {o : Oper} {a : Act} {Q : Exit → Act → World → Prop} (hgd : o.guard = none) (s x : Operand)
    (ho : o.op = .call { callee := .builtin .append, args := #[s, x], argTypes := #[24, 24] })
    (base : Nat) (v : Value) (n : Nat) (xs : List Int) (hs : a.eval s = v) (hown : w.ownsRow base 5 1 v n (xs.map (Value.int .u8)))
    (ad : Option Addr) (m c : Nat) (zs : List Int) (hx : a.eval x = .slice ad m c) (hrd : Reads w ad m zs) (hm : 0 < m)
    (hb : n + m ≤ 200000000000000) (hbase : base ≤ w.heap.size)
    (h : ∀ v' w', w'.ownsRow base 5 1 v' (n + m) ((xs ++ zs).map (Value.int .u8)) → w.grownBy w' v.ownBlock → wpList Tryd.prog ops Q rest (a.put o.dst v') w') : wpList Tryd.prog ops Q (o :: rest) a w := by
  obtain ⟨i0, hi, hz0, hz1, hz2⟩ := info_parts info5
  cases ad with
  | some ad =>
    refine wpList_append_own_wide w hgd s x 24 ho base 5 i0 (.int .u8 0) 1 1 Tryd.underlying24 hi hz0 hz1 hz2 rfl (by decide) v n _ hs hown ad m c (zs.map (Value.int .u8)) hx (by simp [hrd.1]) hrd.news (ints_oneCell _ _) (by simp [maxLen]; omega) (by omega) hbase ?_
    intro v' w' h1 h2 _
    exact h v' w' (by rw [List.map_append]; exact h1) h2
  | none => have := hrd.2.2.1 rfl; omega

/-- A row that is read with an error. -/
theorem res_err {w w' : World} {e : Ending} {bs : List Int} (h : RdRes w w' e (readR bs)) (hne : ∀ m, readR bs ≠ .ok m) : ∃ x, x ≠ 0 ∧ readR bs = .error x ∧ e = .returned (.tuple #[.agg #[.int .i64 0, .int .i64 0, .int .i64 0, .slice none 0 0, .slice none 0 0], .int .i64 x]) := by
  cases hr : readR bs with
  | ok m => exact absurd hr (hne m)
  | error x =>
    rw [hr] at h
    exact ⟨x, h.2, rfl, h.1⟩

set_option maxHeartbeats 4000000 in
set_option maxRecDepth 100000 in
theorem whole_bad (b p s : Int) (a a' : Option Addr) (n c m c' : Nat) (zs : List Int) (bs : List Bool) (k : Int) (d : Option Addr) (l cd : Nat) (ys : List Int) (w : World) (hn : n ≤ 140737488351232) (hm : m ≤ 140737488351232) (hr : Reads w a n zs) (hrb : ReadsB w a' m bs) (hnc : n ≤ c) (hc : c ≤ 9223372036854775807) (hk : -9223372036854775808 ≤ k ∧ k ≤ 9223372036854775807) (hd : Reads w d l ys) (hl : l ≤ 140737488351232) (hlc : l ≤ cd) (ht : Tab w) (hE : chkE b p s n m ≠ 0) :
    Calls Tryd.prog 4 #[.agg #[.int .i64 b, .int .i64 p, .int .i64 s, .slice a n c, .slice a' m c'], .int .i64 k, .slice d l cd] w fun e w' => e = .returned (.bool true) ∧ Below w.heap.size w w' := by
  have hn2 : n ≤ 140737488355000 := by omega
  have hm2 : m ≤ 140737488355000 := by omega
  have HT1 : Hid (Tab (w.alloc (.cells #[.int .i64 b, .int .i64 p, .int .i64 s, .slice a n c, .slice a' m c'] 27))) := ht.below (below_alloc w _)
  have HR1 : Hid (Reads (w.alloc (.cells #[.int .i64 b, .int .i64 p, .int .i64 s, .slice a n c, .slice a' m c'] 27)) a n zs) := hr.below (below_alloc w _)
  have HM1 : Hid (ReadsB (w.alloc (.cells #[.int .i64 b, .int .i64 p, .int .i64 s, .slice a n c, .slice a' m c'] 27)) a' m bs) := hrb.below (below_alloc w _)
  have HX1 : Hid ((w.alloc (.cells #[.int .i64 b, .int .i64 p, .int .i64 s, .slice a n c, .slice a' m c'] 27)).heap[w.heap.size]? = some (.cells #[.int .i64 b, .int .i64 p, .int .i64 s, .slice a n c, .slice a' m c'] 27 (0, 0))) := heap_alloc_new _ _
  have HB1 : Hid (Below w.heap.size w (w.alloc (.cells #[.int .i64 b, .int .i64 p, .int .i64 s, .slice a n c, .slice a' m c'] 27))) := below_alloc w _
  obtain ⟨e0, e1, e2, e3, e4⟩ := cells5 HX1.out
  have HD1 : Hid (Reads (w.alloc (.cells #[.int .i64 b, .int .i64 p, .int .i64 s, .slice a n c, .slice a' m c'] 27)) d l ys) := hd.below (below_alloc w _)
  clear hr hrb ht hd
  obtain ⟨x, hx⟩ : ∃ x, chkE b p s n m = x := ⟨_, rfl⟩
  have HEN : Hid (chkE b p s n m ≠ 0) := hE
  have HE : Hid (chkE b p s n m = x) := hx
  rw [hx] at hE
  have hx1 : (x == 0) = false := by rw [beq_eq_false_iff_ne]; exact hE
  clear hx
  go_enter Tryd.func4, Tryd.ntmps4
  go_wp2_with (first
    | (go_at_call 9; refine (heads_any _ HT1.out).mono ?_; rintro e t1 ⟨rfl, b1⟩
       have HX2 : Hid (t1.heap[w.heap.size]? = some (.cells #[.int .i64 b, .int .i64 p, .int .i64 s, .slice a n c, .slice a' m c'] 27 (0, 0))) := (b1.block _ (Array.getElem?_eq_some_iff.1 HX1.out).1).trans HX1.out
       have HB2 : Hid (Below w.heap.size w t1) := below_trans HB1.out b1
       have HT2 : Hid (Tab t1) := HT1.out.below b1
       have HR2 : Hid (Reads t1 a n zs) := HR1.out.below b1
       have HM2 : Hid (ReadsB t1 a' m bs) := HM1.out.below b1
       have HD2 : Hid (Reads t1 d l ys) := HD1.out.below b1
       clear b1 e0 e1 e2 e3 e4
       obtain ⟨e0, e1, e2, e3, e4⟩ := cells5 HX2.out)
    | (go_at_call 12; refine (no_any _ _).mono ?_; rintro e t9 ⟨rfl, ht9⟩; rw [ht9]; clear ht9)
    | (go_at_call 11; refine (pack_bad b p s _ _ n _ m _ _ HEN.out hn2 hm2).mono ?_; rintro e t3 ⟨rfl, b3⟩; rw [HE.out]
       have HX4 : Hid (t3.heap[w.heap.size]? = some (.cells #[.int .i64 b, .int .i64 p, .int .i64 s, .slice a n c, .slice a' m c'] 27 (0, 0))) := (b3.block _ (Array.getElem?_eq_some_iff.1 HX2.out).1).trans HX2.out
       have HB4 : Hid (Below w.heap.size w t3) := below_trans HB2.out b3
       have HT4 : Hid (Tab t3) := HT2.out.below b3
       have HR4 : Hid (Reads t3 a n zs) := HR2.out.below b3
       have HM4 : Hid (ReadsB t3 a' m bs) := HM2.out.below b3
       have HD4 : Hid (Reads t3 d l ys) := HD2.out.below b3
       clear b3 e0 e1 e2 e3 e4
       obtain ⟨e0, e1, e2, e3, e4⟩ := cells5 HX4.out))
  go_ret
  exact ⟨rfl, HB4.out⟩

set_option maxHeartbeats 4000000 in
set_option maxRecDepth 100000 in
theorem whole_ca (b p s : Int) (a a' : Option Addr) (n c m c' : Nat) (zs : List Int) (bs : List Bool) (k : Int) (d : Option Addr) (l cd : Nat) (ys : List Int) (w : World) (hn : n ≤ 140737488351232) (hm : m ≤ 140737488351232) (hr : Reads w a n zs) (hrb : ReadsB w a' m bs) (hnc : n ≤ c) (hc : c ≤ 9223372036854775807) (hk : -9223372036854775808 ≤ k ∧ k ≤ 9223372036854775807) (hd : Reads w d l ys) (hl : l ≤ 140737488351232) (hlc : l ≤ cd) (ht : Tab w) (hE : chkE b p s n m = 0) (hk0 : 0 ≤ k) (hkK : k < ((packL (⟨b.toNat, p.toNat, s.toNat, zs, bs⟩ : Img)).length : Int)) (h0 : 0 < l) :
    Calls Tryd.prog 4 #[.agg #[.int .i64 b, .int .i64 p, .int .i64 s, .slice a n c, .slice a' m c'], .int .i64 k, .slice d l cd] w fun e w' => e = .returned (.bool true) ∧ Below w.heap.size w w' := by
  obtain ⟨M, hok, hMb, hMp, hMs, hMc, hMm, hMn⟩ := img_of hE hr.1 hrb.1 hr.2.1
  have HPOS : Hid (0 < n) := by
    unfold Hid
    obtain ⟨q1, q2, q3, q4, q5, q6, q7⟩ := fits_nat hok.1
    have h9 := hok.2.1
    rw [hMc, hr.1] at h9
    rw [h9]
    exact Nat.mul_pos (Nat.mul_pos (by omega) (by omega)) (by unfold Img.S; omega)
  obtain ⟨K, hK⟩ : ∃ K, (packL M).length = K := ⟨_, rfl⟩
  have HKL : Hid ((packL M).length = K) := hK
  have hMM : (⟨b.toNat, p.toNat, s.toNat, zs, bs⟩ : Img) = M := by obtain ⟨y1, y2, y3, y4, y5⟩ := M; simp only at hMb hMp hMs hMc hMm; subst hMc hMm; simp [hMb, hMp, hMs]
  rw [hMM, hK] at hkK
  clear hMM
  have hK9 := pack_len M hok
  rw [hK] at hK9
  have hK0 : 0 < K := by
    rw [← hK, packL, sealL, List.length_append]
    have h5 : (le4 (sumL (nats (bodyL M)))).length = 4 := rfl
    omega
  have HYB : Hid (Byt ys) := hd.2.1
  have HYL : Hid (ys.length = l) := hd.1
  have HLN : Hid ((packL M ++ ys).length = K + l) := by unfold Hid; rw [List.length_append, hK, hd.1]
  have HMs : Hid (b = (M.b : Int) ∧ p = (M.p : Int) ∧ s = (M.s : Int) ∧ M.cs = zs ∧ M.ms = bs ∧ M.b = m) := ⟨hMb, hMp, hMs, hMc, hMm, hMn⟩
  clear hE hK hMb hMp hMs hMc hMm hMn
  have hn2 : n ≤ 140737488355000 := by omega
  have hm2 : m ≤ 140737488355000 := by omega
  have HT1 : Hid (Tab (w.alloc (.cells #[.int .i64 b, .int .i64 p, .int .i64 s, .slice a n c, .slice a' m c'] 27))) := ht.below (below_alloc w _)
  have HR1 : Hid (Reads (w.alloc (.cells #[.int .i64 b, .int .i64 p, .int .i64 s, .slice a n c, .slice a' m c'] 27)) a n zs) := hr.below (below_alloc w _)
  have HM1 : Hid (ReadsB (w.alloc (.cells #[.int .i64 b, .int .i64 p, .int .i64 s, .slice a n c, .slice a' m c'] 27)) a' m bs) := hrb.below (below_alloc w _)
  have HX1 : Hid ((w.alloc (.cells #[.int .i64 b, .int .i64 p, .int .i64 s, .slice a n c, .slice a' m c'] 27)).heap[w.heap.size]? = some (.cells #[.int .i64 b, .int .i64 p, .int .i64 s, .slice a n c, .slice a' m c'] 27 (0, 0))) := heap_alloc_new _ _
  have HB1 : Hid (Below w.heap.size w (w.alloc (.cells #[.int .i64 b, .int .i64 p, .int .i64 s, .slice a n c, .slice a' m c'] 27))) := below_alloc w _
  obtain ⟨e0, e1, e2, e3, e4⟩ := cells5 HX1.out
  have HD1 : Hid (Reads (w.alloc (.cells #[.int .i64 b, .int .i64 p, .int .i64 s, .slice a n c, .slice a' m c'] 27)) d l ys) := hd.below (below_alloc w _)
  clear hr hrb ht hd
  obtain ⟨kk, rfl⟩ := Int.eq_ofNat_of_zero_le hk0
  have hkk : kk < K := by have := HKL.out; omega
  have HTK : Hid (((packL M).take kk).length = kk) := by unfold Hid; rw [List.length_take, HKL.out]; omega
  have HNC : Hid (∀ m', readR ((packL M).take kk) ≠ .ok m') := fun m' => cut_bad (pack_byt M hok) (back M hok) kk (by rw [HKL.out]; exact hkk)
  have f1 : (kk : Int) < (K : Int) := by omega
  have HTL : Hid (readR (packL M ++ ys) = .error 212) := by
    have h9 := read_pack M hok ys
    rw [if_neg (fun e => by have h8 := HYL.out; rw [e] at h8; simp at h8; omega)] at h9
    exact h9
  have d9 : ((l : Int) == 0) = false := by rw [beq_eq_false_iff_ne]; omega
  have TA : Hid True := trivial
  go_enter Tryd.func4, Tryd.ntmps4
  go_wp2_with (first
    | (go_at_call 9; refine (heads_any _ HT1.out).mono ?_; rintro e t1 ⟨rfl, b1⟩
       have HX2 : Hid (t1.heap[w.heap.size]? = some (.cells #[.int .i64 b, .int .i64 p, .int .i64 s, .slice a n c, .slice a' m c'] 27 (0, 0))) := (b1.block _ (Array.getElem?_eq_some_iff.1 HX1.out).1).trans HX1.out
       have HB2 : Hid (Below w.heap.size w t1) := below_trans HB1.out b1
       have HT2 : Hid (Tab t1) := HT1.out.below b1
       have HR2 : Hid (Reads t1 a n zs) := HR1.out.below b1
       have HM2 : Hid (ReadsB t1 a' m bs) := HM1.out.below b1
       have HD2 : Hid (Reads t1 d l ys) := HD1.out.below b1
       clear b1 e0 e1 e2 e3 e4
       obtain ⟨e0, e1, e2, e3, e4⟩ := cells5 HX2.out)
    | (go_at_call 12; refine (no_any _ _).mono ?_; rintro e t9 ⟨rfl, ht9⟩; rw [ht9]; clear ht9)
    | (go_at_call 11; refine (packs_n hok HMs.out.1 HMs.out.2.1 HMs.out.2.2.1 HMs.out.2.2.2.1 HMs.out.2.2.2.2.1 HMs.out.2.2.2.2.2 _ HR2.out HM2.out HPOS.out hnc hc HT2.out).mono ?_; rintro e t3 ⟨g1, p1, rfl, o1, b3⟩; rw [HKL.out] at o1 ⊢
       have HX4 : Hid (t3.heap[w.heap.size]? = some (.cells #[.int .i64 b, .int .i64 p, .int .i64 s, .slice a n c, .slice a' m c'] 27 (0, 0))) := (b3.block _ (Array.getElem?_eq_some_iff.1 HX2.out).1).trans HX2.out
       have HB4 : Hid (Below w.heap.size w t3) := below_trans HB2.out b3
       have HT4 : Hid (Tab t3) := HT2.out.below b3
       have HR4 : Hid (Reads t3 a n zs) := HR2.out.below b3
       have HM4 : Hid (ReadsB t3 a' m bs) := HM2.out.below b3
       have HD4 : Hid (Reads t3 d l ys) := HD2.out.below b3
       have HO4 : Hid (Reads t3 (some ⟨g1, 0, none⟩) K (packL M)) := o1.all (pack_byt M hok)
       have hp1 := o1.room_le hK0
       have hp2 : K ≤ p1 ∧ p1 ≤ 9223372036854775807 := by simp only [maxLen] at hp1; omega
       have HG4 : Hid (g1 < t3.heap.size) := o1.lt.2
       have T4 : Hid True := trivial
       clear o1 hp1
       clear b3 e0 e1 e2 e3 e4)
    | (go_at_call 13; have zz := T4; clear T4 zz; refine (read_n g1 0 kk p1 ((packL M).take kk) _ HTK.out (HO4.out.front kk (by omega)) (by omega) (by omega) hp2.2 HG4.out HT4.out).mono ?_; rintro e t4 ⟨res, b4⟩
       obtain ⟨x, hx0, _, rfl⟩ := res_err res HNC.out
       have hx1 : (x == 0) = false := (by rw [beq_eq_false_iff_ne]; exact hx0)
       have hx2 : ¬ x = 0 := hx0
       have b5 : Below t3.heap.size t3 (t4.alloc (.cells #[.int .i64 0, .int .i64 0, .int .i64 0, .slice none 0 0, .slice none 0 0] 27)) := below_trans b4 (below_alloc _ _)
       have HB5 : Hid (Below w.heap.size w (t4.alloc (.cells #[.int .i64 0, .int .i64 0, .int .i64 0, .slice none 0 0, .slice none 0 0] 27))) := below_trans HB4.out b5
       have HT5 : Hid (Tab (t4.alloc (.cells #[.int .i64 0, .int .i64 0, .int .i64 0, .slice none 0 0, .slice none 0 0] 27))) := HT4.out.below b5
       have HD5 : Hid (Reads (t4.alloc (.cells #[.int .i64 0, .int .i64 0, .int .i64 0, .slice none 0 0, .slice none 0 0] 27)) d l ys) := HD4.out.below b5
       have HO5 : Hid (Reads (t4.alloc (.cells #[.int .i64 0, .int .i64 0, .int .i64 0, .slice none 0 0, .slice none 0 0] 27)) (some ⟨g1, 0, none⟩) K (packL M)) := HO4.out.below b5
       clear res b4 b5)
    | (at_builtin; have zz := TA; clear TA zz; refine wpList_append_reads rfl (.tmp 45) (.tmp 46) rfl (t4.heap.size + 1) (.slice (some ⟨(t4.heap.size + 1), 0, none⟩) 0 0) 0 [] rfl (own_empty' (t4.alloc (.cells #[.int .i64 0, .int .i64 0, .int .i64 0, .slice none 0 0, .slice none 0 0] 27)) (t4.heap.size + 1) (by simp)) (some ⟨g1, 0, none⟩) K p1 (packL M) rfl (HO5.out.below (below_alloc _ _)) (by omega) (by simp) ?_; intro v1 w1 own1 grow1; simp only [Nat.zero_add, List.nil_append] at own1
       have HB6 : Hid (Below (t4.alloc (.cells #[.int .i64 0, .int .i64 0, .int .i64 0, .slice none 0 0, .slice none 0 0] 27)).heap.size (t4.alloc (.cells #[.int .i64 0, .int .i64 0, .int .i64 0, .slice none 0 0, .slice none 0 0] 27)) w1) := (below_alloc (t4.alloc (.cells #[.int .i64 0, .int .i64 0, .int .i64 0, .slice none 0 0, .slice none 0 0] 27)) _).grown grow1 (by simp) (fun q hq => by have h9 := ((own_empty' (t4.alloc (.cells #[.int .i64 0, .int .i64 0, .int .i64 0, .slice none 0 0, .slice none 0 0] 27)) (t4.heap.size + 1) (by simp)).lt q hq).1; simp; omega)
       have HO6 : Hid (w1.ownsRow (t4.heap.size + 1) 5 1 v1 K ((packL M).map (Value.int .u8))) := own1
       have HS6 : Hid ((t4.heap.size + 1) ≤ w1.heap.size) := by have h9 := HB6.out.size; unfold Hid; simp at h9; omega
       have TB : Hid True := trivial
       clear own1 grow1)
    | (at_builtin; have zz := TB; clear TB zz; refine wpList_append_wide rfl (.tmp 47) (.tmp 48) rfl (t4.heap.size + 1) v1 K (packL M) rfl HO6.out d l cd ys rfl (HD5.out.below HB6.out) h0 (by omega) HS6.out ?_; intro v2 w2 own2 grow2; obtain ⟨g2, c2, rfl, hc21, hc22, hg21, hg22⟩ := own_shape own2 (by omega)
       have HB7 : Hid (Below (t4.alloc (.cells #[.int .i64 0, .int .i64 0, .int .i64 0, .slice none 0 0, .slice none 0 0] 27)).heap.size (t4.alloc (.cells #[.int .i64 0, .int .i64 0, .int .i64 0, .slice none 0 0, .slice none 0 0] 27)) w2) := HB6.out.grown grow2 HB6.out.size (fun q hq => by have h9 := (HO6.out.lt q hq).1; simp; omega)
       have HRD7 : Hid (Reads w2 (some ⟨g2, 0, none⟩) (K + l) (packL M ++ ys)) := Own.all own2 (fun z hz => by rcases List.mem_append.1 hz with hz | hz; exact pack_byt M hok z hz; exact HYB.out z hz)
       have HT7 : Hid (Tab w2) := HT5.out.below HB7.out
       have HB8 : Hid (Below w.heap.size w w2) := below_trans HB5.out HB7.out
       have hc23 : K + l ≤ c2 ∧ c2 ≤ 9223372036854775807 := by simp only [maxLen] at hc22; omega
       have HG7 : Hid (g2 < w2.heap.size) := hg22
       have TC : Hid True := trivial
       clear own2 grow2 hc21 hc22 hg21 hg22)
    | (go_at_call 13; have zz := TC; clear TC zz; refine (read_n g2 0 (K + l) c2 (packL M ++ ys) _ HLN.out HRD7.out (by omega) hc23.1 hc23.2 HG7.out HT7.out).mono ?_; rintro e t8 ⟨res, b8⟩
       rw [HTL.out] at res
       obtain ⟨rfl, _⟩ := res
       have HB9 : Hid (Below w.heap.size w (t8.alloc (.cells #[.int .i64 0, .int .i64 0, .int .i64 0, .slice none 0 0, .slice none 0 0] 27))) := below_trans HB8.out (below_trans b8 (below_alloc _ _))
       clear b8))
  go_ret
  exact ⟨rfl, HB9.out⟩

set_option maxHeartbeats 4000000 in
set_option maxRecDepth 100000 in
theorem whole_c0 (b p s : Int) (a a' : Option Addr) (n c m c' : Nat) (zs : List Int) (bs : List Bool) (k : Int) (d : Option Addr) (l cd : Nat) (ys : List Int) (w : World) (hn : n ≤ 140737488351232) (hm : m ≤ 140737488351232) (hr : Reads w a n zs) (hrb : ReadsB w a' m bs) (hnc : n ≤ c) (hc : c ≤ 9223372036854775807) (hk : -9223372036854775808 ≤ k ∧ k ≤ 9223372036854775807) (hd : Reads w d l ys) (hl : l ≤ 140737488351232) (hlc : l ≤ cd) (ht : Tab w) (hE : chkE b p s n m = 0) (hk0 : 0 ≤ k) (hkK : k < ((packL (⟨b.toNat, p.toNat, s.toNat, zs, bs⟩ : Img)).length : Int)) (h0 : l = 0) :
    Calls Tryd.prog 4 #[.agg #[.int .i64 b, .int .i64 p, .int .i64 s, .slice a n c, .slice a' m c'], .int .i64 k, .slice d l cd] w fun e w' => e = .returned (.bool true) ∧ Below w.heap.size w w' := by
  obtain ⟨M, hok, hMb, hMp, hMs, hMc, hMm, hMn⟩ := img_of hE hr.1 hrb.1 hr.2.1
  have HPOS : Hid (0 < n) := by
    unfold Hid
    obtain ⟨q1, q2, q3, q4, q5, q6, q7⟩ := fits_nat hok.1
    have h9 := hok.2.1
    rw [hMc, hr.1] at h9
    rw [h9]
    exact Nat.mul_pos (Nat.mul_pos (by omega) (by omega)) (by unfold Img.S; omega)
  obtain ⟨K, hK⟩ : ∃ K, (packL M).length = K := ⟨_, rfl⟩
  have HKL : Hid ((packL M).length = K) := hK
  have hMM : (⟨b.toNat, p.toNat, s.toNat, zs, bs⟩ : Img) = M := by obtain ⟨y1, y2, y3, y4, y5⟩ := M; simp only at hMb hMp hMs hMc hMm; subst hMc hMm; simp [hMb, hMp, hMs]
  rw [hMM, hK] at hkK
  clear hMM
  have hK9 := pack_len M hok
  rw [hK] at hK9
  have hK0 : 0 < K := by
    rw [← hK, packL, sealL, List.length_append]
    have h5 : (le4 (sumL (nats (bodyL M)))).length = 4 := rfl
    omega
  have HYB : Hid (Byt ys) := hd.2.1
  have HYL : Hid (ys.length = l) := hd.1
  have HLN : Hid ((packL M ++ ys).length = K + l) := by unfold Hid; rw [List.length_append, hK, hd.1]
  have HMs : Hid (b = (M.b : Int) ∧ p = (M.p : Int) ∧ s = (M.s : Int) ∧ M.cs = zs ∧ M.ms = bs ∧ M.b = m) := ⟨hMb, hMp, hMs, hMc, hMm, hMn⟩
  clear hE hK hMb hMp hMs hMc hMm hMn
  have hn2 : n ≤ 140737488355000 := by omega
  have hm2 : m ≤ 140737488355000 := by omega
  have HT1 : Hid (Tab (w.alloc (.cells #[.int .i64 b, .int .i64 p, .int .i64 s, .slice a n c, .slice a' m c'] 27))) := ht.below (below_alloc w _)
  have HR1 : Hid (Reads (w.alloc (.cells #[.int .i64 b, .int .i64 p, .int .i64 s, .slice a n c, .slice a' m c'] 27)) a n zs) := hr.below (below_alloc w _)
  have HM1 : Hid (ReadsB (w.alloc (.cells #[.int .i64 b, .int .i64 p, .int .i64 s, .slice a n c, .slice a' m c'] 27)) a' m bs) := hrb.below (below_alloc w _)
  have HX1 : Hid ((w.alloc (.cells #[.int .i64 b, .int .i64 p, .int .i64 s, .slice a n c, .slice a' m c'] 27)).heap[w.heap.size]? = some (.cells #[.int .i64 b, .int .i64 p, .int .i64 s, .slice a n c, .slice a' m c'] 27 (0, 0))) := heap_alloc_new _ _
  have HB1 : Hid (Below w.heap.size w (w.alloc (.cells #[.int .i64 b, .int .i64 p, .int .i64 s, .slice a n c, .slice a' m c'] 27))) := below_alloc w _
  obtain ⟨e0, e1, e2, e3, e4⟩ := cells5 HX1.out
  have HD1 : Hid (Reads (w.alloc (.cells #[.int .i64 b, .int .i64 p, .int .i64 s, .slice a n c, .slice a' m c'] 27)) d l ys) := hd.below (below_alloc w _)
  clear hr hrb ht hd
  obtain ⟨kk, rfl⟩ := Int.eq_ofNat_of_zero_le hk0
  have hkk : kk < K := by have := HKL.out; omega
  have HTK : Hid (((packL M).take kk).length = kk) := by unfold Hid; rw [List.length_take, HKL.out]; omega
  have HNC : Hid (∀ m', readR ((packL M).take kk) ≠ .ok m') := fun m' => cut_bad (pack_byt M hok) (back M hok) kk (by rw [HKL.out]; exact hkk)
  have f1 : (kk : Int) < (K : Int) := by omega
  have d9 : ((l : Int) == 0) = true := by rw [h0]; rfl
  have HL0 : Hid (l = 0) := h0
  clear h0
  go_enter Tryd.func4, Tryd.ntmps4
  go_wp2_with (first
    | (go_at_call 9; refine (heads_any _ HT1.out).mono ?_; rintro e t1 ⟨rfl, b1⟩
       have HX2 : Hid (t1.heap[w.heap.size]? = some (.cells #[.int .i64 b, .int .i64 p, .int .i64 s, .slice a n c, .slice a' m c'] 27 (0, 0))) := (b1.block _ (Array.getElem?_eq_some_iff.1 HX1.out).1).trans HX1.out
       have HB2 : Hid (Below w.heap.size w t1) := below_trans HB1.out b1
       have HT2 : Hid (Tab t1) := HT1.out.below b1
       have HR2 : Hid (Reads t1 a n zs) := HR1.out.below b1
       have HM2 : Hid (ReadsB t1 a' m bs) := HM1.out.below b1
       have HD2 : Hid (Reads t1 d l ys) := HD1.out.below b1
       clear b1 e0 e1 e2 e3 e4
       obtain ⟨e0, e1, e2, e3, e4⟩ := cells5 HX2.out)
    | (go_at_call 12; refine (no_any _ _).mono ?_; rintro e t9 ⟨rfl, ht9⟩; rw [ht9]; clear ht9)
    | (go_at_call 11; refine (packs_n hok HMs.out.1 HMs.out.2.1 HMs.out.2.2.1 HMs.out.2.2.2.1 HMs.out.2.2.2.2.1 HMs.out.2.2.2.2.2 _ HR2.out HM2.out HPOS.out hnc hc HT2.out).mono ?_; rintro e t3 ⟨g1, p1, rfl, o1, b3⟩; rw [HKL.out] at o1 ⊢
       have HX4 : Hid (t3.heap[w.heap.size]? = some (.cells #[.int .i64 b, .int .i64 p, .int .i64 s, .slice a n c, .slice a' m c'] 27 (0, 0))) := (b3.block _ (Array.getElem?_eq_some_iff.1 HX2.out).1).trans HX2.out
       have HB4 : Hid (Below w.heap.size w t3) := below_trans HB2.out b3
       have HT4 : Hid (Tab t3) := HT2.out.below b3
       have HR4 : Hid (Reads t3 a n zs) := HR2.out.below b3
       have HM4 : Hid (ReadsB t3 a' m bs) := HM2.out.below b3
       have HD4 : Hid (Reads t3 d l ys) := HD2.out.below b3
       have HO4 : Hid (Reads t3 (some ⟨g1, 0, none⟩) K (packL M)) := o1.all (pack_byt M hok)
       have hp1 := o1.room_le hK0
       have hp2 : K ≤ p1 ∧ p1 ≤ 9223372036854775807 := by simp only [maxLen] at hp1; omega
       have HG4 : Hid (g1 < t3.heap.size) := o1.lt.2
       have T4 : Hid True := trivial
       clear o1 hp1
       clear b3 e0 e1 e2 e3 e4)
    | (go_at_call 13; have zz := T4; clear T4 zz; refine (read_n g1 0 kk p1 ((packL M).take kk) _ HTK.out (HO4.out.front kk (by omega)) (by omega) (by omega) hp2.2 HG4.out HT4.out).mono ?_; rintro e t4 ⟨res, b4⟩
       obtain ⟨x, hx0, _, rfl⟩ := res_err res HNC.out
       have hx1 : (x == 0) = false := (by rw [beq_eq_false_iff_ne]; exact hx0)
       have hx2 : ¬ x = 0 := hx0
       have b5 : Below t3.heap.size t3 (t4.alloc (.cells #[.int .i64 0, .int .i64 0, .int .i64 0, .slice none 0 0, .slice none 0 0] 27)) := below_trans b4 (below_alloc _ _)
       have HB5 : Hid (Below w.heap.size w (t4.alloc (.cells #[.int .i64 0, .int .i64 0, .int .i64 0, .slice none 0 0, .slice none 0 0] 27))) := below_trans HB4.out b5
       have HT5 : Hid (Tab (t4.alloc (.cells #[.int .i64 0, .int .i64 0, .int .i64 0, .slice none 0 0, .slice none 0 0] 27))) := HT4.out.below b5
       have HD5 : Hid (Reads (t4.alloc (.cells #[.int .i64 0, .int .i64 0, .int .i64 0, .slice none 0 0, .slice none 0 0] 27)) d l ys) := HD4.out.below b5
       have HO5 : Hid (Reads (t4.alloc (.cells #[.int .i64 0, .int .i64 0, .int .i64 0, .slice none 0 0, .slice none 0 0] 27)) (some ⟨g1, 0, none⟩) K (packL M)) := HO4.out.below b5
       clear res b4 b5))
  go_ret
  exact ⟨rfl, HB5.out⟩

set_option maxHeartbeats 4000000 in
set_option maxRecDepth 100000 in
theorem whole_na (b p s : Int) (a a' : Option Addr) (n c m c' : Nat) (zs : List Int) (bs : List Bool) (k : Int) (d : Option Addr) (l cd : Nat) (ys : List Int) (w : World) (hn : n ≤ 140737488351232) (hm : m ≤ 140737488351232) (hr : Reads w a n zs) (hrb : ReadsB w a' m bs) (hnc : n ≤ c) (hc : c ≤ 9223372036854775807) (hk : -9223372036854775808 ≤ k ∧ k ≤ 9223372036854775807) (hd : Reads w d l ys) (hl : l ≤ 140737488351232) (hlc : l ≤ cd) (ht : Tab w) (hE : chkE b p s n m = 0) (hkN : k < 0 ∨ ((packL (⟨b.toNat, p.toNat, s.toNat, zs, bs⟩ : Img)).length : Int) ≤ k) (h0 : 0 < l) :
    Calls Tryd.prog 4 #[.agg #[.int .i64 b, .int .i64 p, .int .i64 s, .slice a n c, .slice a' m c'], .int .i64 k, .slice d l cd] w fun e w' => e = .returned (.bool true) ∧ Below w.heap.size w w' := by
  obtain ⟨M, hok, hMb, hMp, hMs, hMc, hMm, hMn⟩ := img_of hE hr.1 hrb.1 hr.2.1
  have HPOS : Hid (0 < n) := by
    unfold Hid
    obtain ⟨q1, q2, q3, q4, q5, q6, q7⟩ := fits_nat hok.1
    have h9 := hok.2.1
    rw [hMc, hr.1] at h9
    rw [h9]
    exact Nat.mul_pos (Nat.mul_pos (by omega) (by omega)) (by unfold Img.S; omega)
  obtain ⟨K, hK⟩ : ∃ K, (packL M).length = K := ⟨_, rfl⟩
  have HKL : Hid ((packL M).length = K) := hK
  have hMM : (⟨b.toNat, p.toNat, s.toNat, zs, bs⟩ : Img) = M := by obtain ⟨y1, y2, y3, y4, y5⟩ := M; simp only at hMb hMp hMs hMc hMm; subst hMc hMm; simp [hMb, hMp, hMs]
  rw [hMM, hK] at hkN
  clear hMM
  have hK9 := pack_len M hok
  rw [hK] at hK9
  have hK0 : 0 < K := by
    rw [← hK, packL, sealL, List.length_append]
    have h5 : (le4 (sumL (nats (bodyL M)))).length = 4 := rfl
    omega
  have HYB : Hid (Byt ys) := hd.2.1
  have HYL : Hid (ys.length = l) := hd.1
  have HLN : Hid ((packL M ++ ys).length = K + l) := by unfold Hid; rw [List.length_append, hK, hd.1]
  have HMs : Hid (b = (M.b : Int) ∧ p = (M.p : Int) ∧ s = (M.s : Int) ∧ M.cs = zs ∧ M.ms = bs ∧ M.b = m) := ⟨hMb, hMp, hMs, hMc, hMm, hMn⟩
  clear hE hK hMb hMp hMs hMc hMm hMn
  have hn2 : n ≤ 140737488355000 := by omega
  have hm2 : m ≤ 140737488355000 := by omega
  have HT1 : Hid (Tab (w.alloc (.cells #[.int .i64 b, .int .i64 p, .int .i64 s, .slice a n c, .slice a' m c'] 27))) := ht.below (below_alloc w _)
  have HR1 : Hid (Reads (w.alloc (.cells #[.int .i64 b, .int .i64 p, .int .i64 s, .slice a n c, .slice a' m c'] 27)) a n zs) := hr.below (below_alloc w _)
  have HM1 : Hid (ReadsB (w.alloc (.cells #[.int .i64 b, .int .i64 p, .int .i64 s, .slice a n c, .slice a' m c'] 27)) a' m bs) := hrb.below (below_alloc w _)
  have HX1 : Hid ((w.alloc (.cells #[.int .i64 b, .int .i64 p, .int .i64 s, .slice a n c, .slice a' m c'] 27)).heap[w.heap.size]? = some (.cells #[.int .i64 b, .int .i64 p, .int .i64 s, .slice a n c, .slice a' m c'] 27 (0, 0))) := heap_alloc_new _ _
  have HB1 : Hid (Below w.heap.size w (w.alloc (.cells #[.int .i64 b, .int .i64 p, .int .i64 s, .slice a n c, .slice a' m c'] 27))) := below_alloc w _
  obtain ⟨e0, e1, e2, e3, e4⟩ := cells5 HX1.out
  have HD1 : Hid (Reads (w.alloc (.cells #[.int .i64 b, .int .i64 p, .int .i64 s, .slice a n c, .slice a' m c'] 27)) d l ys) := hd.below (below_alloc w _)
  clear hr hrb ht hd
  have HTL : Hid (readR (packL M ++ ys) = .error 212) := by
    have h9 := read_pack M hok ys
    rw [if_neg (fun e => by have h8 := HYL.out; rw [e] at h8; simp at h8; omega)] at h9
    exact h9
  have d9 : ((l : Int) == 0) = false := by rw [beq_eq_false_iff_ne]; omega
  have TA : Hid True := trivial
  rcases Int.lt_or_le k 0 with f1 | f1
  · have f2 : ¬ 0 ≤ k := by omega
    go_enter Tryd.func4, Tryd.ntmps4
    go_wp2_with (first
      | (go_at_call 9; refine (heads_any _ HT1.out).mono ?_; rintro e t1 ⟨rfl, b1⟩
         have HX2 : Hid (t1.heap[w.heap.size]? = some (.cells #[.int .i64 b, .int .i64 p, .int .i64 s, .slice a n c, .slice a' m c'] 27 (0, 0))) := (b1.block _ (Array.getElem?_eq_some_iff.1 HX1.out).1).trans HX1.out
         have HB2 : Hid (Below w.heap.size w t1) := below_trans HB1.out b1
         have HT2 : Hid (Tab t1) := HT1.out.below b1
         have HR2 : Hid (Reads t1 a n zs) := HR1.out.below b1
         have HM2 : Hid (ReadsB t1 a' m bs) := HM1.out.below b1
         have HD2 : Hid (Reads t1 d l ys) := HD1.out.below b1
         clear b1 e0 e1 e2 e3 e4
         obtain ⟨e0, e1, e2, e3, e4⟩ := cells5 HX2.out)
      | (go_at_call 12; refine (no_any _ _).mono ?_; rintro e t9 ⟨rfl, ht9⟩; rw [ht9]; clear ht9)
      | (go_at_call 11; refine (packs_n hok HMs.out.1 HMs.out.2.1 HMs.out.2.2.1 HMs.out.2.2.2.1 HMs.out.2.2.2.2.1 HMs.out.2.2.2.2.2 _ HR2.out HM2.out HPOS.out hnc hc HT2.out).mono ?_; rintro e t3 ⟨g1, p1, rfl, o1, b3⟩; rw [HKL.out] at o1 ⊢
         have HX4 : Hid (t3.heap[w.heap.size]? = some (.cells #[.int .i64 b, .int .i64 p, .int .i64 s, .slice a n c, .slice a' m c'] 27 (0, 0))) := (b3.block _ (Array.getElem?_eq_some_iff.1 HX2.out).1).trans HX2.out
         have HB4 : Hid (Below w.heap.size w t3) := below_trans HB2.out b3
         have HT4 : Hid (Tab t3) := HT2.out.below b3
         have HR4 : Hid (Reads t3 a n zs) := HR2.out.below b3
         have HM4 : Hid (ReadsB t3 a' m bs) := HM2.out.below b3
         have HD4 : Hid (Reads t3 d l ys) := HD2.out.below b3
         have HO4 : Hid (Reads t3 (some ⟨g1, 0, none⟩) K (packL M)) := o1.all (pack_byt M hok)
         have hp1 := o1.room_le hK0
         have hp2 : K ≤ p1 ∧ p1 ≤ 9223372036854775807 := by simp only [maxLen] at hp1; omega
         have HG4 : Hid (g1 < t3.heap.size) := o1.lt.2
         have T4 : Hid True := trivial
         clear o1 hp1
         clear b3 e0 e1 e2 e3 e4)
      | (at_builtin; have zz := TA; clear TA zz; refine wpList_append_reads rfl (.tmp 45) (.tmp 46) rfl t3.heap.size (.slice (some ⟨t3.heap.size, 0, none⟩) 0 0) 0 [] rfl (own_empty' t3 t3.heap.size rfl) (some ⟨g1, 0, none⟩) K p1 (packL M) rfl (HO4.out.below (below_alloc _ _)) (by omega) (by simp) ?_; intro v1 w1 own1 grow1; simp only [Nat.zero_add, List.nil_append] at own1
         have HB6 : Hid (Below t3.heap.size t3 w1) := (below_alloc t3 _).grown grow1 (by simp) (fun q hq => by have h9 := ((own_empty' t3 t3.heap.size rfl).lt q hq).1; omega)
         have HO6 : Hid (w1.ownsRow t3.heap.size 5 1 v1 K ((packL M).map (Value.int .u8))) := own1
         have HS6 : Hid (t3.heap.size ≤ w1.heap.size) := by have h9 := HB6.out.size; unfold Hid; omega
         have TB : Hid True := trivial
         clear own1 grow1)
      | (at_builtin; have zz := TB; clear TB zz; refine wpList_append_wide rfl (.tmp 47) (.tmp 48) rfl t3.heap.size v1 K (packL M) rfl HO6.out d l cd ys rfl (HD4.out.below HB6.out) h0 (by omega) HS6.out ?_; intro v2 w2 own2 grow2; obtain ⟨g2, c2, rfl, hc21, hc22, hg21, hg22⟩ := own_shape own2 (by omega)
         have HB7 : Hid (Below t3.heap.size t3 w2) := HB6.out.grown grow2 HB6.out.size (fun q hq => by have h9 := (HO6.out.lt q hq).1; omega)
         have HRD7 : Hid (Reads w2 (some ⟨g2, 0, none⟩) (K + l) (packL M ++ ys)) := Own.all own2 (fun z hz => by rcases List.mem_append.1 hz with hz | hz; exact pack_byt M hok z hz; exact HYB.out z hz)
         have HT7 : Hid (Tab w2) := HT4.out.below HB7.out
         have HB8 : Hid (Below w.heap.size w w2) := below_trans HB4.out HB7.out
         have hc23 : K + l ≤ c2 ∧ c2 ≤ 9223372036854775807 := by simp only [maxLen] at hc22; omega
         have HG7 : Hid (g2 < w2.heap.size) := hg22
         have TC : Hid True := trivial
         clear own2 grow2 hc21 hc22 hg21 hg22)
      | (go_at_call 13; have zz := TC; clear TC zz; refine (read_n g2 0 (K + l) c2 (packL M ++ ys) _ HLN.out HRD7.out (by omega) hc23.1 hc23.2 HG7.out HT7.out).mono ?_; rintro e t8 ⟨res, b8⟩
         rw [HTL.out] at res
         obtain ⟨rfl, _⟩ := res
         have HB9 : Hid (Below w.heap.size w (t8.alloc (.cells #[.int .i64 0, .int .i64 0, .int .i64 0, .slice none 0 0, .slice none 0 0] 27))) := below_trans HB8.out (below_trans b8 (below_alloc _ _))
         clear b8))
    go_ret
    exact ⟨rfl, HB9.out⟩
  · have f2 : ¬ k < (K : Int) := by omega
    go_enter Tryd.func4, Tryd.ntmps4
    go_wp2_with (first
      | (go_at_call 9; refine (heads_any _ HT1.out).mono ?_; rintro e t1 ⟨rfl, b1⟩
         have HX2 : Hid (t1.heap[w.heap.size]? = some (.cells #[.int .i64 b, .int .i64 p, .int .i64 s, .slice a n c, .slice a' m c'] 27 (0, 0))) := (b1.block _ (Array.getElem?_eq_some_iff.1 HX1.out).1).trans HX1.out
         have HB2 : Hid (Below w.heap.size w t1) := below_trans HB1.out b1
         have HT2 : Hid (Tab t1) := HT1.out.below b1
         have HR2 : Hid (Reads t1 a n zs) := HR1.out.below b1
         have HM2 : Hid (ReadsB t1 a' m bs) := HM1.out.below b1
         have HD2 : Hid (Reads t1 d l ys) := HD1.out.below b1
         clear b1 e0 e1 e2 e3 e4
         obtain ⟨e0, e1, e2, e3, e4⟩ := cells5 HX2.out)
      | (go_at_call 12; refine (no_any _ _).mono ?_; rintro e t9 ⟨rfl, ht9⟩; rw [ht9]; clear ht9)
      | (go_at_call 11; refine (packs_n hok HMs.out.1 HMs.out.2.1 HMs.out.2.2.1 HMs.out.2.2.2.1 HMs.out.2.2.2.2.1 HMs.out.2.2.2.2.2 _ HR2.out HM2.out HPOS.out hnc hc HT2.out).mono ?_; rintro e t3 ⟨g1, p1, rfl, o1, b3⟩; rw [HKL.out] at o1 ⊢
         have HX4 : Hid (t3.heap[w.heap.size]? = some (.cells #[.int .i64 b, .int .i64 p, .int .i64 s, .slice a n c, .slice a' m c'] 27 (0, 0))) := (b3.block _ (Array.getElem?_eq_some_iff.1 HX2.out).1).trans HX2.out
         have HB4 : Hid (Below w.heap.size w t3) := below_trans HB2.out b3
         have HT4 : Hid (Tab t3) := HT2.out.below b3
         have HR4 : Hid (Reads t3 a n zs) := HR2.out.below b3
         have HM4 : Hid (ReadsB t3 a' m bs) := HM2.out.below b3
         have HD4 : Hid (Reads t3 d l ys) := HD2.out.below b3
         have HO4 : Hid (Reads t3 (some ⟨g1, 0, none⟩) K (packL M)) := o1.all (pack_byt M hok)
         have hp1 := o1.room_le hK0
         have hp2 : K ≤ p1 ∧ p1 ≤ 9223372036854775807 := by simp only [maxLen] at hp1; omega
         have HG4 : Hid (g1 < t3.heap.size) := o1.lt.2
         have T4 : Hid True := trivial
         clear o1 hp1
         clear b3 e0 e1 e2 e3 e4)
      | (at_builtin; have zz := TA; clear TA zz; refine wpList_append_reads rfl (.tmp 45) (.tmp 46) rfl t3.heap.size (.slice (some ⟨t3.heap.size, 0, none⟩) 0 0) 0 [] rfl (own_empty' t3 t3.heap.size rfl) (some ⟨g1, 0, none⟩) K p1 (packL M) rfl (HO4.out.below (below_alloc _ _)) (by omega) (by simp) ?_; intro v1 w1 own1 grow1; simp only [Nat.zero_add, List.nil_append] at own1
         have HB6 : Hid (Below t3.heap.size t3 w1) := (below_alloc t3 _).grown grow1 (by simp) (fun q hq => by have h9 := ((own_empty' t3 t3.heap.size rfl).lt q hq).1; omega)
         have HO6 : Hid (w1.ownsRow t3.heap.size 5 1 v1 K ((packL M).map (Value.int .u8))) := own1
         have HS6 : Hid (t3.heap.size ≤ w1.heap.size) := by have h9 := HB6.out.size; unfold Hid; omega
         have TB : Hid True := trivial
         clear own1 grow1)
      | (at_builtin; have zz := TB; clear TB zz; refine wpList_append_wide rfl (.tmp 47) (.tmp 48) rfl t3.heap.size v1 K (packL M) rfl HO6.out d l cd ys rfl (HD4.out.below HB6.out) h0 (by omega) HS6.out ?_; intro v2 w2 own2 grow2; obtain ⟨g2, c2, rfl, hc21, hc22, hg21, hg22⟩ := own_shape own2 (by omega)
         have HB7 : Hid (Below t3.heap.size t3 w2) := HB6.out.grown grow2 HB6.out.size (fun q hq => by have h9 := (HO6.out.lt q hq).1; omega)
         have HRD7 : Hid (Reads w2 (some ⟨g2, 0, none⟩) (K + l) (packL M ++ ys)) := Own.all own2 (fun z hz => by rcases List.mem_append.1 hz with hz | hz; exact pack_byt M hok z hz; exact HYB.out z hz)
         have HT7 : Hid (Tab w2) := HT4.out.below HB7.out
         have HB8 : Hid (Below w.heap.size w w2) := below_trans HB4.out HB7.out
         have hc23 : K + l ≤ c2 ∧ c2 ≤ 9223372036854775807 := by simp only [maxLen] at hc22; omega
         have HG7 : Hid (g2 < w2.heap.size) := hg22
         have TC : Hid True := trivial
         clear own2 grow2 hc21 hc22 hg21 hg22)
      | (go_at_call 13; have zz := TC; clear TC zz; refine (read_n g2 0 (K + l) c2 (packL M ++ ys) _ HLN.out HRD7.out (by omega) hc23.1 hc23.2 HG7.out HT7.out).mono ?_; rintro e t8 ⟨res, b8⟩
         rw [HTL.out] at res
         obtain ⟨rfl, _⟩ := res
         have HB9 : Hid (Below w.heap.size w (t8.alloc (.cells #[.int .i64 0, .int .i64 0, .int .i64 0, .slice none 0 0, .slice none 0 0] 27))) := below_trans HB8.out (below_trans b8 (below_alloc _ _))
         clear b8))
    go_ret
    exact ⟨rfl, HB9.out⟩

set_option maxHeartbeats 4000000 in
set_option maxRecDepth 100000 in
theorem whole_n0 (b p s : Int) (a a' : Option Addr) (n c m c' : Nat) (zs : List Int) (bs : List Bool) (k : Int) (d : Option Addr) (l cd : Nat) (ys : List Int) (w : World) (hn : n ≤ 140737488351232) (hm : m ≤ 140737488351232) (hr : Reads w a n zs) (hrb : ReadsB w a' m bs) (hnc : n ≤ c) (hc : c ≤ 9223372036854775807) (hk : -9223372036854775808 ≤ k ∧ k ≤ 9223372036854775807) (hd : Reads w d l ys) (hl : l ≤ 140737488351232) (hlc : l ≤ cd) (ht : Tab w) (hE : chkE b p s n m = 0) (hkN : k < 0 ∨ ((packL (⟨b.toNat, p.toNat, s.toNat, zs, bs⟩ : Img)).length : Int) ≤ k) (h0 : l = 0) :
    Calls Tryd.prog 4 #[.agg #[.int .i64 b, .int .i64 p, .int .i64 s, .slice a n c, .slice a' m c'], .int .i64 k, .slice d l cd] w fun e w' => e = .returned (.bool true) ∧ Below w.heap.size w w' := by
  obtain ⟨M, hok, hMb, hMp, hMs, hMc, hMm, hMn⟩ := img_of hE hr.1 hrb.1 hr.2.1
  have HPOS : Hid (0 < n) := by
    unfold Hid
    obtain ⟨q1, q2, q3, q4, q5, q6, q7⟩ := fits_nat hok.1
    have h9 := hok.2.1
    rw [hMc, hr.1] at h9
    rw [h9]
    exact Nat.mul_pos (Nat.mul_pos (by omega) (by omega)) (by unfold Img.S; omega)
  obtain ⟨K, hK⟩ : ∃ K, (packL M).length = K := ⟨_, rfl⟩
  have HKL : Hid ((packL M).length = K) := hK
  have hMM : (⟨b.toNat, p.toNat, s.toNat, zs, bs⟩ : Img) = M := by obtain ⟨y1, y2, y3, y4, y5⟩ := M; simp only at hMb hMp hMs hMc hMm; subst hMc hMm; simp [hMb, hMp, hMs]
  rw [hMM, hK] at hkN
  clear hMM
  have hK9 := pack_len M hok
  rw [hK] at hK9
  have hK0 : 0 < K := by
    rw [← hK, packL, sealL, List.length_append]
    have h5 : (le4 (sumL (nats (bodyL M)))).length = 4 := rfl
    omega
  have HYB : Hid (Byt ys) := hd.2.1
  have HYL : Hid (ys.length = l) := hd.1
  have HLN : Hid ((packL M ++ ys).length = K + l) := by unfold Hid; rw [List.length_append, hK, hd.1]
  have HMs : Hid (b = (M.b : Int) ∧ p = (M.p : Int) ∧ s = (M.s : Int) ∧ M.cs = zs ∧ M.ms = bs ∧ M.b = m) := ⟨hMb, hMp, hMs, hMc, hMm, hMn⟩
  clear hE hK hMb hMp hMs hMc hMm hMn
  have hn2 : n ≤ 140737488355000 := by omega
  have hm2 : m ≤ 140737488355000 := by omega
  have HT1 : Hid (Tab (w.alloc (.cells #[.int .i64 b, .int .i64 p, .int .i64 s, .slice a n c, .slice a' m c'] 27))) := ht.below (below_alloc w _)
  have HR1 : Hid (Reads (w.alloc (.cells #[.int .i64 b, .int .i64 p, .int .i64 s, .slice a n c, .slice a' m c'] 27)) a n zs) := hr.below (below_alloc w _)
  have HM1 : Hid (ReadsB (w.alloc (.cells #[.int .i64 b, .int .i64 p, .int .i64 s, .slice a n c, .slice a' m c'] 27)) a' m bs) := hrb.below (below_alloc w _)
  have HX1 : Hid ((w.alloc (.cells #[.int .i64 b, .int .i64 p, .int .i64 s, .slice a n c, .slice a' m c'] 27)).heap[w.heap.size]? = some (.cells #[.int .i64 b, .int .i64 p, .int .i64 s, .slice a n c, .slice a' m c'] 27 (0, 0))) := heap_alloc_new _ _
  have HB1 : Hid (Below w.heap.size w (w.alloc (.cells #[.int .i64 b, .int .i64 p, .int .i64 s, .slice a n c, .slice a' m c'] 27))) := below_alloc w _
  obtain ⟨e0, e1, e2, e3, e4⟩ := cells5 HX1.out
  have HD1 : Hid (Reads (w.alloc (.cells #[.int .i64 b, .int .i64 p, .int .i64 s, .slice a n c, .slice a' m c'] 27)) d l ys) := hd.below (below_alloc w _)
  clear hr hrb ht hd
  have d9 : ((l : Int) == 0) = true := by rw [h0]; rfl
  have HL0 : Hid (l = 0) := h0
  clear h0
  rcases Int.lt_or_le k 0 with f1 | f1
  · have f2 : ¬ 0 ≤ k := by omega
    go_enter Tryd.func4, Tryd.ntmps4
    go_wp2_with (first
      | (go_at_call 9; refine (heads_any _ HT1.out).mono ?_; rintro e t1 ⟨rfl, b1⟩
         have HX2 : Hid (t1.heap[w.heap.size]? = some (.cells #[.int .i64 b, .int .i64 p, .int .i64 s, .slice a n c, .slice a' m c'] 27 (0, 0))) := (b1.block _ (Array.getElem?_eq_some_iff.1 HX1.out).1).trans HX1.out
         have HB2 : Hid (Below w.heap.size w t1) := below_trans HB1.out b1
         have HT2 : Hid (Tab t1) := HT1.out.below b1
         have HR2 : Hid (Reads t1 a n zs) := HR1.out.below b1
         have HM2 : Hid (ReadsB t1 a' m bs) := HM1.out.below b1
         have HD2 : Hid (Reads t1 d l ys) := HD1.out.below b1
         clear b1 e0 e1 e2 e3 e4
         obtain ⟨e0, e1, e2, e3, e4⟩ := cells5 HX2.out)
      | (go_at_call 12; refine (no_any _ _).mono ?_; rintro e t9 ⟨rfl, ht9⟩; rw [ht9]; clear ht9)
      | (go_at_call 11; refine (packs_n hok HMs.out.1 HMs.out.2.1 HMs.out.2.2.1 HMs.out.2.2.2.1 HMs.out.2.2.2.2.1 HMs.out.2.2.2.2.2 _ HR2.out HM2.out HPOS.out hnc hc HT2.out).mono ?_; rintro e t3 ⟨g1, p1, rfl, o1, b3⟩; rw [HKL.out] at o1 ⊢
         have HX4 : Hid (t3.heap[w.heap.size]? = some (.cells #[.int .i64 b, .int .i64 p, .int .i64 s, .slice a n c, .slice a' m c'] 27 (0, 0))) := (b3.block _ (Array.getElem?_eq_some_iff.1 HX2.out).1).trans HX2.out
         have HB4 : Hid (Below w.heap.size w t3) := below_trans HB2.out b3
         have HT4 : Hid (Tab t3) := HT2.out.below b3
         have HR4 : Hid (Reads t3 a n zs) := HR2.out.below b3
         have HM4 : Hid (ReadsB t3 a' m bs) := HM2.out.below b3
         have HD4 : Hid (Reads t3 d l ys) := HD2.out.below b3
         have HO4 : Hid (Reads t3 (some ⟨g1, 0, none⟩) K (packL M)) := o1.all (pack_byt M hok)
         have hp1 := o1.room_le hK0
         have hp2 : K ≤ p1 ∧ p1 ≤ 9223372036854775807 := by simp only [maxLen] at hp1; omega
         have HG4 : Hid (g1 < t3.heap.size) := o1.lt.2
         have T4 : Hid True := trivial
         clear o1 hp1
         clear b3 e0 e1 e2 e3 e4))
    go_ret
    exact ⟨rfl, HB4.out⟩
  · have f2 : ¬ k < (K : Int) := by omega
    go_enter Tryd.func4, Tryd.ntmps4
    go_wp2_with (first
      | (go_at_call 9; refine (heads_any _ HT1.out).mono ?_; rintro e t1 ⟨rfl, b1⟩
         have HX2 : Hid (t1.heap[w.heap.size]? = some (.cells #[.int .i64 b, .int .i64 p, .int .i64 s, .slice a n c, .slice a' m c'] 27 (0, 0))) := (b1.block _ (Array.getElem?_eq_some_iff.1 HX1.out).1).trans HX1.out
         have HB2 : Hid (Below w.heap.size w t1) := below_trans HB1.out b1
         have HT2 : Hid (Tab t1) := HT1.out.below b1
         have HR2 : Hid (Reads t1 a n zs) := HR1.out.below b1
         have HM2 : Hid (ReadsB t1 a' m bs) := HM1.out.below b1
         have HD2 : Hid (Reads t1 d l ys) := HD1.out.below b1
         clear b1 e0 e1 e2 e3 e4
         obtain ⟨e0, e1, e2, e3, e4⟩ := cells5 HX2.out)
      | (go_at_call 12; refine (no_any _ _).mono ?_; rintro e t9 ⟨rfl, ht9⟩; rw [ht9]; clear ht9)
      | (go_at_call 11; refine (packs_n hok HMs.out.1 HMs.out.2.1 HMs.out.2.2.1 HMs.out.2.2.2.1 HMs.out.2.2.2.2.1 HMs.out.2.2.2.2.2 _ HR2.out HM2.out HPOS.out hnc hc HT2.out).mono ?_; rintro e t3 ⟨g1, p1, rfl, o1, b3⟩; rw [HKL.out] at o1 ⊢
         have HX4 : Hid (t3.heap[w.heap.size]? = some (.cells #[.int .i64 b, .int .i64 p, .int .i64 s, .slice a n c, .slice a' m c'] 27 (0, 0))) := (b3.block _ (Array.getElem?_eq_some_iff.1 HX2.out).1).trans HX2.out
         have HB4 : Hid (Below w.heap.size w t3) := below_trans HB2.out b3
         have HT4 : Hid (Tab t3) := HT2.out.below b3
         have HR4 : Hid (Reads t3 a n zs) := HR2.out.below b3
         have HM4 : Hid (ReadsB t3 a' m bs) := HM2.out.below b3
         have HD4 : Hid (Reads t3 d l ys) := HD2.out.below b3
         have HO4 : Hid (Reads t3 (some ⟨g1, 0, none⟩) K (packL M)) := o1.all (pack_byt M hok)
         have hp1 := o1.room_le hK0
         have hp2 : K ≤ p1 ∧ p1 ≤ 9223372036854775807 := by simp only [maxLen] at hp1; omega
         have HG4 : Hid (g1 < t3.heap.size) := o1.lt.2
         have T4 : Hid True := trivial
         clear o1 hp1
         clear b3 e0 e1 e2 e3 e4))
    go_ret
    exact ⟨rfl, HB4.out⟩

theorem wholeWalk (b p s : Int) (a a' : Option Addr) (n c m c' : Nat) (zs : List Int) (bs : List Bool) (k : Int) (d : Option Addr) (l cd : Nat) (ys : List Int) (w : World) (hn : n ≤ 140737488351232) (hm : m ≤ 140737488351232) (hr : Reads w a n zs) (hrb : ReadsB w a' m bs) (hnc : n ≤ c) (hc : c ≤ 9223372036854775807) (hk : -9223372036854775808 ≤ k ∧ k ≤ 9223372036854775807) (hd : Reads w d l ys) (hl : l ≤ 140737488351232) (hlc : l ≤ cd) (ht : Tab w) :
    Calls Tryd.prog 4 #[.agg #[.int .i64 b, .int .i64 p, .int .i64 s, .slice a n c, .slice a' m c'], .int .i64 k, .slice d l cd] w fun e w' => e = .returned (.bool true) ∧ Below w.heap.size w w' := by
  by_cases hE : chkE b p s n m = 0
  · by_cases hk1 : 0 ≤ k ∧ k < ((packL (⟨b.toNat, p.toNat, s.toNat, zs, bs⟩ : Img)).length : Int)
    · rcases Nat.eq_zero_or_pos l with h0 | h0
      · exact whole_c0 b p s a a' n c m c' zs bs k d l cd ys w hn hm hr hrb hnc hc hk hd hl hlc ht hE hk1.1 hk1.2 h0
      · exact whole_ca b p s a a' n c m c' zs bs k d l cd ys w hn hm hr hrb hnc hc hk hd hl hlc ht hE hk1.1 hk1.2 h0
    · have hk2 : k < 0 ∨ ((packL (⟨b.toNat, p.toNat, s.toNat, zs, bs⟩ : Img)).length : Int) ≤ k := by omega
      rcases Nat.eq_zero_or_pos l with h0 | h0
      · exact whole_n0 b p s a a' n c m c' zs bs k d l cd ys w hn hm hr hrb hnc hc hk hd hl hlc ht hE hk2 h0
      · exact whole_na b p s a a' n c m c' zs bs k d l cd ys w hn hm hr hrb hnc hc hk hd hl hlc ht hE hk2 h0
  · exact whole_bad b p s a a' n c m c' zs bs k d l cd ys w hn hm hr hrb hnc hc hk hd hl hlc ht hE

end Go.Proofs.YtnopljjngbgpdabDoor
