/-
  SEAT Ytadlkikjfonkgaa: Vf, Vg.
-/
import Derived.Test.YtadlkikjfonkgaaQbn
import Derived.Test.YtadlkikjfonkgaaQbp
namespace Go.Proofs.Ytadlkikjfonkgaa
open Go.RowKit Go.Conc
set_option linter.unusedVariables false
set_option maxRecDepth 100000
set_option maxHeartbeats 4000000
variable {w w' w0 u u' : World} {B k m m' c : Nat} {G H F Pb : Nat → Prop} {C Cb Cc Cb' : Ch} {fc : List Fc}
def Bk (w : World) (B k : Nat) (G : Nat → Prop) (m : Nat) : Prop :=
 ∃ P M T, BookAt w B k G P M T ∧ P.length ≤ 2 * m ∧ M.length ≤ m ∧ T.length ≤ m ∧ (∀ r ∈ P, r.n ≤ 2000000000) ∧ (∀ r ∈ M, r.n ≤ 2000000000) ∧ (∀ r ∈ T, r.n ≤ 2000000000)
theorem Bk.lim (h : Bk w B k G m) : ∀ j, G j → B ≤ j ∧ j < w.heap.size := by
 obtain ⟨P, M, T, h, _⟩ := h
 exact h.lim
theorem Bk.only (h : Bk w B k G m) (ho : Only H w w') (hd : ∀ j, G j → ¬ H j) (hm : m ≤ m') : Bk w' B k G m' := by
 obtain ⟨P, M, T, h, h1, h2, h3, h4, h5, h6⟩ := h
 exact ⟨P, M, T, h.only ho hd, by omega, by omega, by omega, h4, h5, h6⟩
theorem BothAt.lim {b : Nat} {fs : List Fc} (h : BothAt w0 w b F C fs) : ∀ j, F j → w0.heap.size ≤ j ∧ j < w.heap.size := by
 obtain ⟨p, d, Fp, Fd, hbx, hch, hrf, hp1, hd1, hbF, hFf⟩ := h
 exact hFf
theorem BothAt.old {b : Nat} {fs : List Fc} (h : BothAt w0 w b F C fs) : Below w0.heap.size w0 w := by
 obtain ⟨p, d, Fp, Fd, hbx, hch, hrf, hp1, hd1, hbF, hFf⟩ := h
 obtain ⟨x, rs, hr⟩ := hrf
 exact hr.old
structure PlV (w0 w w' : World) (b : Nat) (F : Nat → Prop) (C : Ch) (fs : List Fc) (B k : Nat) (G : Nat → Prop) (m : Nat) : Prop where
 ex : ∃ F' G', BothAt w0 w' b F' C fs ∧ Bk w' B k G' m ∧ (∀ j, F' j → F j ∨ w.heap.size ≤ j) ∧ (∀ j, G' j → G j ∨ w.heap.size ≤ j) ∧ (∀ j, F' j → ¬ G' j)
 on : Only (fun j => F j ∨ G j) w w'
theorem plv_chip {b : Nat} {C' : Ch} {fs : List Fc} (hb : BothAt w0 w b F C fs) (hb' : BothAt w0 w' b (Fx F w w') C' fs) (ho : Only F w w') (hbk : Bk w B k G m) (hFG : ∀ j, F j → ¬ G j) : PlV w0 w w' b F C' fs B k G (m + 1) :=
 ⟨⟨Fx F w w', G, hb', hbk.only ho (fun j hg hf => hFG j hf hg) (by omega), fun j hj => hj.elim Or.inl (fun e => Or.inr e.1), fun j hj => Or.inl hj, fun j hj hg => hj.elim (fun e => hFG j e hg) (fun e => by have h1 := (hbk.lim j hg).2; have h2 := e.1; omega)⟩, ho.mono (fun _ _ e => Or.inl e)⟩
theorem plv_book {b : Nat} {fs : List Fc} {G' : Nat → Prop} (hb : BothAt w0 w b F C fs) (hb' : BothAt w0 w' b F C fs) (ho : Only G w w') (hbk : Bk w' B k G' m) (hG : ∀ j, G' j → G j ∨ w.heap.size ≤ j) (hFG : ∀ j, F j → ¬ G j) : PlV w0 w w' b F C fs B k G m :=
 ⟨⟨F, G', hb', hbk, fun j hj => Or.inl hj, hG, fun j hj hg => (hG j hg).elim (hFG j hj) (fun e => by have h1 := (hb.lim j hj).2; omega)⟩, ho.mono (fun _ _ e => Or.inr e)⟩
theorem doesC_id {o : Opc} (h : o.k < 1 ∨ 5 < o.k) : doesC C o = (0, C) := by
 unfold doesC
 rw [if_neg (by omega), if_neg (by omega), if_neg (by omega), if_neg (by omega), if_neg (by omega)]
theorem pgB_le9 {S : Nat} (h : S ≤ 8) : pgB S ≤ 2126 := by unfold pgB; omega
theorem img_len_le (h : C.Ok) : C.B * C.P * pgB C.S ≤ 2000000000 := by
 have h1 := of_decide_eq_true h.fits
 have h2 := pgB_le9 (h.s).2
 have h3 : C.B * C.P ≤ 65536 := by omega
 have h4 := Nat.mul_le_mul h3 h2
 omega
theorem plays_any (w0 w : World) (b : Nat) (F : Nat → Prop) (C : Ch) (fs : List Fc) (n : Nat) (h : BothAt w0 w b F C fs) (hL : Life C n) (hn : n ≤ 2000000000) (hfb : faultsB fs = true) (B k : Nat) (G : Nat → Prop) (m : Nat) (hbk : Bk w B k G m) (hm : m ≤ 400000000) (hB : w0.heap.size ≤ B) (hFG : ∀ j, F j → ¬ G j) (x : Ox) (hx : OxOk w0 x) :
  Calls Try.prog 34 #[.pointer (some ⟨b, 0, none⟩), .agg #[.int .i64 x.o.k, .int .i64 x.o.b, .int .i64 x.o.p, .int .i64 x.o.bit, .bool x.o.fit, .slice x.da x.dn x.dc, .slice x.za x.zn x.zc], .pointer (some ⟨k, 0, none⟩)] w fun e w' => e = .returned (.bool true) ∧ PlV w0 w w' b F (doesC C x.o).2 fs B k G (m + 1) := by
 have hok := hL.ok
 have htr := hL.tr
 have hfl := hL.fl
 have hxw := hx.below h.old
 obtain ⟨o, da, dn, dc, za, zn, zc⟩ := x
 by_cases e1 : o.k = 1
 ·have e : doesC C o = ProgramC C o.b o.p (o.n1 C.S) (o.n2 C.S) (o.want C.S) := by unfold doesC; rw [if_pos e1]
  show Calls Try.prog 34 #[.pointer (some ⟨b, 0, none⟩), .agg #[.int .i64 o.k, .int .i64 o.b, .int .i64 o.p, .int .i64 o.bit, .bool o.fit, .slice da dn dc, .slice za zn zc], .pointer (some ⟨k, 0, none⟩)] w fun e w' => e = .returned (.bool true) ∧ PlV w0 w w' b F (doesC C o).2 fs B k G (m + 1)
  rw [e, show Value.int .i64 o.k = .int .i64 1 by rw [e1]]
  refine (plays1_any w0 w b F C fs h hok hfb (by omega) o e1 da dn dc za zn zc hxw.d hxw.z (by have := hx.dl; simp only at this; omega) (by have := hx.zl; simp only at this; omega) (fun y hy h0 hf => ?_) (fun y hy h0 hf => ?_) _).mono (fun e w' hv => ⟨hv.1, plv_chip h hv.2.1 hv.2.2 hbk hFG⟩)
  ·have h1 := reads_low hx.d hy h0; have h2 := (h.lim _ hf).1; omega
  ·have h1 := reads_low hx.z hy h0; have h2 := (h.lim _ hf).1; omega
 by_cases e2 : o.k = 2
 ·have e : doesC C o = EraseC C o.b := by unfold doesC; rw [if_neg e1, if_pos e2]
  show Calls Try.prog 34 #[.pointer (some ⟨b, 0, none⟩), .agg #[.int .i64 o.k, .int .i64 o.b, .int .i64 o.p, .int .i64 o.bit, .bool o.fit, .slice da dn dc, .slice za zn zc], .pointer (some ⟨k, 0, none⟩)] w fun e w' => e = .returned (.bool true) ∧ PlV w0 w w' b F (doesC C o).2 fs B k G (m + 1)
  rw [e, e2]
  exact (plays2_any w0 w b F C fs h hok hfb (by omega) o.b o.p o.bit o.fit da dn dc za zn zc _).mono (fun e w' hv => ⟨hv.1, plv_chip h hv.2.1 hv.2.2 hbk hFG⟩)
 by_cases e3 : o.k = 3
 ·have e : doesC C o = MarkC C o.b := by unfold doesC; rw [if_neg e1, if_neg e2, if_pos e3]
  show Calls Try.prog 34 #[.pointer (some ⟨b, 0, none⟩), .agg #[.int .i64 o.k, .int .i64 o.b, .int .i64 o.p, .int .i64 o.bit, .bool o.fit, .slice da dn dc, .slice za zn zc], .pointer (some ⟨k, 0, none⟩)] w fun e w' => e = .returned (.bool true) ∧ PlV w0 w w' b F (doesC C o).2 fs B k G (m + 1)
  rw [e, e3]
  exact (plays3_any w0 w b F C fs h hok hfb (by omega) o.b o.p o.bit o.fit da dn dc za zn zc _).mono (fun e w' hv => ⟨hv.1, plv_chip h hv.2.1 hv.2.2 hbk hFG⟩)
 by_cases e4 : o.k = 4
 ·have e : doesC C o = FlipC C o.b o.p o.bit := by unfold doesC; rw [if_neg e1, if_neg e2, if_neg e3, if_pos e4]
  show Calls Try.prog 34 #[.pointer (some ⟨b, 0, none⟩), .agg #[.int .i64 o.k, .int .i64 o.b, .int .i64 o.p, .int .i64 o.bit, .bool o.fit, .slice da dn dc, .slice za zn zc], .pointer (some ⟨k, 0, none⟩)] w fun e w' => e = .returned (.bool true) ∧ PlV w0 w w' b F (doesC C o).2 fs B k G (m + 1)
  rw [e, e4]
  exact (plays4_any w0 w b F C fs h hok (fun b p => Nat.le_trans (hfl b p) (by omega)) o.b o.p o.bit hx.bit o.fit da dn dc za zn zc _).mono (fun e w' hv => ⟨hv.1, plv_chip h hv.2.1 hv.2.2 hbk hFG⟩)
 by_cases e5 : o.k = 5
 ·have e : doesC C o = (0, { C with dark := false }) := by unfold doesC; rw [if_neg e1, if_neg e2, if_neg e3, if_neg e4, if_pos e5]
  show Calls Try.prog 34 #[.pointer (some ⟨b, 0, none⟩), .agg #[.int .i64 o.k, .int .i64 o.b, .int .i64 o.p, .int .i64 o.bit, .bool o.fit, .slice da dn dc, .slice za zn zc], .pointer (some ⟨k, 0, none⟩)] w fun e w' => e = .returned (.bool true) ∧ PlV w0 w w' b F (doesC C o).2 fs B k G (m + 1)
  rw [e, e5]
  exact (plays5_any w0 w b F C fs h o.b o.p o.bit o.fit da dn dc za zn zc _).mono (fun e w' hv => ⟨hv.1, plv_chip h hv.2.1 hv.2.2 hbk hFG⟩)
 have e : doesC C o = (0, C) := by unfold doesC; rw [if_neg e1, if_neg e2, if_neg e3, if_neg e4, if_neg e5]
 show Calls Try.prog 34 #[.pointer (some ⟨b, 0, none⟩), .agg #[.int .i64 o.k, .int .i64 o.b, .int .i64 o.p, .int .i64 o.bit, .bool o.fit, .slice da dn dc, .slice za zn zc], .pointer (some ⟨k, 0, none⟩)] w fun e w' => e = .returned (.bool true) ∧ PlV w0 w w' b F (doesC C o).2 fs B k G (m + 1)
 rw [e]
 have hbk2 := hbk
 obtain ⟨P, M, T, hb1, l1, l2, l3, s1, s2, s3⟩ := hbk2
 by_cases e6 : o.k = 6
 ·rw [e6]
  refine (plays6_any w0 w b F C fs h hok B k G P M T hb1 (by omega) hB hFG o.b o.p o.bit o.fit da dn dc za zn zc).mono ?_
  rintro e w' ⟨rfl, hb', ho, r1, r2, G', hbk', n1, n2, hG'⟩
  refine ⟨rfl, plv_book h hb' ho ⟨_, _, _, hbk', by simp; omega, by omega, by omega, fun r hr => ?_, s2, s3⟩ hG' hFG⟩
  rcases List.mem_append.1 hr with h9 | h9
  ·exact s1 r h9
  ·simp at h9
   rcases h9 with rfl | rfl <;> omega
 by_cases e7 : o.k = 7
 ·rw [e7]
  exact (plays7_any w0 w b F C fs h hok o.b o.p o.bit o.fit da dn dc za zn zc _).mono (fun e w' hv => ⟨hv.1, plv_chip h hv.2.1 hv.2.2 hbk hFG⟩)
 by_cases e8 : o.k = 8
 ·rw [e8]
  refine (plays8_any w0 w b F C fs h (by omega) B k G P M T hb1 (by omega) hB hFG o.b o.p o.bit o.fit da dn dc za zn zc).mono ?_
  rintro e w' ⟨rfl, hb', ho, r, G', hbk', n1, hG'⟩
  refine ⟨rfl, plv_book h hb' ho ⟨_, _, _, hbk', by omega, by omega, by simp; omega, s1, s2, fun r9 hr => ?_⟩ hG' hFG⟩
  rcases List.mem_append.1 hr with h9 | h9
  ·exact s3 r9 h9
  ·simp at h9
   subst h9
   omega
 by_cases e9 : o.k = 9
 ·rw [e9]
  refine (plays9_any w0 w b F C fs h hok B k G P M T hb1 (by omega) (by omega) hB hFG o.b o.p o.bit o.fit da dn dc za zn zc).mono ?_
  rintro e w' ⟨rfl, hb', ho, r1, r2, G', hbk', n1, n2, hG'⟩
  refine ⟨rfl, plv_book h hb' ho ⟨_, _, _, hbk', by simp; omega, by simp; omega, by omega, fun r9 hr => ?_, fun r9 hr => ?_, s3⟩ hG' hFG⟩
  ·rcases List.mem_append.1 hr with h9 | h9
   ·exact s1 r9 h9
   ·simp at h9
    subst h9
    rw [n1]
    exact img_len_le hok
  ·rcases List.mem_append.1 hr with h9 | h9
   ·exact s2 r9 h9
   ·simp at h9
    subst h9
    have h8 := hok.b
    omega
 ·exact (plays0_any w0 w b F C fs h o.k (by omega) o.b o.p o.bit o.fit da dn dc za zn zc _).mono (fun e w' hv => ⟨hv.1, plv_chip h hv.2.1 hv.2.2 hbk hFG⟩)
structure TwoC (w0 u : World) (b c : Nat) (Pb Pc : Nat → Prop) (Cb Cc : Ch) (fb fc : List Fc) (k : Nat) (G : Nat → Prop) (m : Nat) : Prop where
 hb : BothAt w0 u b Pb Cb fb
 hc : BothAt w0 u c Pc Cc fc
 bk : Bk u w0.heap.size k G m
 d1 : ∀ j, Pb j → ¬ G j
 d2 : ∀ j, Pc j → ¬ G j
 d3 : ∀ j, Pb j → ¬ Pc j
theorem TwoC.swap {b : Nat} {Pc : Nat → Prop} {fb : List Fc} (h : TwoC w0 u b c Pb Pc Cb Cc fb fc k G m) : TwoC w0 u c b Pc Pb Cc Cb fc fb k G m :=
 ⟨h.hc, h.hb, h.bk, h.d2, h.d1, fun j hc hb => h.d3 j hb hc⟩
theorem TwoC.fst {b : Nat} {Pc : Nat → Prop} {fb : List Fc} (h : TwoC w0 u b c Pb Pc Cb Cc fb fc k G m) (hv : PlV w0 u u' b Pb Cb' fb w0.heap.size k G m') :
  ∃ Pb' G', TwoC w0 u' b c Pb' Pc Cb' Cc fb fc k G' m' ∧ (∀ j, Pb' j → Pb j ∨ u.heap.size ≤ j) ∧ (∀ j, G' j → G j ∨ u.heap.size ≤ j) := by
 obtain ⟨⟨F', G', h1, h2, h3, h4, h5⟩, ho⟩ := hv
 refine ⟨F', G', ⟨h1, h.hc.only ho (fun j hj e => e.elim (fun e => h.d3 j e hj) (h.d2 j hj)) (fun j e => e.elim (fun e => (h.hb.lim j e).1) (fun e => (h.bk.lim j e).1)), h2, h5, fun j hj hg => ?_, fun j hj hc => ?_⟩, h3, h4⟩
 ·have h9 := (h.hc.lim j hj).2
  rcases h4 j hg with e | e
  ·exact h.d2 j hj e
  ·omega
 ·have h9 := (h.hc.lim j hc).2
  rcases h3 j hj with e | e
  ·exact h.d3 j e hc
  ·omega
structure LkS (w0 w u : World) (b c : Nat) (F H : Nat → Prop) (Cb Cc : Ch) (fb fc : List Fc) (k m : Nat) : Prop where
 ex : ∃ Pb Pc G, TwoC w0 u b c Pb Pc Cb Cc fb fc k G m ∧ (∀ j, Pb j → F j ∨ w.heap.size ≤ j) ∧ (∀ j, Pc j → H j ∨ w.heap.size ≤ j) ∧ (∀ j, G j → H j ∨ w.heap.size ≤ j)
 on : Only (fun j => F j ∨ H j) w u
theorem LkS.fst {b : Nat} {fb : List Fc} {Pc : Nat → Prop} (ho : Only (fun j => F j ∨ H j) w u) (h1 : TwoC w0 u b c Pb Pc Cb Cc fb fc k G m) (h2 : ∀ j, Pb j → F j ∨ w.heap.size ≤ j) (h3 : ∀ j, Pc j → H j ∨ w.heap.size ≤ j) (h4 : ∀ j, G j → H j ∨ w.heap.size ≤ j) (hv : PlV w0 u u' b Pb Cb' fb w0.heap.size k G m') : LkS w0 w u' b c F H Cb' Cc fb fc k m' := by
 obtain ⟨Pb', G', k1, k2, k3⟩ := h1.fst hv
 have hs := ho.size
 refine ⟨⟨Pb', Pc, G', k1, fun j hj => (k2 j hj).elim (h2 j) (fun e => Or.inr (by omega)), h3, fun j hj => (k3 j hj).elim (h4 j) (fun e => Or.inr (by omega))⟩, ho.trans hv.on (fun j hj e => ?_)⟩
 rcases e with e | e
 ·exact (h2 j e).elim Or.inl (fun e => by omega)
 ·exact (h4 j e).elim Or.inr (fun e => by omega)
theorem LkS.snd {b : Nat} {Cc' : Ch} {fb : List Fc} {Pc : Nat → Prop} (ho : Only (fun j => F j ∨ H j) w u) (h1 : TwoC w0 u b c Pb Pc Cb Cc fb fc k G m) (h2 : ∀ j, Pb j → F j ∨ w.heap.size ≤ j) (h3 : ∀ j, Pc j → H j ∨ w.heap.size ≤ j) (h4 : ∀ j, G j → H j ∨ w.heap.size ≤ j) (hv : PlV w0 u u' c Pc Cc' fc w0.heap.size k G m') : LkS w0 w u' b c F H Cb Cc' fb fc k m' := by
 obtain ⟨Pc', G', k1, k2, k3⟩ := h1.swap.fst hv
 have hs := ho.size
 refine ⟨⟨Pb, Pc', G', k1.swap, h2, fun j hj => (k2 j hj).elim (h3 j) (fun e => Or.inr (by omega)), fun j hj => (k3 j hj).elim (h4 j) (fun e => Or.inr (by omega))⟩, ho.trans hv.on (fun j hj e => ?_)⟩
 rcases e with e | e
 ·exact (h3 j e).elim Or.inr (fun e => by omega)
 ·exact (h4 j e).elim Or.inr (fun e => by omega)
theorem LkS.plays1 {b : Nat} {fb : List Fc} (h : LkS w0 w u b c F H Cb Cc fb fc k m) (n : Nat) (hL : Life Cb n) (hn : n ≤ 2000000000) (hfb : faultsB fb = true) (hm : m ≤ 400000000) (x : Ox) (hx : OxOk w0 x) :
  Calls Try.prog 34 #[.pointer (some ⟨b, 0, none⟩), .agg #[.int .i64 x.o.k, .int .i64 x.o.b, .int .i64 x.o.p, .int .i64 x.o.bit, .bool x.o.fit, .slice x.da x.dn x.dc, .slice x.za x.zn x.zc], .pointer (some ⟨k, 0, none⟩)] u fun e u' => e = .returned (.bool true) ∧ LkS w0 w u' b c F H (doesC Cb x.o).2 Cc fb fc k (m + 1) := by
 obtain ⟨⟨Pb, Pc, G, h1, h2, h3, h4⟩, ho⟩ := h
 exact (plays_any w0 u b Pb Cb fb n h1.hb hL hn hfb w0.heap.size k G m h1.bk hm (Nat.le_refl _) h1.d1 x hx).mono (fun e u' hv => ⟨hv.1, LkS.fst ho h1 h2 h3 h4 hv.2⟩)
theorem LkS.plays2 {b : Nat} {fb : List Fc} (h : LkS w0 w u b c F H Cb Cc fb fc k m) (n : Nat) (hL : Life Cc n) (hn : n ≤ 2000000000) (hfb : faultsB fc = true) (hm : m ≤ 400000000) (x : Ox) (hx : OxOk w0 x) :
  Calls Try.prog 34 #[.pointer (some ⟨c, 0, none⟩), .agg #[.int .i64 x.o.k, .int .i64 x.o.b, .int .i64 x.o.p, .int .i64 x.o.bit, .bool x.o.fit, .slice x.da x.dn x.dc, .slice x.za x.zn x.zc], .pointer (some ⟨k, 0, none⟩)] u fun e u' => e = .returned (.bool true) ∧ LkS w0 w u' b c F H Cb (doesC Cc x.o).2 fb fc k (m + 1) := by
 obtain ⟨⟨Pb, Pc, G, h1, h2, h3, h4⟩, ho⟩ := h
 exact (plays_any w0 u c Pc Cc fc n h1.hc hL hn hfb w0.heap.size k G m h1.bk hm (Nat.le_refl _) h1.d2 x hx).mono (fun e u' hv => ⟨hv.1, LkS.snd ho h1 h2 h3 h4 hv.2⟩)
theorem newBk (u : World) (B : Nat) (hB : B ≤ u.heap.size) : Bk (u.alloc (.cells #[.slice none 0 0, .slice none 0 0, .slice none 0 0] 76)) B u.heap.size (fun j => j = u.heap.size) 0 := by
 refine ⟨[], [], [], ⟨⟨_, _, _, alloc_new u _, ?_, ?_, ?_⟩, rfl, fun j hj => ⟨by rw [hj]; exact hB, by rw [hj]; simp⟩⟩, by simp, by simp, by simp, (fun r hr => by cases hr), (fun r hr => by cases hr), (fun r hr => by cases hr)⟩
 ·exact ⟨World.ownsRow_nil _ _ _ _, (fun r hr => by cases hr), List.Pairwise.nil, (fun k hk => by cases hk), (fun r hr => by cases hr)⟩
 ·exact ⟨World.ownsRow_nil _ _ _ _, (fun r hr => by cases hr), List.Pairwise.nil, (fun k hk => by cases hk), (fun r hr => by cases hr)⟩
 ·exact ⟨World.ownsRow_nil _ _ _ _, (fun r hr => by cases hr), List.Pairwise.nil, (fun k hk => by cases hk), (fun r hr => by cases hr)⟩
theorem LkS.plv {b : Nat} {fb : List Fc} (h : LkS w0 w u b c F G Cb Cc fb fc k m) (hm : m ≤ m') : PlV w0 w u b F Cb fb w0.heap.size k G m' := by
 obtain ⟨⟨Pb, Pc, G', h1, h2, h3, h4⟩, ho⟩ := h
 exact ⟨⟨Pb, G', h1.hb, h1.bk.only (Only.refl (fun _ => False) u) (fun _ _ => id) hm, h2, h4, h1.d1⟩, ho⟩
theorem opk_ok (w0 : World) (z : Int) : OxOk w0 ⟨⟨z, 0, 0, 0, false, [], []⟩, none, 0, 0, none, 0, 0⟩ :=
 ⟨reads_nil _, reads_nil _, by show (0 : Nat) ≤ _; omega, by show (0 : Nat) ≤ _; omega, by show (0 : Int) ≤ _; omega⟩
theorem readsI_three (w : World) : ReadsI (w.alloc (.cells #[.int .i64 3] 3)) (some ⟨w.heap.size, 0, none⟩) 1 [3] :=
 ⟨rfl, by decide, (fun e => by cases e), fun x hx i hi => by
  cases hx
  have e : i = 0 := by omega
  subst e
  simp [Addr.add]⟩
theorem looks_any (w0 w : World) (b : Nat) (F : Nat → Prop) (C : Ch) (fs : List Fc) (n : Nat) (h : BothAt w0 w b F C fs) (hL : Life C n) (hn : n ≤ 2000000000) (hfb : faultsB fs = true) (k : Nat) (G : Nat → Prop) (m : Nat) (hbk : Bk w w0.heap.size k G m) (hm : m ≤ 300000000) (hFG : ∀ j, F j → ¬ G j) :
  Calls Try.prog 35 #[.pointer (some ⟨b, 0, none⟩), .pointer (some ⟨k, 0, none⟩)] w fun e w' => e = .returned (.bool true) ∧ PlV w0 w w' b F C fs w0.heap.size k G (m + 30) := by
 have HBO := J h
 have HBK := J hbk
 have HLf := J hL
 have HFG := J hFG
 obtain ⟨Co, hCo⟩ : ∃ x, x = newC 8 4 1 [3] [] := ⟨_, rfl⟩
 have HLo : Hid (Life Co 0) := by rw [hCo]; exact newC_life 8 4 1 [3] [] (by decide)
 have HB1 := J (below_alloc w (.cells #[.int .i64 3] 3))
 have HRI := J (readsI_three w)
 clear h hbk hL hFG
 go_enter Try.func35, Try.ntmps35
 go_upto_region 4 with (go_at_call 33; refine (made_any w0 _ 8 4 1 _ 1 1 [3] HRI.out (by decide) none 0 0 [] (readsF_nil w0) (HBO.out.old.trans (HB1.out.mono HBO.out.old.size)) (by decide)).mono ?_; intro e u3 hmd; obtain ⟨b2, rfl, hb2⟩ := hmd.yes (by decide); have HB2 := J hb2; have HBM := J hmd.bel; clear hb2 hmd)
 have HST : Hid (LkS w0 w u3 b b2 F G C Co fs [] k m) := by
  have hb3 := below_trans HB1.out HBM.out
  have e : Only (fun _ => False) w u3 := Only.ofB hb3
  have hs := HB1.out.size
  refine ⟨⟨F, Nws (w.alloc (.cells #[.int .i64 3] 3)) u3, G, ⟨HBO.out.only e (fun _ _ => id) (fun _ e => e.elim), ?_, HBK.out.only e (fun _ _ => id) (Nat.le_refl _), HFG.out, fun j hj hg => ?_, fun j hj hc => ?_⟩, fun j hj => Or.inl hj, fun j hj => Or.inr ?_, fun j hj => Or.inl hj⟩, e.mono (fun _ _ e => e.elim)⟩
  ·rw [hCo]; exact HB2.out
  ·have h1 := (HBK.out.lim j hg).2
   have h2 := hj.1
   omega
  ·have h1 := (HBO.out.lim j hj).2
   have h2 := hc.1
   omega
  ·have h2 := hj.1
   omega
 clear HB2 HBM HB1 HRI hCo
 go_wp2
 go_loopw [7] (fun s7 wr => ∃ i mm : Nat, i ≤ 3 ∧ s7 = .int .i64 i ∧ mm ≤ m + 10 * i ∧ Hid (LkS w0 w wr b b2 F G C Co fs [] k mm)) (fun s7 _ => 3 - (intOf s7).toNat)
 case atStart => exact ⟨0, m, by omega, rfl, by omega, HST⟩
 case round =>
  clear HST
  obtain ⟨i, mm, hi, rfl, hmm, HST⟩ := hrel
  by_cases hlt : i < 3
  ·have m1 : (i : Int) < 3 := by omega
   have hd1 : decide ((i : Int) < 3) = true := decide_eq_true m1
   have HM := J hmm
   clear hmm
   go_wp2
   go_loopw [8] (fun s8 wr => ∃ t mm : Nat, t ≤ 5 ∧ s8 = .int .i64 (6 + (t : Int)) ∧ mm ≤ m + 10 * i + 2 * t ∧ Hid (LkS w0 w wr b b2 F G C Co fs [] k mm)) (fun s8 _ => 11 - (intOf s8).toNat)
   case atStart => exact ⟨0, mm, by omega, rfl, by have := HM.out; omega, HST⟩
   case round =>
    clear HST
    obtain ⟨t, m2, ht, rfl, hm2, HST⟩ := hrel
    obtain ⟨z, hz⟩ : ∃ z : Int, z = 6 + (t : Int) := ⟨_, rfl⟩
    rw [← hz]
    by_cases hlt2 : t < 5
    ·have z0 : 6 ≤ z := by omega
     have z1 : z ≤ 10 := by omega
     have hd2 : decide (z ≤ 10) = true := decide_eq_true z1
     have HZ := J hz
     have HM2 := J hm2
     have hb4 : m2 ≤ 400000000 := by omega
     have hb5 : m2 + 1 ≤ 400000000 := by omega
     have HD := J (doesC_id (C := C) (o := ⟨z, 0, 0, 0, false, [], []⟩) (Or.inr (by show 5 < z; omega)))
     have HDo := J (doesC_id (C := Co) (o := ⟨z, 0, 0, 0, false, [], []⟩) (Or.inr (by show 5 < z; omega)))
     clear hz hm2
     by_cases hi1 : i = 1
     ·have hd3 : ((i : Int) == 1) = true := by rw [hi1]; rfl
      clear hi1
      go_wp2_with (first
       | (go_at_call 34; have h9 := HST2; clear h9; refine (HST2.out.plays2 0 HLo.out (by decide) (by decide) hb5 ⟨⟨z, 0, 0, 0, false, [], []⟩, none, 0, 0, none, 0, 0⟩ (opk_ok w0 z)).mono ?_; rintro e u5 ⟨rfl, hs5⟩; rw [HDo.out] at hs5; have HS5 := J hs5; clear hs5)
       | (go_at_call 34; refine (HST.out.plays1 n HLf.out hn hfb hb4 ⟨⟨z, 0, 0, 0, false, [], []⟩, none, 0, 0, none, 0, 0⟩ (opk_ok w0 z)).mono ?_; rintro e u4 ⟨rfl, hs4⟩; rw [HD.out] at hs4; have HST2 := J hs4; clear hs4))
      go_roundw
      case rel => exact ⟨t + 1, m2 + 2, by omega, by rw [HZ.out]; go_num, by have := HM2.out; omega, HS5⟩
      case measure => simp [intOf]; omega
     ·have hd3 : ((i : Int) == 1) = false := by simp; omega
      go_wp2_with (go_at_call 34; refine (HST.out.plays1 n HLf.out hn hfb hb4 ⟨⟨z, 0, 0, 0, false, [], []⟩, none, 0, 0, none, 0, 0⟩ (opk_ok w0 z)).mono ?_; rintro e u4 ⟨rfl, hs4⟩; rw [HD.out] at hs4; have HST2 := J hs4; clear hs4)
      go_roundw
      case rel => exact ⟨t + 1, m2 + 1, by omega, by rw [HZ.out]; go_num, by have := HM2.out; omega, HST2⟩
      case measure => simp [intOf]; omega
    ·have z1 : ¬ z ≤ 10 := by omega
     have hd2 : decide (z ≤ 10) = false := decide_eq_false z1
     clear hz
     go_wp2
     go_roundw
     case rel => exact ⟨i + 1, m2, by omega, by go_num, by omega, HST⟩
     case measure => simp [intOf]; omega
  ·have hd1 : decide ((i : Int) < 3) = false := decide_eq_false (by omega)
   go_wp2
   go_ret
   exact ⟨rfl, HST.out.plv (by omega)⟩
end Go.Proofs.Ytadlkikjfonkgaa
