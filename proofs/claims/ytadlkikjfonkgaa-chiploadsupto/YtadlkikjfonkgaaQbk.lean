/-
  SEAT Ytadlkikjfonkgaa: Xu.
-/
import Derived.Test.YtadlkikjfonkgaaQa
import Derived.Test.YtadlkikjfonkgaaQbj
import Derived.Test.YtadlkikjfonkgaaQx
namespace Go.Proofs.Ytadlkikjfonkgaa
open Go.RowKit Go.Conc
set_option linter.unusedVariables false
set_option maxRecDepth 100000
set_option maxHeartbeats 4000000
variable {w u : World} {F G : Nat → Prop} {q g1 k1 g2 k2 : Nat} {D Z : List Int}
theorem rProgram_any0 (w0 w : World) (p : Nat) (F : Nat → Prop) (C : Ch) (fs : List Fc) (h : RefAt w0 w p F C fs) (hok : C.Ok) (pb pp : Int) (da sa : Option Addr) (n1 dc n2 sc : Nat) (hfb : faultsB fs = true) (hl1 : n1 ≤ 140737488355000) (hl2 : n2 ≤ 140737488355000) (htr : C.tr.length ≤ 3000000000000) (zd zp : List Int) (hD : Reads w da n1 zd) (hZ : Reads w sa n2 zp) (hdF : ∀ y, da = some y → 0 < n1 → ¬ F y.block) (hzF : ∀ y, sa = some y → 0 < n2 → ¬ F y.block) :
  Calls Try.prog 96 #[.pointer (some ⟨p, 0, none⟩), .agg #[.int .i64 pb, .int .i64 pp], .agg #[.slice da n1 dc, .slice sa n2 sc]] w fun e w' => e = .returned (.int .i64 (ProgramC C pb pp n1 n2 (zd ++ zp)).1) ∧ RefAt w0 w' p (Fx F w w') (ProgramC C pb pp n1 n2 (zd ++ zp)).2 fs ∧ Only F w w' := by
 unfold ProgramC
 cases hd : C.dark with
 | true =>
  refine (rProgram_dark w0 w p F C fs h hok pb pp da sa n1 dc n2 sc hd).mono ?_
  rintro e w' ⟨rfl, hb⟩
  exact ⟨rfl, h.fx hb, Only.ofB hb⟩
 | false =>
  simp only [Bool.false_eq_true, if_false]
  by_cases e1 : n1 = 256 * C.S
  ·have d1 : ((n1 : Int) != 256 * (C.S : Int)) = false := by have : (n1 : Int) = 256 * C.S := by omega
                                                             simpa using this
   by_cases e2 : n2 = 54 + 3 * C.S
   ·have d2 : ((n2 : Int) != 54 + 3 * (C.S : Int)) = false := by have : (n2 : Int) = 54 + 3 * C.S := by omega
                                                                 simpa using this
    rw [if_neg (by omega)]
    exact rProgram_ok w0 w p F C fs h hok pb pp da sa n1 dc n2 sc hfb hl1 hl2 htr hd d1 d2 zd zp hD hZ (fun y hy => hdF y hy (by have := hok.s; omega)) (fun y hy => hzF y hy (by omega))
   ·have d2 : ((n2 : Int) != 54 + 3 * (C.S : Int)) = true := by have : ¬ (n2 : Int) = 54 + 3 * C.S := by omega
                                                                simpa using this
    rw [if_pos (Or.inr e2)]
    refine (rProgram_n2 w0 w p F C fs h hok pb pp da sa n1 dc n2 sc hl1 hl2 hd d1 d2).mono ?_
    rintro e w' ⟨rfl, hb⟩
    exact ⟨rfl, h.fx hb, Only.ofB hb⟩
  ·have d1 : ((n1 : Int) != 256 * (C.S : Int)) = true := by have : ¬ (n1 : Int) = 256 * C.S := by omega
                                                            simpa using this
   rw [if_pos (Or.inl e1)]
   refine (rProgram_n1 w0 w p F C fs h hok pb pp da sa n1 dc n2 sc hl1 hd d1).mono ?_
   rintro e w' ⟨rfl, hb⟩
   exact ⟨rfl, h.fx hb, Only.ofB hb⟩
theorem RefAt.geo {w0 : World} {p : Nat} {C : Ch} {fs : List Fc} (h : RefAt w0 w p F C fs) : w.cell? ⟨p, 0, none⟩ = some (.int .i64 (C.B : Int)) ∧ w.cell? ⟨p, 1, none⟩ = some (.int .i64 (C.P : Int)) ∧ w.cell? ⟨p, 2, none⟩ = some (.int .i64 (C.S : Int)) := by
 obtain ⟨x, rs, h⟩ := h
 exact h.geo
structure PgW (w u : World) (q : Nat) (da : Option Addr) (dn : Nat) (za : Option Addr) (zn : Nat) (o : Opc) (S : Nat) (a1 : Option Addr) (n1 c1 : Nat) (a2 : Option Addr) (n2 c2 : Nat) (D Z : List Int) : Prop where
 box : u.heap[q]? = some (.cells #[.slice a1 n1 c1, .slice a2 n2 c2] 36 (0, 0))
 q : w.heap.size ≤ q
 e1 : n1 = o.n1 S
 e2 : n2 = o.n2 S
 want : D ++ Z = o.want S
 rd1 : Reads u a1 n1 D
 rd2 : Reads u a2 n2 Z
 w1 : ∀ y, a1 = some y → (da = some y ∧ n1 = dn) ∨ w.heap.size ≤ y.block
 w2 : ∀ y, a2 = some y → (za = some y ∧ n2 = zn) ∨ w.heap.size ≤ y.block
 bel : Below w.heap.size w u
theorem PgW.below {v : World} {da : Option Addr} {dn : Nat} {za : Option Addr} {zn : Nat} {o : Opc} {S : Nat} {a1 : Option Addr} {n1 c1 : Nat} {a2 : Option Addr} {n2 c2 : Nat} (h : PgW w u q da dn za zn o S a1 n1 c1 a2 n2 c2 D Z) (hb : Below u.heap.size u v) : PgW w v q da dn za zn o S a1 n1 c1 a2 n2 c2 D Z :=
 ⟨(hb.block _ (lt_of_block h.box)).trans h.box, h.q, h.e1, h.e2, h.want, h.rd1.below hb, h.rd2.below hb, h.w1, h.w2, below_trans h.bel hb⟩
structure TnW (w u v : World) (q n1 n2 g1 k1 g2 k2 : Nat) : Prop where
 only : Only (fun j => j = g1 ∨ j = g2) u v
 box : v.heap[q]? = some (.cells #[.slice (some ⟨g1, 0, none⟩) n1 k1, .slice (some ⟨g2, 0, none⟩) n2 k2] 36 (0, 0))
 o1 : ∃ zs, Own v w.heap.size g1 (n1 + 3) k1 zs
 o2 : ∃ zs, Own v w.heap.size g2 (n2 + 3) k2 zs
 ne : g1 ≠ g2
theorem TnW.below {v v' : World} {n1 n2 : Nat} (h : TnW w u v q n1 n2 g1 k1 g2 k2) (hb : Below v.heap.size v v') : TnW w u v' q n1 n2 g1 k1 g2 k2 := by
 obtain ⟨z1, h1⟩ := h.o1
 obtain ⟨z2, h2⟩ := h.o2
 exact ⟨h.only.trans' (Only.ofB hb), (hb.block _ (lt_of_block h.box)).trans h.box, ⟨z1, owns_bel h1 hb⟩, ⟨z2, owns_bel h2 hb⟩, h.ne⟩
theorem TnW.turn1 {v : World} {n1 n2 : Nat} (h : TnW w u v q n1 n2 g1 k1 g2 k2) (j : Nat) (z : Int) : TnW w u (v.setCell ⟨g1, j, none⟩ (.int .u8 z)) q n1 n2 g1 k1 g2 k2 := by
 obtain ⟨z1, h1⟩ := h.o1
 obtain ⟨z2, h2⟩ := h.o2
 obtain ⟨c1, hc1⟩ := own_tag h1 rfl
 obtain ⟨c2, hc2⟩ := own_tag h2 rfl
 have ho := Only.setCell (· = g1) v g1 j (.int .u8 z) rfl
 exact ⟨h.only.trans ho (fun _ _ e => Or.inl e), (ho.block _ (lt_of_block h.box) (fun e => by have h9 := h.box; rw [e, hc1] at h9; cases h9)).trans h.box, ⟨_, (Own.set h1 j z).1⟩, ⟨z2, owns_keep h2 (fun y hy => by cases hy; exact ho.block _ (lt_of_block hc2) (fun e => h.ne e.symm))⟩, h.ne⟩
theorem TnW.turn2 {v : World} {n1 n2 : Nat} (h : TnW w u v q n1 n2 g1 k1 g2 k2) (j : Nat) (z : Int) : TnW w u (v.setCell ⟨g2, j, none⟩ (.int .u8 z)) q n1 n2 g1 k1 g2 k2 := by
 obtain ⟨z1, h1⟩ := h.o1
 obtain ⟨z2, h2⟩ := h.o2
 obtain ⟨c1, hc1⟩ := own_tag h1 rfl
 obtain ⟨c2, hc2⟩ := own_tag h2 rfl
 have ho := Only.setCell (· = g2) v g2 j (.int .u8 z) rfl
 exact ⟨h.only.trans ho (fun _ _ e => Or.inr e), (ho.block _ (lt_of_block h.box) (fun e => by have h9 := h.box; rw [e, hc2] at h9; cases h9)).trans h.box, ⟨z1, owns_keep h1 (fun y hy => by cases hy; exact ho.block _ (lt_of_block hc1) h.ne)⟩, ⟨_, (Own.set h2 j z).1⟩, h.ne⟩
theorem reads_prov {v : World} {a e : Option Addr} {l m : Nat} {zs : List Int} (h : Reads u a l zs) (ho : Only G u v) (hG : ∀ k, G k → F k ∧ k < w.heap.size) (hp : ∀ y, a = some y → (e = some y ∧ l = m) ∨ w.heap.size ≤ y.block) (he : ∀ y, e = some y → 0 < m → ¬ F y.block) : Reads v a l zs :=
 reads_keep h (fun y hy h0 => ho.block y.block (reads_low' h hy h0) (fun hg => by
  obtain ⟨h1, h2⟩ := hG _ hg
  rcases hp y hy with h3 | h3
  ·exact he y h3.1 (by have := h3.2; omega) h1
  ·omega))
structure CpW (w u : World) (q n1 n2 : Nat) (D Z : List Int) (g1 k1 g2 k2 : Nat) : Prop where
 box : u.heap[q]? = some (.cells #[.slice (some ⟨g1, 0, none⟩) n1 k1, .slice (some ⟨g2, 0, none⟩) n2 k2] 36 (0, 0))
 q : w.heap.size ≤ q
 o1 : Own u w.heap.size g1 (n1 + 3) k1 (D ++ [161, 178, 195])
 o2 : Own u w.heap.size g2 (n2 + 3) k2 (Z ++ [161, 178, 195])
 ne : g1 ≠ g2
theorem CpW.only {v : World} {n1 n2 : Nat} (h : CpW w u q n1 n2 D Z g1 k1 g2 k2) (ho : Only G u v) (hG : ∀ k, G k → k < w.heap.size ∨ u.heap.size ≤ k) : CpW w v q n1 n2 D Z g1 k1 g2 k2 := by
 have hk : ∀ k, w.heap.size ≤ k → k < u.heap.size → v.heap[k]? = u.heap[k]? := fun k h1 h2 => ho.block k h2 (fun e => by have := hG k e; omega)
 exact ⟨(hk q h.q (lt_of_block h.box)).trans h.box, h.q, owns_keep h.o1 (fun y hy => by cases hy; exact hk _ h.o1.lt.1 h.o1.lt.2), owns_keep h.o2 (fun y hy => by cases hy; exact hk _ h.o2.lt.1 h.o2.lt.2), h.ne⟩
theorem programs_any (w0 w : World) (b : Nat) (F : Nat → Prop) (C : Ch) (fs : List Fc) (h : BothAt w0 w b F C fs) (hok : C.Ok) (hfb : faultsB fs = true) (htr : C.tr.length ≤ 3000000000000) (o : Opc) (da : Option Addr) (dn dc : Nat) (za : Option Addr) (zn zc : Nat) (hD : Reads w da dn o.d) (hZ : Reads w za zn o.z) (hdl : dn ≤ 140737488354900) (hzl : zn ≤ 140737488354900) (hdF : ∀ y, da = some y → 0 < dn → ¬ F y.block) (hzF : ∀ y, za = some y → 0 < zn → ¬ F y.block) :
  Calls Try.prog 65 #[.pointer (some ⟨b, 0, none⟩), .agg #[.int .i64 o.k, .int .i64 o.b, .int .i64 o.p, .int .i64 o.bit, .bool o.fit, .slice da dn dc, .slice za zn zc]] w fun e w' => e = .returned (.bool true) ∧ BothAt w0 w' b (Fx F w w') (ProgramC C o.b o.p (o.n1 C.S) (o.n2 C.S) (o.want C.S)).2 fs ∧ Only F w w' := by
 obtain ⟨p, d, Fp, Fd, hbx, hch, hrf, hp1, hd1, hbF, hFf⟩ := h
 have HCH := J hch
 have HRF := J hrf
 have HBX := J hbx
 have HFP := J (And.intro hp1 (And.intro hd1 (And.intro hbF hFf)))
 have HD := J hD
 have HZ := J hZ
 have HDF := J (And.intro hdF hzF)
 have HBW := J (below_trans (below_alloc w (.cells #[.int .i64 o.k, .int .i64 o.b, .int .i64 o.p, .int .i64 o.bit, .bool o.fit, .slice da dn dc, .slice za zn zc] 56)) (drew_below _))
 have HX3 : Hid ((w.alloc (.cells #[.int .i64 o.k, .int .i64 o.b, .int .i64 o.p, .int .i64 o.bit, .bool o.fit, .slice da dn dc, .slice za zn zc] 56)).drew.heap[w.heap.size]? = some (.cells #[.int .i64 o.k, .int .i64 o.b, .int .i64 o.p, .int .i64 o.bit, .bool o.fit, .slice da dn dc, .slice za zn zc] 56 (0, 0))) := alloc_new w (.cells #[.int .i64 o.k, .int .i64 o.b, .int .i64 o.p, .int .i64 o.bit, .bool o.fit, .slice da dn dc, .slice za zn zc] 56)
 clear hbx hch hrf hp1 hd1 hbF hFf hD hZ hdF hzF
 go_enter Try.func65, Try.ntmps65
 go_upto_region 1 with fail
 generalize hq3 : w.heap.size = q3 at HX3 ⊢
 have HQ3 := J hq3
 obtain ⟨U1, hU1⟩ : ∃ x, (w.alloc (.cells #[.int .i64 o.k, .int .i64 o.b, .int .i64 o.p, .int .i64 o.bit, .bool o.fit, .slice da dn dc, .slice za zn zc] 56)).drew = x := ⟨_, rfl⟩
 rw [hU1] at HBW HX3
 have HUW := J (show w.heap.size ≤ U1.heap.size by have := HBW.out.size; omega)
 have HS1 : Hid (∀ u, Below U1.heap.size U1 u → (u.cell? ⟨q3, 0, none⟩ = some (.int .i64 o.k) ∧ u.cell? ⟨q3, 1, none⟩ = some (.int .i64 o.b) ∧ u.cell? ⟨q3, 2, none⟩ = some (.int .i64 o.p) ∧ u.cell? ⟨q3, 3, none⟩ = some (.int .i64 o.bit) ∧ u.cell? ⟨q3, 4, none⟩ = some (.bool o.fit) ∧ u.cell? ⟨q3, 5, none⟩ = some (.slice da dn dc) ∧ u.cell? ⟨q3, 6, none⟩ = some (.slice za zn zc)) ∧ u.cell? ⟨b, 1, none⟩ = some (.pointer (some ⟨d, 0, none⟩)) ∧ u.cell? ⟨d, 0, none⟩ = some (.int .i64 (C.B : Int)) ∧ u.cell? ⟨d, 1, none⟩ = some (.int .i64 (C.P : Int)) ∧ u.cell? ⟨d, 2, none⟩ = some (.int .i64 (C.S : Int))) := fun u hu => by
  have h1 := below_trans HBW.out hu
  exact ⟨cells7 ((hu.block _ (lt_of_block HX3.out)).trans HX3.out), (cells2 ((h1.block _ (lt_of_block HBX.out)).trans HBX.out)).2, (HRF.out.below h1).geo⟩
 have HS1d : Hid ((fun u => (u.cell? ⟨q3, 0, none⟩ = some (.int .i64 o.k) ∧ u.cell? ⟨q3, 1, none⟩ = some (.int .i64 o.b) ∧ u.cell? ⟨q3, 2, none⟩ = some (.int .i64 o.p) ∧ u.cell? ⟨q3, 3, none⟩ = some (.int .i64 o.bit) ∧ u.cell? ⟨q3, 4, none⟩ = some (.bool o.fit) ∧ u.cell? ⟨q3, 5, none⟩ = some (.slice da dn dc) ∧ u.cell? ⟨q3, 6, none⟩ = some (.slice za zn zc)) ∧ u.cell? ⟨b, 1, none⟩ = some (.pointer (some ⟨d, 0, none⟩)) ∧ u.cell? ⟨d, 0, none⟩ = some (.int .i64 (C.B : Int)) ∧ u.cell? ⟨d, 1, none⟩ = some (.int .i64 (C.P : Int)) ∧ u.cell? ⟨d, 2, none⟩ = some (.int .i64 (C.S : Int))) (w.alloc (.cells #[.int .i64 o.k, .int .i64 o.b, .int .i64 o.p, .int .i64 o.bit, .bool o.fit, .slice da dn dc, .slice za zn zc] 56)).drew) := by rw [hU1]; exact HS1.out U1 (Below.refl _ _)
 have HBc := J (Below.refl U1.heap.size U1)
 go_cut [5] from 5 to 20 (fun s5 wx => ∃ q5 a1 n1 c1 a2 n2 c2 D Z, s5 = .pointer (some ⟨q5, 0, none⟩) ∧ PgW w wx q5 da dn za zn o C.S a1 n1 c1 a2 n2 c2 D Z ∧ wx.heap[q3]? = some (.cells #[.int .i64 o.k, .int .i64 o.b, .int .i64 o.p, .int .i64 o.bit, .bool o.fit, .slice da dn dc, .slice za zn zc] 56 (0, 0)))
 case first =>
  refine wp_region_held_drew (S := (fun u => (u.cell? ⟨q3, 0, none⟩ = some (.int .i64 o.k) ∧ u.cell? ⟨q3, 1, none⟩ = some (.int .i64 o.b) ∧ u.cell? ⟨q3, 2, none⟩ = some (.int .i64 o.p) ∧ u.cell? ⟨q3, 3, none⟩ = some (.int .i64 o.bit) ∧ u.cell? ⟨q3, 4, none⟩ = some (.bool o.fit) ∧ u.cell? ⟨q3, 5, none⟩ = some (.slice da dn dc) ∧ u.cell? ⟨q3, 6, none⟩ = some (.slice za zn zc)) ∧ u.cell? ⟨b, 1, none⟩ = some (.pointer (some ⟨d, 0, none⟩)) ∧ u.cell? ⟨d, 0, none⟩ = some (.int .i64 (C.B : Int)) ∧ u.cell? ⟨d, 1, none⟩ = some (.int .i64 (C.P : Int)) ∧ u.cell? ⟨d, 2, none⟩ = some (.int .i64 (C.S : Int)))) (by kernel_rfl) (HS1d.out) fun O => ?_
  rw [hU1] at O ⊢
  refine tk 0 ?_
  refine tk 1 ?_
  refine tk 2 ?_
  refine tk 3 ?_
  refine tk 4 ?_
  refine tk 5 ?_
  refine tk 6 ?_
  refine tk 7 ?_
  refine wpAnyH_ready (rs := [8, 9]) (by kernel_rfl) (by simp) ?_
  refine AllReadyH.cons (o := { dst := some 20, op := Op.call { callee := Callee.value (Operand.func 27), args := #[Operand.tmp 12, Operand.tmp 19], argTypes := #[56, 23] }, type := 36, pos := "law.go:138", after := #[{ on := 0, ground := Ground.data }, { on := 7, ground := Ground.data }], guard := none }) rfl (fun K N => ?_) (AllReadyH.cons (o := { dst := some 5, op := Op.alloc 36, type := 0, pos := "law.go:138", after := #[], guard := none }) rfl (fun K N => ?_) AllReadyH.nil)
  ·go_simp
   go_at_call 27
   refine (page_any _ C.B C.P C.S hok.fits o da dn dc za zn zc (HD.out.below (below_trans HBW.out HBc.out)) (HZ.out.below (below_trans HBW.out HBc.out)) (by omega) (by omega)).mono ?_
   rintro e u3 hpg
   obtain ⟨⟨a1, n1, c1, a2, n2, c2, D, Z, rfl, hn1, hn2, hwt, rd1, rd2, w1, w2⟩, b3⟩ := hpg
   have HR1 := J rd1
   have HR2 := J rd2
   have HNN := J (And.intro hn1 (And.intro hn2 hwt))
   have HWW := J (And.intro w1 w2)
   have HB3 := J b3
   have HBn := J (below_trans HBc.out b3)
   have hZ := HS1.out u3 HBn.out
   clear HBc
   have HBc := HBn
   clear HBn rd1 rd2 hn1 hn2 hwt w1 w2 b3
   go_wp2_with fail
   clear O
   refine N.out _ _ hZ fun O => ?_
   clear N K hZ
   try simp only [zz]
   have HB3W := HBc
   refine rd 9 fun K N => ?_
   go_simp
   go_wp2_with fail
   have HX5 := J (alloc_new u3 (.cells #[.slice none 0 0, .slice none 0 0] 36))
   have HBn := J (below_trans HBc.out (below_alloc u3 (.cells #[.slice none 0 0, .slice none 0 0] 36)))
   have hZ := HS1.out (u3.alloc (.cells #[.slice none 0 0, .slice none 0 0] 36)) HBn.out
   clear HBc
   have HBc := HBn
   clear HBn
   clear O
   refine N.out _ _ hZ fun O => ?_
   clear N K hZ
   try simp only [zz]
   refine rd 10 fun K N => ?_
   go_simp
   go_wp2_with fail
   have HBV := J (below_trans (below_trans HBW.out HB3W.out) (below_alloc u3 (.cells #[.slice a1 n1 c1, .slice a2 n2 c2] 36)))
   have hZ := HS1.out _ (below_trans HB3W.out (below_alloc u3 (.cells #[.slice a1 n1 c1, .slice a2 n2 c2] 36)))
   clear O
   refine N.out _ _ hZ fun O => ?_
   clear N K hZ
   try simp only [zz]
   refine td ?_
   clear O
   go_wp2
   go_meet
   exact ⟨u3.heap.size, a1, n1, c1, a2, n2, c2, D, Z, rfl, ⟨alloc_new u3 _, (below_trans HBW.out HB3W.out).size, HNN.out.1, HNN.out.2.1, HNN.out.2.2, HR1.out.below (below_alloc u3 _), HR2.out.below (below_alloc u3 _), (fun y hy => (HWW.out.1 y hy).imp id (fun h9 => Nat.le_trans HUW.out h9)), (fun y hy => (HWW.out.2 y hy).imp id (fun h9 => Nat.le_trans HUW.out h9)), HBV.out⟩, ((below_trans HB3W.out (below_alloc u3 _)).block _ (lt_of_block HX3.out)).trans HX3.out⟩
  ·go_simp
   go_wp2_with fail
   have HX5 := J (alloc_new U1 (.cells #[.slice none 0 0, .slice none 0 0] 36))
   have HBn := J (below_trans HBc.out (below_alloc U1 (.cells #[.slice none 0 0, .slice none 0 0] 36)))
   have hZ := HS1.out (U1.alloc (.cells #[.slice none 0 0, .slice none 0 0] 36)) HBn.out
   clear HBc
   have HBc := HBn
   clear HBn
   clear O
   refine N.out _ _ hZ fun O => ?_
   clear N K hZ
   try simp only [zz]
   refine rd 8 fun K N => ?_
   go_simp
   go_at_call 27
   refine (page_any _ C.B C.P C.S hok.fits o da dn dc za zn zc (HD.out.below (below_trans HBW.out HBc.out)) (HZ.out.below (below_trans HBW.out HBc.out)) (by omega) (by omega)).mono ?_
   rintro e u3 hpg
   obtain ⟨⟨a1, n1, c1, a2, n2, c2, D, Z, rfl, hn1, hn2, hwt, rd1, rd2, w1, w2⟩, b3⟩ := hpg
   have HR1 := J rd1
   have HR2 := J rd2
   have HNN := J (And.intro hn1 (And.intro hn2 hwt))
   have HWW := J (And.intro w1 w2)
   have HB3 := J b3
   have HBn := J (below_trans HBc.out b3)
   have hZ := HS1.out u3 HBn.out
   clear HBc
   have HBc := HBn
   clear HBn rd1 rd2 hn1 hn2 hwt w1 w2 b3
   go_wp2_with fail
   clear O
   refine N.out _ _ hZ fun O => ?_
   clear N K hZ
   try simp only [zz]
   have hx5 := (HB3.out.block _ (lt_of_block HX5.out)).trans HX5.out
   obtain ⟨t0, t1⟩ := cells2 hx5
   have fz := fun j => frozen_of_row u3 U1.heap.size j _ 36 hx5
   have HX6 := J hx5
   clear hx5
   refine rd 10 fun K N => ?_
   go_simp
   go_wp2_with fail
   have hs2 := heap_setCell_same _ U1.heap.size 1 #[.slice a1 n1 c1, .slice none 0 0] 36 (.slice a2 n2 c2) (heap_setCell_same u3 U1.heap.size 0 _ 36 (.slice a1 n1 c1) HX6.out)
   have hO : Only (· = U1.heap.size) u3 _ := (Only.setCell (· = U1.heap.size) u3 U1.heap.size 0 (.slice a1 n1 c1) rfl).trans' (Only.setCell _ _ U1.heap.size 1 (.slice a2 n2 c2) rfl)
   generalize hv9 : World.setCell _ ⟨U1.heap.size, 1, none⟩ _ = v9 at hs2 hO ⊢
   have HS2 := J hs2
   have HO9 := J hO
   have HBV : Hid (Below U1.heap.size U1 v9) := HBc.out.trans (hO.below (fun j e => by rw [e]; exact Nat.le_refl _) HBc.out.size)
   have hZ := HS1.out v9 HBV.out
   clear hs2 hO hv9 t0 t1 fz
   clear O
   refine N.out _ _ hZ fun O => ?_
   clear N K hZ
   try simp only [zz]
   refine td ?_
   clear O
   go_wp2
   go_meet
   have hne : ∀ {a : Option Addr} {l : Nat} {zs : List Int} {e : Option Addr} {m : Nat} {ys : List Int}, Reads u3 a l zs → Reads w e m ys → (∀ y, a = some y → (e = some y ∧ l = m) ∨ (U1.alloc (.cells #[.slice none 0 0, .slice none 0 0] 36)).heap.size ≤ y.block) → Reads v9 a l zs := fun hr hw hp => reads_keep hr (fun y hy h0 => HO9.out.block y.block (reads_low' hr hy h0) (fun e9 => (hp y hy).elim (fun h9 => by have h8 := reads_low' hw h9.1 (by have := h9.2; omega); have h7 := HUW.out; have h6 : y.block = U1.heap.size := e9; omega) (fun h9 => by have h6 : y.block = U1.heap.size := e9; simp at h9; omega)))
   exact ⟨U1.heap.size, a1, n1, c1, a2, n2, c2, D, Z, rfl, ⟨HS2.out, HUW.out, HNN.out.1, HNN.out.2.1, HNN.out.2.2, hne HR1.out HD.out HWW.out.1, hne HR2.out HZ.out HWW.out.2, (fun y hy => (HWW.out.1 y hy).imp id (fun h9 => Nat.le_trans HUW.out (Nat.le_trans (below_alloc U1 (.cells #[.slice none 0 0, .slice none 0 0] 36)).size h9))), (fun y hy => (HWW.out.2 y hy).imp id (fun h9 => Nat.le_trans HUW.out (Nat.le_trans (below_alloc U1 (.cells #[.slice none 0 0, .slice none 0 0] 36)).size h9))), below_trans HBW.out HBV.out⟩, (HBV.out.block _ (lt_of_block HX3.out)).trans HX3.out⟩
 case rest =>
 obtain ⟨q5, a1, n1, c1, a2, n2, c2, D, Z, rfl, hpg, hx3⟩ := hcut
 have HPG := J hpg
 have HX3c := J hx3
 have hl1 : n1 ≤ 140737488355000 := by rw [hpg.e1]; unfold Opc.n1; have h6 := HD.out.1; have h5 := hok.s; split <;> omega
 have hl2 : n2 ≤ 140737488355000 := by rw [hpg.e2]; unfold Opc.n2; have h6 := HZ.out.1; have h5 := hok.s; split <;> omega
 clear hpg hx3 HS1 HS1d HBc HX3 HBW HUW hU1
 obtain ⟨V1, hV1⟩ : ∃ x, wc.drew = x := ⟨_, rfl⟩
 have HV1 := J (show Below wc.heap.size wc V1 by rw [← hV1]; exact drew_below wc)
 have HVW : Hid (w.heap.size ≤ V1.heap.size) := Nat.le_trans HPG.out.bel.size HV1.out.size
 have HR1 := J (HPG.out.rd1.below HV1.out)
 have HR2 := J (HPG.out.rd2.below HV1.out)
 have HS2 : Hid (∀ u, Below V1.heap.size V1 u → u.cell? ⟨q5, 0, none⟩ = some (.slice a1 n1 c1) ∧ u.cell? ⟨q5, 1, none⟩ = some (.slice a2 n2 c2)) := fun u hu => cells2 (((below_trans HV1.out hu).block _ (lt_of_block HPG.out.box)).trans HPG.out.box)
 have HS2d : Hid ((fun u => u.cell? ⟨q5, 0, none⟩ = some (.slice a1 n1 c1) ∧ u.cell? ⟨q5, 1, none⟩ = some (.slice a2 n2 c2)) wc.drew) := by rw [hV1]; exact HS2.out V1 (Below.refl _ _)
 have HBc := J (Below.refl V1.heap.size V1)
 have HPV := J (HPG.out.below HV1.out)
 have HX3v := J ((HV1.out.block _ (lt_of_block HX3c.out)).trans HX3c.out)
 go_upto_region 2 with fail
 go_cut [6] from 6 to 27 (fun s6 wx => ∃ q6 g1 k1 g2 k2, s6 = .pointer (some ⟨q6, 0, none⟩) ∧ CpW w wx q6 n1 n2 D Z g1 k1 g2 k2 ∧ Below V1.heap.size V1 wx)
 case first =>
  refine wp_region_held_drew (S := (fun u => u.cell? ⟨q5, 0, none⟩ = some (.slice a1 n1 c1) ∧ u.cell? ⟨q5, 1, none⟩ = some (.slice a2 n2 c2))) (by kernel_rfl) (HS2d.out) fun O => ?_
  rw [hV1] at O ⊢
  refine tk 0 ?_
  refine tk 1 ?_
  refine tk 3 ?_
  refine tk 4 ?_
  refine wpAnyH_ready (rs := [2, 7]) (by kernel_rfl) (by simp) ?_
  refine AllReadyH.cons (o := { dst := some 23, op := Op.call { callee := Callee.value (Operand.func 38), args := #[Operand.tmp 22], argTypes := #[24] }, type := 24, pos := "law.go:139", after := #[{ on := 1, ground := Ground.data }], guard := none }) rfl (fun K N => ?_) (AllReadyH.cons (o := { dst := some 6, op := Op.alloc 36, type := 0, pos := "law.go:139", after := #[], guard := none }) rfl (fun K N => ?_) AllReadyH.nil)
  ·go_simp
   go_at_call 38
   refine (marked_any a1 n1 c1 D _ (HR1.out.below HBc.out) (by omega)).mono ?_
   rintro e u6 ⟨g1, k1, rfl, oo, bb⟩
   have HO1 : Hid (Own u6 w.heap.size g1 (n1 + 3) k1 (D ++ [161, 178, 195])) := own_mono oo (Nat.le_trans HVW.out HBc.out.size)
   have HBcn := J (below_trans HBc.out bb)
   clear HBc
   have HBc := HBcn
   clear HBcn
   have hZ := HS2.out u6 HBc.out
   clear oo bb
   go_wp2_with fail
   clear O
   refine N.out _ _ hZ fun O => ?_
   clear N K hZ
   try simp only [zz]
   refine wpAnyH_ready (rs := [5, 7]) (by kernel_rfl) (by simp) ?_
   refine AllReadyH.cons (o := { dst := some 26, op := Op.call { callee := Callee.value (Operand.func 38), args := #[Operand.tmp 25], argTypes := #[24] }, type := 24, pos := "law.go:139", after := #[{ on := 4, ground := Ground.data }, { on := 2, ground := Ground.chain }], guard := none }) rfl (fun K N => ?_) (AllReadyH.cons (o := { dst := some 6, op := Op.alloc 36, type := 0, pos := "law.go:139", after := #[], guard := none }) rfl (fun K N => ?_) AllReadyH.nil)
   ·go_simp
    go_at_call 38
    refine (marked_any a2 n2 c2 Z _ (HR2.out.below HBc.out) (by omega)).mono ?_
    rintro e u7 ⟨g2, k2, rfl, oo, bb⟩
    have HNE : Hid (g1 ≠ g2) := fun e9 => by have h1 := HO1.out.lt.2; have h2 := oo.lt.1; omega
    have HO2 : Hid (Own u7 w.heap.size g2 (n2 + 3) k2 (Z ++ [161, 178, 195])) := own_mono oo (Nat.le_trans HVW.out HBc.out.size)
    have HBcn := J (below_trans HBc.out bb)
    clear HBc
    have HBc := HBcn
    clear HBcn
    have HO1n : Hid (Own u7 w.heap.size g1 (n1 + 3) k1 (D ++ [161, 178, 195])) := owns_bel HO1.out bb
    clear HO1
    have HO1 := HO1n
    clear HO1n
    have hZ := HS2.out u7 HBc.out
    clear oo bb
    go_wp2_with fail
    clear O
    refine N.out _ _ hZ fun O => ?_
    clear N K hZ
    try simp only [zz]
    refine tk 6 ?_
    have HBp := HBc
    have HO1p := HO1
    have HO2p := HO2
    refine rd 7 fun K N => ?_
    go_simp
    go_wp2_with fail
    have hZ := HS2.out (u7.alloc (.cells #[.slice none 0 0, .slice none 0 0] 36)) (below_trans HBp.out (below_alloc u7 (.cells #[.slice none 0 0, .slice none 0 0] 36)))
    clear O
    refine N.out _ _ hZ fun O => ?_
    clear N K hZ
    try simp only [zz]
    refine rd 8 fun K N => ?_
    go_simp
    go_wp2_with fail
    have hb8 := below_alloc u7 (.cells #[.slice (some ⟨g1, 0, none⟩) n1 k1, .slice (some ⟨g2, 0, none⟩) n2 k2] 36)
    have HBV := J (below_trans HBp.out hb8)
    have hZ := HS2.out _ HBV.out
    clear O
    refine N.out _ _ hZ fun O => ?_
    clear N K hZ
    try simp only [zz]
    refine td ?_
    clear O
    go_wp2
    go_meet
    exact ⟨u7.heap.size, g1, k1, g2, k2, rfl, ⟨alloc_new u7 _, Nat.le_trans HVW.out HBp.out.size, owns_bel HO1p.out hb8, owns_bel HO2p.out hb8, HNE.out⟩, HBV.out⟩
   ·have HB6 := J HBc.out.size
    go_simp
    go_wp2_with fail
    have HX6 := J (alloc_new u6 (.cells #[.slice none 0 0, .slice none 0 0] 36))
    have HBcn := J (below_trans HBc.out (below_alloc u6 (.cells #[.slice none 0 0, .slice none 0 0] 36)))
    clear HBc
    have HBc := HBcn
    clear HBcn
    have HO1n : Hid (Own (u6.alloc (.cells #[.slice none 0 0, .slice none 0 0] 36)) w.heap.size g1 (n1 + 3) k1 (D ++ [161, 178, 195])) := owns_bel HO1.out (below_alloc u6 (.cells #[.slice none 0 0, .slice none 0 0] 36))
    clear HO1
    have HO1 := HO1n
    clear HO1n
    have hZ := HS2.out (u6.alloc (.cells #[.slice none 0 0, .slice none 0 0] 36)) HBc.out
    clear O
    refine N.out _ _ hZ fun O => ?_
    clear N K hZ
    try simp only [zz]
    refine rd 5 fun K N => ?_
    go_simp
    go_at_call 38
    refine (marked_any a2 n2 c2 Z _ (HR2.out.below HBc.out) (by omega)).mono ?_
    rintro e u7 ⟨g2, k2, rfl, oo, bb⟩
    have HNE : Hid (g1 ≠ g2) := fun e9 => by have h1 := HO1.out.lt.2; have h2 := oo.lt.1; omega
    have HO2 : Hid (Own u7 w.heap.size g2 (n2 + 3) k2 (Z ++ [161, 178, 195])) := own_mono oo (Nat.le_trans HVW.out HBc.out.size)
    have HBcn := J (below_trans HBc.out bb)
    clear HBc
    have HBc := HBcn
    clear HBcn
    have HX6n := J ((bb.block _ (lt_of_block HX6.out)).trans HX6.out)
    clear HX6
    have HX6 := HX6n
    clear HX6n
    have HO1n : Hid (Own u7 w.heap.size g1 (n1 + 3) k1 (D ++ [161, 178, 195])) := owns_bel HO1.out bb
    clear HO1
    have HO1 := HO1n
    clear HO1n
    have hZ := HS2.out u7 HBc.out
    clear oo bb
    go_wp2_with fail
    clear O
    refine N.out _ _ hZ fun O => ?_
    clear N K hZ
    try simp only [zz]
    refine tk 6 ?_
    have hx6 := HX6.out
    obtain ⟨t0, t1⟩ := cells2 hx6
    have fz := fun j => frozen_of_row u7 u6.heap.size j _ 36 hx6
    have HX7 := J hx6
    clear hx6
    refine rd 8 fun K N => ?_
    go_simp
    go_wp2_with fail
    have hs2 := heap_setCell_same _ u6.heap.size 1 #[.slice (some ⟨g1, 0, none⟩) n1 k1, .slice none 0 0] 36 (.slice (some ⟨g2, 0, none⟩) n2 k2) (heap_setCell_same u7 u6.heap.size 0 _ 36 (.slice (some ⟨g1, 0, none⟩) n1 k1) HX7.out)
    have hO : Only (· = u6.heap.size) u7 _ := (Only.setCell (· = u6.heap.size) u7 u6.heap.size 0 (.slice (some ⟨g1, 0, none⟩) n1 k1) rfl).trans' (Only.setCell _ _ u6.heap.size 1 (.slice (some ⟨g2, 0, none⟩) n2 k2) rfl)
    generalize hv9 : World.setCell _ ⟨u6.heap.size, 1, none⟩ _ = v9 at hs2 hO ⊢
    have HS9 := J hs2
    have HO9 := J hO
    have HQ6 : Hid (V1.heap.size ≤ u6.heap.size) := HB6.out
    have HBV : Hid (Below V1.heap.size V1 v9) := HBc.out.trans (hO.below (fun j e => by rw [e]; exact HQ6.out) HBc.out.size)
    have hZ := HS2.out v9 HBV.out
    clear hs2 hO hv9 t0 t1 fz
    clear O
    refine N.out _ _ hZ fun O => ?_
    clear N K hZ
    try simp only [zz]
    refine td ?_
    clear O
    go_wp2
    go_meet
    have ho9 : ∀ {g n k : Nat} {X : List Int}, Own u7 w.heap.size g n k X → Own v9 w.heap.size g n k X := fun ho => owns_keep ho (fun y hy => by cases hy; obtain ⟨cs, hcs⟩ := own_tag ho rfl; exact HO9.out.block _ (lt_of_block hcs) (fun e9 => by rw [e9, HX7.out] at hcs; cases hcs))
    exact ⟨u6.heap.size, g1, k1, g2, k2, rfl, ⟨HS9.out, Nat.le_trans HVW.out HQ6.out, ho9 HO1.out, ho9 HO2.out, HNE.out⟩, HBV.out⟩
  ·go_simp
   go_wp2_with fail
   have HX6 := J (alloc_new V1 (.cells #[.slice none 0 0, .slice none 0 0] 36))
   have HBcn := J (below_trans HBc.out (below_alloc V1 (.cells #[.slice none 0 0, .slice none 0 0] 36)))
   clear HBc
   have HBc := HBcn
   clear HBcn
   have hZ := HS2.out (V1.alloc (.cells #[.slice none 0 0, .slice none 0 0] 36)) HBc.out
   have HB6 := J (Nat.le_refl V1.heap.size)
   clear O
   refine N.out _ _ hZ fun O => ?_
   clear N K hZ
   try simp only [zz]
   refine rd 2 fun K N => ?_
   go_simp
   go_at_call 38
   refine (marked_any a1 n1 c1 D _ (HR1.out.below HBc.out) (by omega)).mono ?_
   rintro e u6 ⟨g1, k1, rfl, oo, bb⟩
   have HO1 : Hid (Own u6 w.heap.size g1 (n1 + 3) k1 (D ++ [161, 178, 195])) := own_mono oo (Nat.le_trans HVW.out HBc.out.size)
   have HBcn := J (below_trans HBc.out bb)
   clear HBc
   have HBc := HBcn
   clear HBcn
   have HX6n := J ((bb.block _ (lt_of_block HX6.out)).trans HX6.out)
   clear HX6
   have HX6 := HX6n
   clear HX6n
   have hZ := HS2.out u6 HBc.out
   clear oo bb
   go_wp2_with fail
   clear O
   refine N.out _ _ hZ fun O => ?_
   clear N K hZ
   try simp only [zz]
   refine rd 5 fun K N => ?_
   go_simp
   go_at_call 38
   refine (marked_any a2 n2 c2 Z _ (HR2.out.below HBc.out) (by omega)).mono ?_
   rintro e u7 ⟨g2, k2, rfl, oo, bb⟩
   have HNE : Hid (g1 ≠ g2) := fun e9 => by have h1 := HO1.out.lt.2; have h2 := oo.lt.1; omega
   have HO2 : Hid (Own u7 w.heap.size g2 (n2 + 3) k2 (Z ++ [161, 178, 195])) := own_mono oo (Nat.le_trans HVW.out HBc.out.size)
   have HBcn := J (below_trans HBc.out bb)
   clear HBc
   have HBc := HBcn
   clear HBcn
   have HX6n := J ((bb.block _ (lt_of_block HX6.out)).trans HX6.out)
   clear HX6
   have HX6 := HX6n
   clear HX6n
   have HO1n : Hid (Own u7 w.heap.size g1 (n1 + 3) k1 (D ++ [161, 178, 195])) := owns_bel HO1.out bb
   clear HO1
   have HO1 := HO1n
   clear HO1n
   have hZ := HS2.out u7 HBc.out
   clear oo bb
   go_wp2_with fail
   clear O
   refine N.out _ _ hZ fun O => ?_
   clear N K hZ
   try simp only [zz]
   refine tk 6 ?_
   have hx6 := HX6.out
   obtain ⟨t0, t1⟩ := cells2 hx6
   have fz := fun j => frozen_of_row u7 V1.heap.size j _ 36 hx6
   have HX7 := J hx6
   clear hx6
   refine rd 8 fun K N => ?_
   go_simp
   go_wp2_with fail
   have hs2 := heap_setCell_same _ V1.heap.size 1 #[.slice (some ⟨g1, 0, none⟩) n1 k1, .slice none 0 0] 36 (.slice (some ⟨g2, 0, none⟩) n2 k2) (heap_setCell_same u7 V1.heap.size 0 _ 36 (.slice (some ⟨g1, 0, none⟩) n1 k1) HX7.out)
   have hO : Only (· = V1.heap.size) u7 _ := (Only.setCell (· = V1.heap.size) u7 V1.heap.size 0 (.slice (some ⟨g1, 0, none⟩) n1 k1) rfl).trans' (Only.setCell _ _ V1.heap.size 1 (.slice (some ⟨g2, 0, none⟩) n2 k2) rfl)
   generalize hv9 : World.setCell _ ⟨V1.heap.size, 1, none⟩ _ = v9 at hs2 hO ⊢
   have HS9 := J hs2
   have HO9 := J hO
   have HQ6 : Hid (V1.heap.size ≤ V1.heap.size) := HB6.out
   have HBV : Hid (Below V1.heap.size V1 v9) := HBc.out.trans (hO.below (fun j e => by rw [e]; exact HQ6.out) HBc.out.size)
   have hZ := HS2.out v9 HBV.out
   clear hs2 hO hv9 t0 t1 fz
   clear O
   refine N.out _ _ hZ fun O => ?_
   clear N K hZ
   try simp only [zz]
   refine td ?_
   clear O
   go_wp2
   go_meet
   have ho9 : ∀ {g n k : Nat} {X : List Int}, Own u7 w.heap.size g n k X → Own v9 w.heap.size g n k X := fun ho => owns_keep ho (fun y hy => by cases hy; obtain ⟨cs, hcs⟩ := own_tag ho rfl; exact HO9.out.block _ (lt_of_block hcs) (fun e9 => by rw [e9, HX7.out] at hcs; cases hcs))
   exact ⟨V1.heap.size, g1, k1, g2, k2, rfl, ⟨HS9.out, Nat.le_trans HVW.out HQ6.out, ho9 HO1.out, ho9 HO2.out, HNE.out⟩, HBV.out⟩
 case rest =>
 obtain ⟨q6, g1, k1, g2, k2, rfl, hcp, hbv⟩ := hcut
 clear HPG HX3c HV1 HR1 HR2 HS2 HS2d HBc HVW hV1
 rename_i wc0
 have HPG := J (HPV.out.below hbv)
 have HX3c := J ((hbv.block _ (lt_of_block HX3v.out)).trans HX3v.out)
 have HCP := J hcp
 clear HPV HX3v hcp hbv
 have HLT : Hid (∀ k, F k → k < w.heap.size) := fun k hk => (HFP.out.2.2.2 k hk).2
 have HFpF : Hid (∀ k, Fp k → F k ∧ k < w.heap.size) := fun k hk => ⟨(HFP.out.1 k hk).1, HLT.out k (HFP.out.1 k hk).1⟩
 have HFdF : Hid (∀ k, Fd k → F k ∧ k < w.heap.size) := fun k hk => ⟨(HFP.out.2.1 k hk).1, HLT.out k (HFP.out.2.1 k hk).1⟩
 obtain ⟨W3, hW3⟩ : ∃ x, wc.drew = x := ⟨_, rfl⟩
 have HW3 := J (show Below wc.heap.size wc W3 by rw [← hW3]; exact drew_below wc)
 have HPG3 := J (HPG.out.below HW3.out)
 have HCP3 := J (HCP.out.only (Only.ofB (F := fun _ => False) HW3.out) (fun k h => h.elim))
 have HX33 := J ((HW3.out.block _ (lt_of_block HX3c.out)).trans HX3c.out)
 have HBX3 := J ((HPG3.out.bel.block _ (lt_of_block HBX.out)).trans HBX.out)
 have hQ3 : w.heap.size ≤ q3 := Nat.le_of_eq HQ3.out
 have HS3 : Hid ((fun u => u.cell? ⟨b, 0, none⟩ = some (.pointer (some ⟨p, 0, none⟩)) ∧ (u.cell? ⟨q3, 1, none⟩ = some (.int .i64 o.b) ∧ u.cell? ⟨q3, 2, none⟩ = some (.int .i64 o.p)) ∧ u.cell? ⟨q6, 0, none⟩ = some (.slice (some ⟨g1, 0, none⟩) n1 k1) ∧ u.cell? ⟨q6, 1, none⟩ = some (.slice (some ⟨g2, 0, none⟩) n2 k2)) W3) := ⟨(cells2 HBX3.out).1, ⟨(cells7 HX33.out).2.1, (cells7 HX33.out).2.2.1⟩, cells2 HCP3.out.box⟩
 have HS3d : Hid ((fun u => u.cell? ⟨b, 0, none⟩ = some (.pointer (some ⟨p, 0, none⟩)) ∧ (u.cell? ⟨q3, 1, none⟩ = some (.int .i64 o.b) ∧ u.cell? ⟨q3, 2, none⟩ = some (.int .i64 o.p)) ∧ u.cell? ⟨q6, 0, none⟩ = some (.slice (some ⟨g1, 0, none⟩) n1 k1) ∧ u.cell? ⟨q6, 1, none⟩ = some (.slice (some ⟨g2, 0, none⟩) n2 k2)) wc.drew) := by rw [hW3]; exact HS3.out
 go_upto_region 3 with fail
 refine wp_region_held_drew (S := (fun u => u.cell? ⟨b, 0, none⟩ = some (.pointer (some ⟨p, 0, none⟩)) ∧ (u.cell? ⟨q3, 1, none⟩ = some (.int .i64 o.b) ∧ u.cell? ⟨q3, 2, none⟩ = some (.int .i64 o.p)) ∧ u.cell? ⟨q6, 0, none⟩ = some (.slice (some ⟨g1, 0, none⟩) n1 k1) ∧ u.cell? ⟨q6, 1, none⟩ = some (.slice (some ⟨g2, 0, none⟩) n2 k2))) (by kernel_rfl) (HS3d.out) fun O => ?_
 rw [hW3] at O ⊢
 refine tk 0 ?_
 refine tk 1 ?_
 refine tk 2 ?_
 refine tk 3 ?_
 refine tk 4 ?_
 refine tk 5 ?_
 refine tk 6 ?_
 refine rd 7 fun K N => ?_
 go_simp
 go_at_call 53
 refine (Program_any0 W3 p Fp C (HCH.out.below HPG3.out.bel) hok o.b o.p (some ⟨g1, 0, none⟩) (some ⟨g2, 0, none⟩) n1 k1 n2 k2 hl1 hl2 htr D Z (marks_front HCP3.out.o1 HPG3.out.rd1.1 HPG3.out.rd1.2.1) (marks_front HCP3.out.o2 HPG3.out.rd2.1 HPG3.out.rd2.2.1) (fun y hy _ hf => by cases hy; have h1 := (HFpF.out _ hf).2; have h2 := HCP3.out.o1.lt.1; exact absurd h1 (Nat.not_lt.2 h2)) (fun y hy _ hf => by cases hy; have h1 := (HFpF.out _ hf).2; have h2 := HCP3.out.o2.lt.1; exact absurd h1 (Nat.not_lt.2 h2))).mono ?_
 rintro e u3 ⟨rfl, hc3, ho3⟩
 have HC3 := J hc3
 have HO3 := J ho3
 have hZ : (fun u => u.cell? ⟨b, 0, none⟩ = some (.pointer (some ⟨p, 0, none⟩)) ∧ (u.cell? ⟨q3, 1, none⟩ = some (.int .i64 o.b) ∧ u.cell? ⟨q3, 2, none⟩ = some (.int .i64 o.p)) ∧ u.cell? ⟨q6, 0, none⟩ = some (.slice (some ⟨g1, 0, none⟩) n1 k1) ∧ u.cell? ⟨q6, 1, none⟩ = some (.slice (some ⟨g2, 0, none⟩) n2 k2)) u3 := ⟨ho3.cell HS3.out.1 (fun e => (HFP.out.1 _ e).2.2 rfl), ⟨ho3.cell HS3.out.2.1.1 (fun e => by have := (HFpF.out _ e).2; omega), ho3.cell HS3.out.2.1.2 (fun e => by have := (HFpF.out _ e).2; omega)⟩, ho3.cell HS3.out.2.2.1 (fun e => by have := (HFpF.out _ e).2; have := HCP3.out.q; omega), ho3.cell HS3.out.2.2.2 (fun e => by have := (HFpF.out _ e).2; have := HCP3.out.q; omega)⟩
 clear hc3 ho3
 go_wp2_with fail
 clear O
 refine N.out _ _ hZ fun O => ?_
 clear N K hZ
 try simp only [zz]
 refine tk 8 ?_
 refine td ?_
 clear O HS3 HS3d HX3c HPG HCP HBX3
 go_upto_region 4 with fail
 obtain ⟨W4, hW4⟩ : ∃ x, u3.drew = x := ⟨_, rfl⟩
 have HW4 := J (show Below u3.heap.size u3 W4 by rw [← hW4]; exact drew_below u3)
 have HO34 := J (HO3.out.trans' (Only.ofB HW4.out))
 have HX34 := J ((HO34.out.block _ (lt_of_block HX33.out) (fun e => by have := (HFpF.out _ e).2; omega)).trans HX33.out)
 have HP34 := J ((HO34.out.block _ (lt_of_block HPG3.out.box) (fun e => by have := (HFpF.out _ e).2; have := HPG3.out.q; omega)).trans HPG3.out.box)
 have HBX4 : Hid (W4.heap[b]? = some (.cells #[.pointer (some ⟨p, 0, none⟩), .pointer (some ⟨d, 0, none⟩)] 88 (0, 0))) := by
  have h1 := (HPG3.out.bel.block _ (lt_of_block HBX.out)).trans HBX.out
  exact (HO34.out.block _ (lt_of_block h1) (fun e => (HFP.out.1 _ e).2.2 rfl)).trans h1
 have HS4 : Hid ((fun u => u.cell? ⟨b, 1, none⟩ = some (.pointer (some ⟨d, 0, none⟩)) ∧ (u.cell? ⟨q3, 1, none⟩ = some (.int .i64 o.b) ∧ u.cell? ⟨q3, 2, none⟩ = some (.int .i64 o.p)) ∧ u.cell? ⟨q5, 0, none⟩ = some (.slice a1 n1 c1) ∧ u.cell? ⟨q5, 1, none⟩ = some (.slice a2 n2 c2)) W4) := ⟨(cells2 HBX4.out).2, ⟨(cells7 HX34.out).2.1, (cells7 HX34.out).2.2.1⟩, cells2 HP34.out⟩
 have HS4d : Hid ((fun u => u.cell? ⟨b, 1, none⟩ = some (.pointer (some ⟨d, 0, none⟩)) ∧ (u.cell? ⟨q3, 1, none⟩ = some (.int .i64 o.b) ∧ u.cell? ⟨q3, 2, none⟩ = some (.int .i64 o.p)) ∧ u.cell? ⟨q5, 0, none⟩ = some (.slice a1 n1 c1) ∧ u.cell? ⟨q5, 1, none⟩ = some (.slice a2 n2 c2)) u3.drew) := by rw [hW4]; exact HS4.out
 have HR14 := J (reads_prov HPG3.out.rd1 HO34.out HFpF.out HPG3.out.w1 HDF.out.1)
 have HR24 := J (reads_prov HPG3.out.rd2 HO34.out HFpF.out HPG3.out.w2 HDF.out.2)
 have HCP4 := J (HCP3.out.only HO34.out (fun k hk => Or.inl (HFpF.out k hk).2))
 have HRF4 := J ((HRF.out.below HPG3.out.bel).only HO34.out (fun k hk e => (HFP.out.1 k e).2.1 hk) (fun k hk => (HFP.out.2.2.2 k (HFpF.out k hk).1).1))
 refine wp_region_held_drew (S := (fun u => u.cell? ⟨b, 1, none⟩ = some (.pointer (some ⟨d, 0, none⟩)) ∧ (u.cell? ⟨q3, 1, none⟩ = some (.int .i64 o.b) ∧ u.cell? ⟨q3, 2, none⟩ = some (.int .i64 o.p)) ∧ u.cell? ⟨q5, 0, none⟩ = some (.slice a1 n1 c1) ∧ u.cell? ⟨q5, 1, none⟩ = some (.slice a2 n2 c2))) (by kernel_rfl) (HS4d.out) fun O => ?_
 rw [hW4] at O ⊢
 refine tk 0 ?_
 refine tk 1 ?_
 refine tk 2 ?_
 refine tk 3 ?_
 refine tk 4 ?_
 refine tk 5 ?_
 refine tk 6 ?_
 refine rd 7 fun K N => ?_
 go_simp
 go_at_call 96
 refine (rProgram_any0 w0 W4 d Fd C fs HRF4.out hok o.b o.p a1 a2 n1 c1 n2 c2 hfb hl1 hl2 htr D Z HR14.out HR24.out (fun y hy h0 hf => (HPG3.out.w1 y hy).elim (fun h9 => HDF.out.1 y h9.1 (by have := h9.2; omega) (HFdF.out _ hf).1) (fun h9 => absurd (HFdF.out _ hf).2 (Nat.not_lt.2 h9))) (fun y hy h0 hf => (HPG3.out.w2 y hy).elim (fun h9 => HDF.out.2 y h9.1 (by have := h9.2; omega) (HFdF.out _ hf).1) (fun h9 => absurd (HFdF.out _ hf).2 (Nat.not_lt.2 h9)))).mono ?_
 rintro e u4 ⟨rfl, hc4, ho4⟩
 have HC4 := J hc4
 have HO4 := J ho4
 have hZ : (fun u => u.cell? ⟨b, 1, none⟩ = some (.pointer (some ⟨d, 0, none⟩)) ∧ (u.cell? ⟨q3, 1, none⟩ = some (.int .i64 o.b) ∧ u.cell? ⟨q3, 2, none⟩ = some (.int .i64 o.p)) ∧ u.cell? ⟨q5, 0, none⟩ = some (.slice a1 n1 c1) ∧ u.cell? ⟨q5, 1, none⟩ = some (.slice a2 n2 c2)) u4 := ⟨ho4.cell HS4.out.1 (fun e => (HFP.out.2.1 _ e).2 rfl), ⟨ho4.cell HS4.out.2.1.1 (fun e => by have := (HFdF.out _ e).2; omega), ho4.cell HS4.out.2.1.2 (fun e => by have := (HFdF.out _ e).2; omega)⟩, ho4.cell HS4.out.2.2.1 (fun e => by have := (HFdF.out _ e).2; have := HPG3.out.q; omega), ho4.cell HS4.out.2.2.2 (fun e => by have := (HFdF.out _ e).2; have := HPG3.out.q; omega)⟩
 clear hc4 ho4
 go_wp2_with fail
 clear O
 refine N.out _ _ hZ fun O => ?_
 clear N K hZ
 try simp only [zz]
 refine tk 8 ?_
 refine td ?_
 clear O HS4 HS4d HX34 HRF4
 have HCP5 := J (HCP4.out.only HO4.out (fun k hk => Or.inl (HFdF.out k hk).2))
 have HR15 := J (reads_prov HR14.out HO4.out HFdF.out HPG3.out.w1 HDF.out.1)
 have HR25 := J (reads_prov HR24.out HO4.out HFdF.out HPG3.out.w2 HDF.out.2)
 have HP45 := J ((HO4.out.block _ (lt_of_block HP34.out) (fun e => by have := (HFdF.out _ e).2; have := HPG3.out.q; omega)).trans HP34.out)
 obtain ⟨x0, x1⟩ := cells2 HCP5.out.box
 obtain ⟨y0, y1⟩ := cells2 HP45.out
 go_upto_region 6 with (first
  | (go_at_call 11; refine (no_any' _ _).mono ?_; rintro e u9 ⟨rfl, hu9⟩; subst u9)
  | (go_at_call 41; refine (kept_any w.heap.size g2 n2 k2 n2 c2 a2 Z _ hl2 (HR25.out.below HBK.out) (owns_bel HCP5.out.o2 HBK.out)).mono ?_; rintro e u6b ⟨rfl, m6, hm6⟩; subst u6b)
  | (go_at_call 41; refine (kept_any w.heap.size g1 n1 k1 n1 c1 a1 D _ hl1 HR15.out HCP5.out.o1).mono ?_; rintro e u5b ⟨rfl, m5, hm5⟩; subst u5b; have HBK := J (drewN_below u4 m5); obtain ⟨xx0, xx1⟩ := cells2 ((HBK.out.block _ (lt_of_block HCP5.out.box)).trans HCP5.out.box); obtain ⟨yy0, yy1⟩ := cells2 ((HBK.out.block _ (lt_of_block HP45.out)).trans HP45.out)))
 have HB5 := J (drewN_below u4 (m5 + m6))
 generalize hU5 : u4.drewN (m5 + m6) = U5 at HB5 ⊢
 have HCP6 := J (HCP5.out.only (Only.ofB (F := fun _ => False) HB5.out) (fun k h => h.elim))
 have HTN : Hid (TnW w U5 U5 q6 n1 n2 g1 k1 g2 k2) := ⟨Only.refl _ _, HCP6.out.box, ⟨_, HCP6.out.o1⟩, ⟨_, HCP6.out.o2⟩, HCP6.out.ne⟩
 clear x0 x1 y0 y1 xx0 xx1 yy0 yy1 HBK hU5 HR15 HR25 HP45 HP34
 go_wp2
 go_loopw [10] (fun s10 wr => ∃ k : Nat, k ≤ n1 ∧ s10 = .int .i64 k ∧ Hid (TnW w U5 wr q6 n1 n2 g1 k1 g2 k2)) (fun s10 _ => n1 - (intOf s10).toNat)
 case atStart => exact ⟨0, Nat.zero_le _, rfl, HTN⟩
 case round =>
  clear HTN
  obtain ⟨k, hk, rfl, HTr⟩ := hrel
  obtain ⟨x0, x1⟩ := cells2 HTr.out.box
  by_cases hlt : k < n1
  ·have f0 : decide ((k : Int) < (n1 : Int)) = true := decide_eq_true (by omega)
   have f1 : (k : Int) < (n1 : Int) := by omega
   go_upto_region 9 with fail
   obtain ⟨zs, hzs⟩ := HTr.out.o1
   have hzk : wr.drew.cell? ⟨g1, k, none⟩ = some (.int .u8 (zs.getD k 0)) := hzs.cell k (by omega)
   have hq0 : wr.drew.cell? ⟨q6, 0, none⟩ = some (.slice (some ⟨g1, 0, none⟩) n1 k1) := x0
   have hfz : wr.drew.frozen? ⟨g1, k, none⟩ = false := by obtain ⟨cs, hcs⟩ := own_tag hzs rfl; exact frozen_of_row wr.drew g1 k _ 5 hcs
   obtain ⟨z, hz⟩ : ∃ z, z = zs.getD k 0 := ⟨_, rfl⟩
   rw [← hz] at hzk
   clear x0 x1 hzs hz
   refine wp_region_held_drew (S := (fun u => u.cell? ⟨q6, 0, none⟩ = some (.slice (some ⟨g1, 0, none⟩) n1 k1))) (by kernel_rfl) (hq0) fun O => ?_
   refine tk 0 ?_
   refine tk 1 ?_
   refine tk 2 ?_
   refine tk 3 ?_
   refine tk 4 ?_
   refine tk 5 ?_
   refine tk 6 ?_
   refine rd 7 fun K N => ?_
   go_simp
   go_wp2_with fail
   refine N.out _ _ O (fun hHeld7 => ?_)
   clear N K
   clear hHeld7
   try simp only [zz]
   refine tk 8 ?_
   refine tk 9 ?_
   refine rd 10 fun K N => ?_
   go_simp
   go_wp2_with fail
   have HTN := J ((HTr.out.below (drew_below wr)).turn1 k (bits .xor .u8 z 90))
   have hZ : (fun u => u.cell? ⟨q6, 0, none⟩ = some (.slice (some ⟨g1, 0, none⟩) n1 k1)) (wr.drew.setCell ⟨g1, k, none⟩ (.int .u8 (bits .xor .u8 z 90))) := (cells2 HTN.out.box).1
   refine N.out _ _ hZ (fun hHeld16 => ?_)
   clear N K hZ O hHeld16 hq0 hzk hfz
   try simp only [zz]
   refine td ?_
   go_wp2
   go_roundw
   case rel => exact ⟨k + 1, by omega, by go_num, HTN⟩
   case measure => simp [intOf]; omega
  ·have f0 : decide ((k : Int) < (n1 : Int)) = false := decide_eq_false (by omega)
   go_upto_region 10 with fail
   clear x0 x1
   go_wp2
   go_loopw [11] (fun s11 wr => ∃ k : Nat, k ≤ n2 ∧ s11 = .int .i64 k ∧ Hid (TnW w U5 wr q6 n1 n2 g1 k1 g2 k2)) (fun s11 _ => n2 - (intOf s11).toNat)
   case atStart => exact ⟨0, Nat.zero_le _, rfl, HTr⟩
   case round =>
    clear HTr
    obtain ⟨k, hk, rfl, HTr⟩ := hrel
    obtain ⟨x0, x1⟩ := cells2 HTr.out.box
    by_cases hlt : k < n2
    ·have f0 : decide ((k : Int) < (n2 : Int)) = true := decide_eq_true (by omega)
     have f1 : (k : Int) < (n2 : Int) := by omega
     go_upto_region 13 with fail
     obtain ⟨zs, hzs⟩ := HTr.out.o2
     have hzk : wr.drew.cell? ⟨g2, k, none⟩ = some (.int .u8 (zs.getD k 0)) := hzs.cell k (by omega)
     have hq0 : wr.drew.cell? ⟨q6, 1, none⟩ = some (.slice (some ⟨g2, 0, none⟩) n2 k2) := x1
     have hfz : wr.drew.frozen? ⟨g2, k, none⟩ = false := by obtain ⟨cs, hcs⟩ := own_tag hzs rfl; exact frozen_of_row wr.drew g2 k _ 5 hcs
     obtain ⟨z, hz⟩ : ∃ z, z = zs.getD k 0 := ⟨_, rfl⟩
     rw [← hz] at hzk
     clear x0 x1 hzs hz
     refine wp_region_held_drew (S := (fun u => u.cell? ⟨q6, 1, none⟩ = some (.slice (some ⟨g2, 0, none⟩) n2 k2))) (by kernel_rfl) (hq0) fun O => ?_
     refine tk 0 ?_
     refine tk 1 ?_
     refine tk 2 ?_
     refine tk 3 ?_
     refine tk 4 ?_
     refine tk 5 ?_
     refine tk 6 ?_
     refine rd 7 fun K N => ?_
     go_simp
     go_wp2_with fail
     refine N.out _ _ O (fun hHeld7 => ?_)
     clear N K
     clear hHeld7
     try simp only [zz]
     refine tk 8 ?_
     refine tk 9 ?_
     refine rd 10 fun K N => ?_
     go_simp
     go_wp2_with fail
     have HTN := J ((HTr.out.below (drew_below wr)).turn2 k (bits .xor .u8 z 90))
     have hZ : (fun u => u.cell? ⟨q6, 1, none⟩ = some (.slice (some ⟨g2, 0, none⟩) n2 k2)) (wr.drew.setCell ⟨g2, k, none⟩ (.int .u8 (bits .xor .u8 z 90))) := (cells2 HTN.out.box).2
     refine N.out _ _ hZ (fun hHeld16 => ?_)
     clear N K hZ O hHeld16 hq0 hzk hfz
     try simp only [zz]
     refine td ?_
     go_wp2
     go_roundw
     case rel => exact ⟨k + 1, by omega, by go_num, HTN⟩
     case measure => simp [intOf]; omega
    ·have f0 : decide ((k : Int) < (n2 : Int)) = false := decide_eq_false (by omega)
     go_wp2
     go_ret
     have hR : ProgramC C o.b o.p (o.n1 C.S) (o.n2 C.S) (o.want C.S) = ProgramC C o.b o.p n1 n2 (D ++ Z) := by rw [← HPG3.out.e1, ← HPG3.out.e2, ← HPG3.out.want]
     rw [hR]
     have l1 := HCP3.out.o1.lt
     have l2 := HCP3.out.o2.lt
     have sW := HPG3.out.bel.size
     have s3 := HO3.out.size
     have s34 : u3.heap.size ≤ W4.heap.size := HW4.out.size
     have s4 := HO4.out.size
     have s5 := HB5.out.size
     have sr := HTr.out.only.size
     have hch : ChipAt wr p (Fx Fp W3 u3) (ProgramC C o.b o.p n1 n2 (D ++ Z)).2 := by
      have h1 := ((HC3.out.below HW4.out).only HO4.out (fun k hk e => by
       have hkd := HFdF.out k e
       rcases hk with h9 | h9
       ·exact (HFP.out.1 k h9).2.1 e
       ·have h8 : W3.heap.size ≤ k := h9.1; omega)).below HB5.out
      refine h1.only HTr.out.only (fun k hk e => ?_)
      rcases hk with h9 | h9
      ·have h8 := (HFpF.out k h9).2
       rcases e with e | e <;> omega
      ·have h8 : W3.heap.size ≤ k := h9.1
       rcases e with e | e <;> omega
     have hrf : RefAt w0 wr d (Fx Fd W4 u4) (ProgramC C o.b o.p n1 n2 (D ++ Z)).2 fs := by
      refine (HC4.out.below HB5.out).only HTr.out.only (fun k hk e => ?_) (fun k hk => ?_)
      ·rcases hk with h9 | h9
       ·have h8 := (HFdF.out k h9).2
        rcases e with e | e <;> omega
       ·have h8 : W4.heap.size ≤ k := h9.1
        rcases e with e | e <;> omega
      ·have h7 := (HFP.out.2.2.2 b HFP.out.2.2.1)
       rcases hk with e | e <;> omega
     have hon : Only F w wr := by
      have h1 : Only F w W3 := Only.ofB HPG3.out.bel
      have h2 := h1.trans HO3.out (fun k _ e => (HFpF.out k e).1)
      have h3 := h2.trans (Only.ofB (F := F) HW4.out) (fun _ _ e => e)
      have h4 := h3.trans HO4.out (fun k _ e => (HFdF.out k e).1)
      have h5 := h4.trans (Only.ofB (F := F) HB5.out) (fun _ _ e => e)
      exact h5.trans HTr.out.only (fun k hk e => by rcases e with e | e <;> omega)
     refine ⟨rfl, ⟨p, d, _, _, ?_, hch, hrf, fun k hk => ?_, fun k hk => ?_, Or.inl HFP.out.2.2.1, fun k hk => ?_⟩, hon⟩
     ·have hbl := HLT.out b HFP.out.2.2.1
      have h1 := (HB5.out.block b (by omega)).trans ((HO4.out.block b (by omega) (fun e => (HFP.out.2.1 b e).2 rfl)).trans HBX4.out)
      exact (HTr.out.only.block b (by omega) (fun e => by rcases e with e | e <;> omega)).trans h1
     ·have hbl := HLT.out b HFP.out.2.2.1
      rcases hk with h9 | h9
      ·refine ⟨Or.inl (HFpF.out k h9).1, fun e => ?_, (HFP.out.1 k h9).2.2⟩
       rcases e with e | e
       ·exact (HFP.out.1 k h9).2.1 e
       ·have h8 := (HFpF.out k h9).2
        have h7 : W4.heap.size ≤ k := e.1
        omega
      ·have h8 : W3.heap.size ≤ k := h9.1
       have h7 : k < u3.heap.size := h9.2
       refine ⟨Or.inr ⟨by omega, by omega⟩, fun e => ?_, by omega⟩
       rcases e with e | e
       ·have h6 := (HFdF.out k e).2
        omega
       ·have h6 : W4.heap.size ≤ k := e.1
        omega
     ·have hbl := HLT.out b HFP.out.2.2.1
      rcases hk with h9 | h9
      ·exact ⟨Or.inl (HFdF.out k h9).1, (HFP.out.2.1 k h9).2⟩
      ·have h8 : W4.heap.size ≤ k := h9.1
       have h7 : k < u4.heap.size := h9.2
       exact ⟨Or.inr ⟨by omega, by omega⟩, by omega⟩
     ·rcases hk with h9 | h9
      ·have h8 := HFP.out.2.2.2 k h9
       exact ⟨h8.1, by omega⟩
      ·have h7 := (HFP.out.2.2.2 b HFP.out.2.2.1)
       exact ⟨by have := h9.1; omega, h9.2⟩
end Go.Proofs.Ytadlkikjfonkgaa
