/-
  SEAT YtnmnhgagnfodhaaDoor: KFo, KFn.
-/
import Derived.Test.YtnmnhgagnfodhaaDoorMn
import Derived.Test.YtnmnhgagnfodhaaDoorMa
namespace Go.Proofs.YtnmnhgagnfodhaaDoor.Cp
open Go.RowKit Go.Conc
set_option linter.unusedVariables false
theorem CAt.flips2 {w w' : World} {p : Nat} {F G : Nat → Prop} {C : Ch} {x : Bx} {bs : List Bc} {fe fe' : List Fe} {fl' : Int → Int → List Nat} (h : CAt w p F C x bs fe) (hT : KeepT F (fun t => t = 1001 ∨ t = 3) w w') (hsz : w.heap.size ≤ w'.heap.size) (hG : ∀ k, F k → G k) (hGf : ∀ k, G k → k < w'.heap.size) (hf : FlAt w' G x.gm fe') (hs : ∀ b p, look fe' b p = fl' b p) : CAt w' p G { C with fl := fl' } x bs fe' :=
 ⟨hT _ _ 73 h.fp h.box rfl (by decide), hG _ h.fp, h.B, h.P, h.S, h.nb, h.dark, h.cnt, hT _ _ 76 h.fb h.row rfl (by decide), hG _ h.fb, h.bl, fun b hb => (h.bok b hb).keep hT (by decide) hG ((hT _ _ 107 (h.bok b hb).fg (h.bok b hb).row rfl (by decide)).trans (h.bok b hb).row.symm), h.gs, hf, hs, h.q.keep hT (by decide) (by decide) hG ⟨rfl, rfl, rfl, rfl, rfl, rfl, rfl⟩ rfl, h.tr.keep hT (by decide) hG ⟨rfl, rfl, rfl⟩, hGf⟩
theorem far_look {b p : Int} {v : Value} : ∀ {fe : List Fe}, fe.Pairwise (fun f g => ∀ k, f.sl.ownBlock = some k → g.sl.ownBlock ≠ some k) → lookV fe b p = v → ∀ f ∈ fe, isAt b p f = false → ∀ g, f.sl.ownBlock = some g → v.ownBlock ≠ some g
 | [], _, _, f, hf, _, _, _ => by cases hf
 | e :: r, hp, hl, f, hf, hi, g, hg => by
  rw [List.pairwise_cons] at hp
  rw [lookV_cons] at hl
  by_cases he : isAt b p e = true
  ·rw [if_pos he] at hl
   subst hl
   rcases List.mem_cons.1 hf with h1 | h1
   ·rw [h1, he] at hi
    cases hi
   ·intro h2
    exact hp.1 f h1 g h2 hg
  ·rw [if_neg he] at hl
   rcases List.mem_cons.1 hf with h1 | h1
   ·subst h1
    have h3 : ∀ (l : List Fe), (∀ a ∈ l, ∀ k, f.sl.ownBlock = some k → a.sl.ownBlock ≠ some k) → lookV l b p = v → v.ownBlock ≠ some g := by
     intro l
     induction l with
     | nil => intro _ h4 h5; rw [← h4] at h5; cases h5
     | cons a l ih =>
      intro h4 h5
      rw [lookV_cons] at h5
      by_cases ha : isAt b p a = true
      ·rw [if_pos ha] at h5
       subst h5
       exact h4 a (by simp) g hg
      ·rw [if_neg ha] at h5
       exact ih (fun c hc => h4 c (by simp [hc])) h5
    exact h3 r hp.1 hl
   ·exact far_look hp.2 hl f h1 hi g hg
def flS (fl : Int → Int → List Nat) (i k : Int) (bit : Nat) : Int → Int → List Nat := fun b p => if b = i ∧ p = k then fl i k ++ [bit] else fl b p
theorem flip_fin {w u6 w1 Y : World} {p : Nat} {F : Nat → Prop} {C : Ch} {x : Bx} {bs : List Bc} {fe fe1 : List Fe} {i k : Int} {bit ln lc d gn cn : Nat} {la : Option Addr} {es1 : Array MapEntry} {ck1 : Nat} {e1 : MapEntry}
  (hC : CAt u6 p F C x bs fe) (hF : ∀ k, F k → k < w.heap.size) (hw : w.heap.size ≤ u6.heap.size) (hl : lookV fe i k = .slice la ln lc)
  (hO1 : Only (· = x.gm) u6 w1) (hf1 : FlAt w1 F x.gm fe1) (hm1 : w1.heap[x.gm]? = some (.map es1 ck1)) (hes1 : es1.toList.map (fun e => (e.key, e.val)) = fe1.map (fun f => (plV f.b f.p, f.sl))) (hst1 : Stamps es1.toList ck1) (hd1 : es1.toList[d]? = some e1)
  (hput1 : ∀ n : Fe, n.b = i → n.p = k → putE n fe1 = fe1.set d n ∧ d < fe1.length) (hlook1 : ∀ b' p', look fe1 b' p' = look fe b' p') (hmem1 : ∀ n : Fe, n.b = i → n.p = k → ∀ f ∈ fe1, isAt i k f = false → f ∈ fe) (hkey : e1.key = plV i k)
  (own : Y.ownsRow 0 3 1 (.slice (some ⟨gn, 0, none⟩) (ln + 1) cn) (ln + 1) (((C.fl i k).map fun (i : Nat) => Value.int .i64 (i : Int)) ++ [.int .i64 (bit : Int)])) (grow : w1.grownBy Y (Value.slice la ln lc).ownBlock) (lies : (Value.slice la ln lc).ownBlock = some gn ∨ gn = w1.heap.size) (hgl : gn < Y.heap.size) :
  ∃ z fe2, (Instr.entryStore 65 (.map (some x.gm)) (goInt (e1.born : Nat)) (.slice (some ⟨gn, 0, none⟩) (ln + 1) cn)).run Tryd.prog Y = .ok () z ∧ CAt z p (Fx F w z) { C with fl := flS C.fl i k bit } x bs fe2 ∧ Only F u6 z ∧ Only (· = x.gm) Y z := by
 obtain ⟨la', ln', lc', hl', hrow, hobF⟩ := look_row hC.fl i k
 rw [hl] at hl'
 cases hl'
 obtain ⟨es, ck, hm, _⟩ := hC.fl.map
 have hob3 : ∀ g, (Value.slice la ln lc).ownBlock = some g → ∃ cs, u6.heap[g]? = some (.cells cs 3 (0, 0)) := fun g hg => own_tag hrow hg
 have hogm : (Value.slice la ln lc).ownBlock ≠ some x.gm := fun e => by
  obtain ⟨cs, h1⟩ := hob3 _ e
  exact tag_ne hm h1 (t := 1001) (u := 3) rfl rfl (by decide) rfl
 have hFY : ∀ k, F k → k < Y.heap.size := fun k hk => Nat.lt_of_lt_of_le (hC.fin k hk) (Nat.le_trans hO1.size grow.size)
 have hmY : Y.heap[x.gm]? = some (.map es1 ck1) := (grow.block x.gm (lt_of_block hm1) (fun e => hogm e.symm)).trans hm1
 have hfar0 : ∀ f ∈ fe1, isAt i k f = false → ∀ g, f.sl.ownBlock = some g → (Value.slice la ln lc).ownBlock ≠ some g := fun f hf hi => far_look hC.fl.far hl f (hmem1 ⟨i, k, none, 0, 0, []⟩ rfl rfl f hf hi) hi
 obtain ⟨z, hrun, hfz, hoz⟩ := FlAt.store (G := fun k => F k ∨ (w.heap.size ≤ k ∧ k < Y.heap.size)) hmY hes1 hst1 hd1 hf1.keys hf1.far ⟨i, k, some ⟨gn, 0, none⟩, ln + 1, cn, C.fl i k ++ [bit]⟩ (hput1 _ rfl rfl) (Or.inl hf1.fg) hkey
  (fun f hf hi => ⟨owns_keep (hf1.ok f hf).row (fun g hg => by
   obtain ⟨cs, hc⟩ := own_tag (hf1.ok f hf).row hg
   exact grow.block g (lt_of_block hc) (fun e => hfar0 f hf hi g hg e.symm)), fun g hg => Or.inl ((hf1.ok f hf).fg g hg)⟩)
  ⟨by rw [List.map_append]; exact own, fun g hg => by
   cases hg
   rcases lies with h1 | h1
   ·exact Or.inl (hobF _ h1)
   ·exact Or.inr ⟨by rw [h1]; exact Nat.le_trans hw hO1.size, hgl⟩⟩
  (fun f hf hi g hg e => by
   have e' : gn = g := Option.some.inj e
   rw [← e'] at hg
   rcases lies with h1 | h1
   ·exact hfar0 f hf hi _ hg h1
   ·obtain ⟨cs, hc⟩ := own_tag (hf1.ok f hf).row hg
    have := lt_of_block hc
    omega)
 have hOz : Only (fun k => k = x.gm ∨ (Value.slice la ln lc).ownBlock = some k) u6 z := ((hO1.mono (fun _ _ e => Or.inl e)).trans (Only.ofG grow (F := fun k => k = x.gm ∨ (Value.slice la ln lc).ownBlock = some k) (fun _ e => Or.inr e)) (fun _ _ h => h)).trans hoz (fun _ _ e => Or.inl e)
 have hT : KeepT F (fun t => t = 1001 ∨ t = 3) u6 z := hOz.keepT (fun k' o t hk ho ht => by
  rcases hk with h1 | h1
  ·rw [h1, hm] at ho
   cases ho
   exact Or.inl ht
  ·obtain ⟨cs, hc⟩ := hob3 _ h1
   rw [hc] at ho
   cases ho
   exact Or.inr ht.symm)
 have hfz' : FlAt z (Fx F w z) x.gm (putE ⟨i, k, some ⟨gn, 0, none⟩, ln + 1, cn, C.fl i k ++ [bit]⟩ fe1) := hfz.keep (T := fun _ => False) (KeepT.of (fun _ _ => rfl) _) (fun h => h) (fun h => h) (fun k hk => hk.imp (fun h => h) (fun h => ⟨h.1, Nat.lt_of_lt_of_le h.2 hoz.size⟩))
 refine ⟨z, _, hrun, hC.flips2 hT hOz.size (fun k hk => Or.inl hk) (fun k hk => hk.elim (fun h => Nat.lt_of_lt_of_le (hFY k h) hoz.size) (fun h => h.2)) hfz' ?_, hOz.mono (fun j _ h => h.elim (fun e => by rw [e]; exact hC.fl.fg) (fun e => hobF _ e)), hoz⟩
 intro b' p'
 rw [look_putE]
 unfold flS
 rw [hlook1, hC.fs]
end Go.Proofs.YtnmnhgagnfodhaaDoor.Cp
namespace Go.Proofs.YtnmnhgagnfodhaaDoor.Cp
open Go.RowKit Go.Conc
set_option linter.unusedVariables false
def F6 (cb p gm i k ln lc : Nat) (la : Option Addr) (u : World) : Prop := u.cell? ⟨cb, 0, none⟩ = some (.pointer (some ⟨p, 0, none⟩)) ∧ u.cell? ⟨p, 4, none⟩ = some (.map (some gm)) ∧ u.cell? ⟨cb + 1, 0, none⟩ = some (.int .i64 (i : Int)) ∧ u.cell? ⟨cb + 1, 1, none⟩ = some (.int .i64 (k : Int)) ∧ (Instr.lookup 65 (.map (some gm)) (.agg #[.int .i64 (i : Int), .int .i64 (k : Int)]) false).run Tryd.prog u = .ok (.slice la ln lc) u
theorem f6_mk {u : World} {p : Nat} {F : Nat → Prop} {C : Ch} {x : Bx} {bs : List Bc} {fe : List Fe} {i k cb ln lc : Nat} {la : Option Addr} (h : CAt u p F C x bs fe) (h0 : u.heap[cb]? = some (.cells #[.pointer (some ⟨p, 0, none⟩)] 25 (0, 0))) (h1 : u.heap[cb + 1]? = some (.cells #[.int .i64 (i : Int), .int .i64 (k : Int)] 45 (0, 0))) (hl : lookV fe (i : Int) (k : Int) = .slice la ln lc) : F6 cb p x.gm i k ln lc la u := by
 obtain ⟨p0, p1⟩ := cells2 h1
 have hr := h.fl.lkr (i : Int) (k : Int)
 rw [hl] at hr
 exact ⟨cells1 h0, h.box.c4, p0, p1, hr⟩
theorem ub_mk {u : World} {p : Nat} {F : Nat → Prop} {C : Ch} {x : Bx} {bs : List Bc} {fe : List Fe} {cb ub un : Nat} (h : CAt u p F C x bs fe) (h0 : u.heap[cb]? = some (.cells #[.pointer (some ⟨p, 0, none⟩)] 25 (0, 0))) (h1 : u.heap[ub]? = some (.cells #[.int .i64 (un : Int)] 3 (0, 0))) : UB p cb ub un C u := by
 have b0 := h.box.c0
 have b1 := h.box.c1
 have b2 := h.box.c2
 rw [h.B] at b0
 rw [h.P] at b1
 rw [h.S] at b2
 exact ⟨cells1 h0, cells1 h1, b0, b1, b2⟩
set_option maxHeartbeats 4000000 in
set_option maxRecDepth 100000 in
theorem flip_u (w : World) (p : Nat) (F : Nat → Prop) (C : Ch) (x : Bx) (bs : List Bc) (fe : List Fe) (h : CAt w p F C x bs fe) (hok : C.Ok) (i k : Nat) (b : Bc) (q : Pc) (hi : bs[i]? = some b) (hk : b.ps[k]? = some q) (bit : Nat) (hbb : bit < 8 * pgB C.S) (hqh : q.h = true) (hln : (C.fl (i : Int) (k : Int)).length ≤ 4000000000000) (hany : ((C.fl (i : Int) (k : Int)).any (fun z => ((unitN C.S z : Nat) : Int) == ((unitN C.S bit : Nat) : Int))) = true) :
  Calls Tryd.prog 28 #[.pointer (some ⟨p, 0, none⟩), .agg #[.int .i64 (i : Int), .int .i64 (k : Int)], .int .i64 (bit : Int)] w fun e w' => e = .returned (.int .i64 46) ∧ Below w.heap.size w w' := by
 have hBl := hok.bl
 have hS := hok.s
 have hil : i < bs.length := (List.getElem?_eq_some_iff.1 hi).1
 have hkl : k < b.ps.length := (List.getElem?_eq_some_iff.1 hk).1
 have hP : hasP C.B C.P (i : Int) (k : Int) = true := by
  have e1 : bs.length = C.B := by have h1 := h.len; rw [hBl] at h1; exact h1
  have e2 : b.ps.length = C.P := (h.bok b (List.mem_of_getElem? hi)).np
  unfold hasP hasB
  rw [decide_eq_true (show (0 : Int) ≤ i ∧ (i : Int) < C.B by omega), decide_eq_true (show (0 : Int) ≤ k ∧ (k : Int) < C.P by omega)]
  rfl
 have i1 : (i : Int) < (x.nb : Int) := by rw [h.nb]; omega
 have k1 : (k : Int) < (b.ps.length : Int) := by omega
 have HC0 := hide ((h.below (below_alloc _ (.cells #[.pointer (some ⟨p, 0, none⟩)] 25))).below (below_alloc _ (.cells #[.int .i64 (i : Int), .int .i64 (k : Int)] 45)))
 have HCB : Hid (((w.alloc (.cells #[.pointer (some ⟨p, 0, none⟩)] 25)).alloc (.cells #[.int .i64 (i : Int), .int .i64 (k : Int)] 45)).heap[w.heap.size]? = some (.cells #[.pointer (some ⟨p, 0, none⟩)] 25 (0, 0))) := (alloc_old _ _ (by simp)).trans (alloc_new w (.cells #[.pointer (some ⟨p, 0, none⟩)] 25))
 have HPL : Hid (((w.alloc (.cells #[.pointer (some ⟨p, 0, none⟩)] 25)).alloc (.cells #[.int .i64 (i : Int), .int .i64 (k : Int)] 45)).heap[w.heap.size + 1]? = some (.cells #[.int .i64 (i : Int), .int .i64 (k : Int)] 45 (0, 0))) := by have h2 := alloc_new (w.alloc (.cells #[.pointer (some ⟨p, 0, none⟩)] 25)) (.cells #[.int .i64 (i : Int), .int .i64 (k : Int)] 45); rw [alloc_size] at h2; exact h2
 obtain ⟨L, hLe⟩ : ∃ L, pgB C.S = L := ⟨_, rfl⟩
 have hLb : L ≤ 2126 := by rw [← hLe]; exact pgB_le hS.2
 have HL := hide hLe
 clear hLe
 have hb0 : decide ((bit : Int) < 0) = false := decide_eq_false (by omega)
 have hbb0 := hbb
 have HBB := hide hbb0
 clear hbb0
 rw [HL.out] at hbb
 have hw : IntKind.i64.wrap (8 * (L : Int)) = 8 * (L : Int) := by simp only [IntKind.wrap_i64]; omega
 have hb1 : decide (8 * (L : Int) ≤ (bit : Int)) = false := decide_eq_false (by omega)
 have HFBd := hide (hok.fl (i : Int) (k : Int))
 clear h
 go_enter Tryd.func28, Tryd.ntmps28
 go_wp2_with (first | (go_at_call 43; refine (hasPage_any x p C.B C.P (i : Int) (k : Int) _ HC0.out.box HC0.out.B HC0.out.P).mono ?_; rintro e u1 ⟨rfl, b1⟩; rw [hP]; have HC1 := hide (HC0.out.below b1); have HCB1 := hide ((b1.block _ (lt_of_block HCB.out)).trans HCB.out); have HPL1 := hide ((b1.block _ (lt_of_block HPL.out)).trans HPL.out); have B1 := hide (below_trans (below_trans (below_alloc w (.cells #[.pointer (some ⟨p, 0, none⟩)] 25)) (below_alloc _ (.cells #[.int .i64 (i : Int), .int .i64 (k : Int)] 45))) b1); have HS3 := hide (f3_mk HC1.out hi hk HCB1.out HPL1.out); clear b1))
 rw [hqh] at HS3
 refine wp_region_held_drew (S := (fun u => u.cell? ⟨w.heap.size, 0, none⟩ = some (.pointer (some ⟨p, 0, none⟩)) ∧ u.cell? ⟨p, 0, none⟩ = some (.int .i64 (C.B : Int)) ∧ u.cell? ⟨p, 1, none⟩ = some (.int .i64 (C.P : Int)) ∧ u.cell? ⟨p, 2, none⟩ = some (.int .i64 (C.S : Int)) ∧ u.cell? ⟨p, 3, none⟩ = some (.slice (some ⟨x.gb, 0, none⟩) x.nb x.nb) ∧ u.cell? ⟨w.heap.size + 1, 0, none⟩ = some (.int .i64 (i : Int)) ∧ u.cell? ⟨w.heap.size + 1, 1, none⟩ = some (.int .i64 (k : Int)) ∧ u.cell? ⟨x.gb, i * 4 + 3, none⟩ = some (.slice (some ⟨b.g, 0, none⟩) b.ps.length b.ps.length) ∧ u.cell? ⟨b.g, k * 2 + 1, none⟩ = some (.bool true))) (by kernel_rfl) (f3_drew HS3.out) (fun hHeld => ?_)
 refine tk 0 ?_
 refine tk 1 ?_
 refine tk 2 ?_
 refine tk 3 ?_
 refine tk 4 ?_
 refine tk 5 ?_
 refine tk 6 ?_
 refine tk 7 ?_
 refine rd 8 (fun K hK => ?_)
 go_simp
 go_at_call 22
 refine (pageB_any _ _ C.S _ hS.1 hS.2).mono ?_
 rintro e u2 ⟨rfl, b2⟩
 rw [HL.out]
 have HB2 := hide (below_trans (drew_below _) b2)
 have hSnew := f3_keep HS3.out HB2.out
 clear b2
 go_wp2_with fail
 clear hHeld
 refine hK.out _ _ hSnew (fun hHeld => ?_)
 clear hK K hSnew
 try simp only [Act.put, zSt, zS0, zS1]
 refine tk 9 ?_
 refine tk 10 ?_
 refine tk 11 ?_
 refine tk 12 ?_
 refine tk 13 ?_
 refine tk 14 ?_
 refine tk 15 ?_
 refine tk 16 ?_
 refine tk 17 ?_
 refine tk 18 ?_
 refine tk 19 ?_
 refine tk 20 ?_
 refine tk 21 ?_
 refine tk 22 ?_
 refine tk 23 ?_
 refine tk 24 ?_
 refine tk 25 ?_
 refine tk 26 ?_
 refine tk 27 ?_
 refine tk 28 ?_
 refine wpAnyH_done (by kernel_rfl) ?_ _
 clear hHeld
 have HC2 := hide (HC1.out.below HB2.out)
 have HCB2 := hide ((HB2.out.block _ (lt_of_block HCB1.out)).trans HCB1.out)
 have HPL2 := hide ((HB2.out.block _ (lt_of_block HPL1.out)).trans HPL1.out)
 obtain ⟨s0, s1, s2, s3, s4, s5, s6, s7, s8⟩ := f3_keep HS3.out HB2.out
 clear s7 s8
 go_wp2_with (first | (go_at_call 56; refine (unitOf_any (C.B : Int) (C.P : Int) C.S bit _ hS.1 hS.2 HBB.out).mono ?_; rintro e u3 ⟨rfl, b3⟩; have B3 := hide b3; clear b3))
 clear s0 s1 s2 s3 s4 s5 s6
 have HB34 : Hid (Below u2.heap.size u2 (u3.alloc (.cells #[.int .i64 ((unitN C.S bit : Nat) : Int)] 3)).drew) := below_trans (below_trans B3.out (below_alloc _ _)) (drew_below _)
 have HU4 : Hid ((u3.alloc (.cells #[.int .i64 ((unitN C.S bit : Nat) : Int)] 3)).drew.heap[u3.heap.size]? = some (.cells #[.int .i64 ((unitN C.S bit : Nat) : Int)] 3 (0, 0))) := alloc_new u3 _
 obtain ⟨u4, hu4⟩ : ∃ u, u = u3.alloc (.cells #[.int .i64 ((unitN C.S bit : Nat) : Int)] 3) := ⟨_, rfl⟩
 rw [← hu4] at HB34 HU4 ⊢
 clear hu4
 have HC4 := hide (HC2.out.below HB34.out)
 have HCB4 := hide ((HB34.out.block _ (lt_of_block HCB2.out)).trans HCB2.out)
 have HPL4 := hide ((HB34.out.block _ (lt_of_block HPL2.out)).trans HPL2.out)
 have HUB4 := hide (ub_mk HC4.out HCB4.out HU4.out)
 obtain ⟨la, ln, lc, hlv, hlo, hlf⟩ := look_row HC4.out.fl (i : Int) (k : Int)
 rw [HC4.out.fs] at hlo
 have HLV := hide hlv
 have HLO4 := hide hlo
 have HLF := hide hlf
 have hlen : ln ≤ 4000000000000 := by have h1 := hlo.1; simp at h1; omega
 have HLN : Hid (ln ≤ 9223372036854775807) := hide (by omega)
 clear hlv hlo hlf
 refine wp_region_held_drew (S := (fun u => u.cell? ⟨w.heap.size, 0, none⟩ = some (.pointer (some ⟨p, 0, none⟩)) ∧ u.cell? ⟨p, 4, none⟩ = some (.map (some x.gm)) ∧ u.cell? ⟨w.heap.size + 1, 0, none⟩ = some (.int .i64 (i : Int)) ∧ u.cell? ⟨w.heap.size + 1, 1, none⟩ = some (.int .i64 (k : Int)) ∧ (Instr.lookup 65 (.map (some x.gm)) (.agg #[.int .i64 (i : Int), .int .i64 (k : Int)]) false).run Tryd.prog u = .ok (.slice la ln lc) u)) (by kernel_rfl) (f6_mk HC4.out HCB4.out HPL4.out HLV.out) (fun hHeld => ?_)
 refine tk 0 ?_
 refine tk 1 ?_
 refine tk 2 ?_
 refine tk 3 ?_
 refine tk 4 ?_
 refine tk 5 ?_
 refine tk 6 ?_
 refine rd 7 (fun K hK => ?_)
 go_simp
 go_at_call 57
 refine (containsF_any p w.heap.size u3.heap.size (unitN C.S bit) C _ HUB4.out hS la ln lc 0 (C.fl (i : Int) (k : Int)) HLO4.out HFBd.out HLN.out).mono ?_
 rintro e u5 ⟨rfl, b5⟩
 rw [hany]
 have HB5 := hide b5
 have HC5 := hide (HC4.out.below b5)
 have HCB5 := hide ((b5.block _ (lt_of_block HCB4.out)).trans HCB4.out)
 have HPL5 := hide ((b5.block _ (lt_of_block HPL4.out)).trans HPL4.out)
 have hSnew := f6_mk HC5.out HCB5.out HPL5.out HLV.out
 clear b5
 go_wp2_with fail
 clear hHeld
 refine hK.out _ _ hSnew (fun hHeld => ?_)
 clear hK K hSnew
 try simp only [Act.put, zSt, zS0, zS1]
 refine wpAnyH_done (by kernel_rfl) ?_ _
 clear hHeld
 go_wp2
 go_ret
 exact ⟨rfl, below_trans (below_trans (below_trans B1.out HB2.out) HB34.out) HB5.out⟩
def F8 (cb p gm i k : Nat) (u : World) : Prop := u.cell? ⟨cb, 0, none⟩ = some (.pointer (some ⟨p, 0, none⟩)) ∧ u.cell? ⟨p, 4, none⟩ = some (.map (some gm)) ∧ u.cell? ⟨cb + 1, 0, none⟩ = some (.int .i64 (i : Int)) ∧ u.cell? ⟨cb + 1, 1, none⟩ = some (.int .i64 (k : Int))
theorem f8_mk {u : World} {p : Nat} {F : Nat → Prop} {C : Ch} {x : Bx} {bs : List Bc} {fe : List Fe} {i k cb : Nat} (h : CAt u p F C x bs fe) (h0 : u.heap[cb]? = some (.cells #[.pointer (some ⟨p, 0, none⟩)] 25 (0, 0))) (h1 : u.heap[cb + 1]? = some (.cells #[.int .i64 (i : Int), .int .i64 (k : Int)] 45 (0, 0))) : F8 cb p x.gm i k u := by
 obtain ⟨p0, p1⟩ := cells2 h1
 exact ⟨cells1 h0, h.box.c4, p0, p1⟩
theorem f8_only {u u' : World} {G : Nat → Prop} {p gm i k cb : Nat} (h : F8 cb p gm i k u) (ho : Only G u u') (h0 : ¬ G cb) (h1 : ¬ G p) (h2 : ¬ G (cb + 1)) : F8 cb p gm i k u' := by
 obtain ⟨a0, a1, a2, a3⟩ := h
 exact ⟨ho.cell a0 h0, ho.cell a1 h1, ho.cell a2 h2, ho.cell a3 h2⟩
theorem news1 {u : World} {g : Nat} {v : Value} {T : TypeId} (h : u.heap[g]? = some (.cells #[v] T (0, 0))) : ∀ j y, ([v] : List Value)[j]? = some y → u.cell? ((⟨g, 0, none⟩ : Addr).add j) = some y := by
 intro j y hy
 cases j with
 | zero => simp at hy; subst hy; exact cells1 h
 | succ j => simp at hy
theorem info3 : (Tryd.prog.info? 3).map (fun i => (i.zero, i.size, i.bytes)) = some (some (.int .i64 0), 1, 8) := by kernel_rfl
set_option maxHeartbeats 8000000 in
set_option maxRecDepth 100000 in
theorem flip_yes (w : World) (p : Nat) (F : Nat → Prop) (C : Ch) (x : Bx) (bs : List Bc) (fe : List Fe) (h : CAt w p F C x bs fe) (hok : C.Ok) (i k : Nat) (b : Bc) (q : Pc) (hi : bs[i]? = some b) (hk : b.ps[k]? = some q) (bit : Nat) (hbb : bit < 8 * pgB C.S) (hqh : q.h = true) (hln : (C.fl (i : Int) (k : Int)).length ≤ 4000000000000) (hany : ((C.fl (i : Int) (k : Int)).any (fun z => ((unitN C.S z : Nat) : Int) == ((unitN C.S bit : Nat) : Int))) = false) :
  Calls Tryd.prog 28 #[.pointer (some ⟨p, 0, none⟩), .agg #[.int .i64 (i : Int), .int .i64 (k : Int)], .int .i64 (bit : Int)] w fun e w' => e = .returned (.int .i64 0) ∧ (∃ x bs fe, CAt w' p (Fx F w w') { C with fl := flS C.fl (i : Int) (k : Int) bit } x bs fe) ∧ Only F w w' := by
 have hBl := hok.bl
 have hS := hok.s
 have hil : i < bs.length := (List.getElem?_eq_some_iff.1 hi).1
 have hkl : k < b.ps.length := (List.getElem?_eq_some_iff.1 hk).1
 have hP : hasP C.B C.P (i : Int) (k : Int) = true := by
  have e1 : bs.length = C.B := by have h1 := h.len; rw [hBl] at h1; exact h1
  have e2 : b.ps.length = C.P := (h.bok b (List.mem_of_getElem? hi)).np
  unfold hasP hasB
  rw [decide_eq_true (show (0 : Int) ≤ i ∧ (i : Int) < C.B by omega), decide_eq_true (show (0 : Int) ≤ k ∧ (k : Int) < C.P by omega)]
  rfl
 have i1 : (i : Int) < (x.nb : Int) := by rw [h.nb]; omega
 have k1 : (k : Int) < (b.ps.length : Int) := by omega
 have HC0 := hide ((h.below (below_alloc _ (.cells #[.pointer (some ⟨p, 0, none⟩)] 25))).below (below_alloc _ (.cells #[.int .i64 (i : Int), .int .i64 (k : Int)] 45)))
 have HCB : Hid (((w.alloc (.cells #[.pointer (some ⟨p, 0, none⟩)] 25)).alloc (.cells #[.int .i64 (i : Int), .int .i64 (k : Int)] 45)).heap[w.heap.size]? = some (.cells #[.pointer (some ⟨p, 0, none⟩)] 25 (0, 0))) := (alloc_old _ _ (by simp)).trans (alloc_new w (.cells #[.pointer (some ⟨p, 0, none⟩)] 25))
 have HPL : Hid (((w.alloc (.cells #[.pointer (some ⟨p, 0, none⟩)] 25)).alloc (.cells #[.int .i64 (i : Int), .int .i64 (k : Int)] 45)).heap[w.heap.size + 1]? = some (.cells #[.int .i64 (i : Int), .int .i64 (k : Int)] 45 (0, 0))) := by have h2 := alloc_new (w.alloc (.cells #[.pointer (some ⟨p, 0, none⟩)] 25)) (.cells #[.int .i64 (i : Int), .int .i64 (k : Int)] 45); rw [alloc_size] at h2; exact h2
 obtain ⟨L, hLe⟩ : ∃ L, pgB C.S = L := ⟨_, rfl⟩
 have hLb : L ≤ 2126 := by rw [← hLe]; exact pgB_le hS.2
 have HL := hide hLe
 clear hLe
 have hb0 : decide ((bit : Int) < 0) = false := decide_eq_false (by omega)
 have hbb0 := hbb
 have HBB := hide hbb0
 clear hbb0
 rw [HL.out] at hbb
 have hw : IntKind.i64.wrap (8 * (L : Int)) = 8 * (L : Int) := by simp only [IntKind.wrap_i64]; omega
 have hb1 : decide (8 * (L : Int) ≤ (bit : Int)) = false := decide_eq_false (by omega)
 have HFW : Hid (∀ k, F k → k < w.heap.size) := h.fin
 have HFBd := hide (hok.fl (i : Int) (k : Int))
 clear h
 go_enter Tryd.func28, Tryd.ntmps28
 go_wp2_with (first | (go_at_call 43; refine (hasPage_any x p C.B C.P (i : Int) (k : Int) _ HC0.out.box HC0.out.B HC0.out.P).mono ?_; rintro e u1 ⟨rfl, b1⟩; rw [hP]; have HC1 := hide (HC0.out.below b1); have HCB1 := hide ((b1.block _ (lt_of_block HCB.out)).trans HCB.out); have HPL1 := hide ((b1.block _ (lt_of_block HPL.out)).trans HPL.out); have B1 := hide (below_trans (below_trans (below_alloc w (.cells #[.pointer (some ⟨p, 0, none⟩)] 25)) (below_alloc _ (.cells #[.int .i64 (i : Int), .int .i64 (k : Int)] 45))) b1); have HS3 := hide (f3_mk HC1.out hi hk HCB1.out HPL1.out); clear b1))
 rw [hqh] at HS3
 refine wp_region_held_drew (S := (fun u => u.cell? ⟨w.heap.size, 0, none⟩ = some (.pointer (some ⟨p, 0, none⟩)) ∧ u.cell? ⟨p, 0, none⟩ = some (.int .i64 (C.B : Int)) ∧ u.cell? ⟨p, 1, none⟩ = some (.int .i64 (C.P : Int)) ∧ u.cell? ⟨p, 2, none⟩ = some (.int .i64 (C.S : Int)) ∧ u.cell? ⟨p, 3, none⟩ = some (.slice (some ⟨x.gb, 0, none⟩) x.nb x.nb) ∧ u.cell? ⟨w.heap.size + 1, 0, none⟩ = some (.int .i64 (i : Int)) ∧ u.cell? ⟨w.heap.size + 1, 1, none⟩ = some (.int .i64 (k : Int)) ∧ u.cell? ⟨x.gb, i * 4 + 3, none⟩ = some (.slice (some ⟨b.g, 0, none⟩) b.ps.length b.ps.length) ∧ u.cell? ⟨b.g, k * 2 + 1, none⟩ = some (.bool true))) (by kernel_rfl) (f3_drew HS3.out) (fun hHeld => ?_)
 refine tk 0 ?_
 refine tk 1 ?_
 refine tk 2 ?_
 refine tk 3 ?_
 refine tk 4 ?_
 refine tk 5 ?_
 refine tk 6 ?_
 refine tk 7 ?_
 refine rd 8 (fun K hK => ?_)
 go_simp
 go_at_call 22
 refine (pageB_any _ _ C.S _ hS.1 hS.2).mono ?_
 rintro e u2 ⟨rfl, b2⟩
 rw [HL.out]
 have HB2 := hide (below_trans (drew_below _) b2)
 have hSnew := f3_keep HS3.out HB2.out
 clear b2
 go_wp2_with fail
 clear hHeld
 refine hK.out _ _ hSnew (fun hHeld => ?_)
 clear hK K hSnew
 try simp only [Act.put, zSt, zS0, zS1]
 refine tk 9 ?_
 refine tk 10 ?_
 refine tk 11 ?_
 refine tk 12 ?_
 refine tk 13 ?_
 refine tk 14 ?_
 refine tk 15 ?_
 refine tk 16 ?_
 refine tk 17 ?_
 refine tk 18 ?_
 refine tk 19 ?_
 refine tk 20 ?_
 refine tk 21 ?_
 refine tk 22 ?_
 refine tk 23 ?_
 refine tk 24 ?_
 refine tk 25 ?_
 refine tk 26 ?_
 refine tk 27 ?_
 refine tk 28 ?_
 refine wpAnyH_done (by kernel_rfl) ?_ _
 clear hHeld
 have HC2 := hide (HC1.out.below HB2.out)
 have HCB2 := hide ((HB2.out.block _ (lt_of_block HCB1.out)).trans HCB1.out)
 have HPL2 := hide ((HB2.out.block _ (lt_of_block HPL1.out)).trans HPL1.out)
 obtain ⟨s0, s1, s2, s3, s4, s5, s6, s7, s8⟩ := f3_keep HS3.out HB2.out
 clear s7 s8
 go_wp2_with (first | (go_at_call 56; refine (unitOf_any (C.B : Int) (C.P : Int) C.S bit _ hS.1 hS.2 HBB.out).mono ?_; rintro e u3 ⟨rfl, b3⟩; have B3 := hide b3; clear b3))
 clear s0 s1 s2 s3 s4 s5 s6
 have HB34 : Hid (Below u2.heap.size u2 (u3.alloc (.cells #[.int .i64 ((unitN C.S bit : Nat) : Int)] 3)).drew) := below_trans (below_trans B3.out (below_alloc _ _)) (drew_below _)
 have HU4 : Hid ((u3.alloc (.cells #[.int .i64 ((unitN C.S bit : Nat) : Int)] 3)).drew.heap[u3.heap.size]? = some (.cells #[.int .i64 ((unitN C.S bit : Nat) : Int)] 3 (0, 0))) := alloc_new u3 _
 obtain ⟨u4, hu4⟩ : ∃ u, u = u3.alloc (.cells #[.int .i64 ((unitN C.S bit : Nat) : Int)] 3) := ⟨_, rfl⟩
 rw [← hu4] at HB34 HU4 ⊢
 clear hu4
 have HC4 := hide (HC2.out.below HB34.out)
 have HCB4 := hide ((HB34.out.block _ (lt_of_block HCB2.out)).trans HCB2.out)
 have HPL4 := hide ((HB34.out.block _ (lt_of_block HPL2.out)).trans HPL2.out)
 have HUB4 := hide (ub_mk HC4.out HCB4.out HU4.out)
 obtain ⟨la, ln, lc, hlv, hlo, hlf⟩ := look_row HC4.out.fl (i : Int) (k : Int)
 rw [HC4.out.fs] at hlo
 have HLV := hide hlv
 have HLO4 := hide hlo
 have HLF := hide hlf
 have hlen : ln ≤ 4000000000000 := by have h1 := hlo.1; simp at h1; omega
 have HLN : Hid (ln ≤ 9223372036854775807) := hide (by omega)
 clear hlv hlo hlf
 refine wp_region_held_drew (S := (fun u => u.cell? ⟨w.heap.size, 0, none⟩ = some (.pointer (some ⟨p, 0, none⟩)) ∧ u.cell? ⟨p, 4, none⟩ = some (.map (some x.gm)) ∧ u.cell? ⟨w.heap.size + 1, 0, none⟩ = some (.int .i64 (i : Int)) ∧ u.cell? ⟨w.heap.size + 1, 1, none⟩ = some (.int .i64 (k : Int)) ∧ (Instr.lookup 65 (.map (some x.gm)) (.agg #[.int .i64 (i : Int), .int .i64 (k : Int)]) false).run Tryd.prog u = .ok (.slice la ln lc) u)) (by kernel_rfl) (f6_mk HC4.out HCB4.out HPL4.out HLV.out) (fun hHeld => ?_)
 refine tk 0 ?_
 refine tk 1 ?_
 refine tk 2 ?_
 refine tk 3 ?_
 refine tk 4 ?_
 refine tk 5 ?_
 refine tk 6 ?_
 refine rd 7 (fun K hK => ?_)
 go_simp
 go_at_call 57
 refine (containsF_any p w.heap.size u3.heap.size (unitN C.S bit) C _ HUB4.out hS la ln lc 0 (C.fl (i : Int) (k : Int)) HLO4.out HFBd.out HLN.out).mono ?_
 rintro e u5 ⟨rfl, b5⟩
 rw [hany]
 have HB5 := hide b5
 have HC5 := hide (HC4.out.below b5)
 have HCB5 := hide ((b5.block _ (lt_of_block HCB4.out)).trans HCB4.out)
 have HPL5 := hide ((b5.block _ (lt_of_block HPL4.out)).trans HPL4.out)
 have hSnew := f6_mk HC5.out HCB5.out HPL5.out HLV.out
 clear b5
 go_wp2_with fail
 clear hHeld
 refine hK.out _ _ hSnew (fun hHeld => ?_)
 clear hK K hSnew
 try simp only [Act.put, zSt, zS0, zS1]
 refine wpAnyH_done (by kernel_rfl) ?_ _
 clear hHeld
 go_wp2
 have HW5 : Hid (Below w.heap.size w u5) := below_trans (below_trans (below_trans B1.out HB2.out) HB34.out) HB5.out
 have HS5 : Hid (w.heap.size ≤ u5.heap.size) := HW5.out.size
 have HC5d := hide (HC5.out.below (drew_below _))
 have HCB5d : Hid (u5.drew.heap[w.heap.size]? = some (.cells #[.pointer (some ⟨p, 0, none⟩)] 25 (0, 0))) := HCB5.out
 have HPL5d : Hid (u5.drew.heap[w.heap.size + 1]? = some (.cells #[.int .i64 (i : Int), .int .i64 (k : Int)] 45 (0, 0))) := HPL5.out
 have HLO5 : Hid (u5.ownsRow 0 3 1 (.slice la ln lc) ln ((C.fl (i : Int) (k : Int)).map fun (i : Nat) => Value.int .i64 (i : Int))) := owns_keep HLO4.out (fun g hg => by
  obtain ⟨cs, hc⟩ := own_tag HLO4.out hg
  exact HB5.out.block g (lt_of_block hc))
 have HPG : Hid (p ≠ x.gm) := by
  obtain ⟨es, ck, hm, _⟩ := HC5.out.fl.map
  exact tag_ne HC5.out.box hm (t := 73) (u := 1001) rfl rfl (by decide)
 have HOP : Hid ((Value.slice la ln lc).ownBlock ≠ some p) := fun e => by
  obtain ⟨cs, hc⟩ := own_tag HLO5.out e
  exact tag_ne HC5.out.box hc (t := 73) (u := 3) rfl rfl (by decide) rfl
 obtain ⟨i0, hi0, hz0, hz1, hz2⟩ := info_parts info3
 have HI : Hid (Tryd.prog.info? 3 = some i0 ∧ i0.zero = some (.int .i64 0) ∧ i0.size = 1 ∧ i0.bytes = 8) := ⟨hi0, hz0, hz1, hz2⟩
 clear hi0 hz0 hz1 hz2
 refine wp_region_held_drew (S := (fun u => u.cell? ⟨w.heap.size, 0, none⟩ = some (.pointer (some ⟨p, 0, none⟩)) ∧ u.cell? ⟨p, 4, none⟩ = some (.map (some x.gm)) ∧ u.cell? ⟨w.heap.size + 1, 0, none⟩ = some (.int .i64 (i : Int)) ∧ u.cell? ⟨w.heap.size + 1, 1, none⟩ = some (.int .i64 (k : Int)))) (by kernel_rfl) (f8_mk HC5d.out HCB5d.out HPL5d.out) (fun hHeld => ?_)
 refine tk 0 ?_
 refine tk 1 ?_
 refine tk 2 ?_
 refine tk 3 ?_
 refine tk 4 ?_
 refine tk 5 ?_
 refine rd 6 (fun K hK => ?_)
 go_simp
 go_wp2_with fail
 have HS6 : Hid (Below u5.heap.size u5 (u5.alloc (.cells #[.int .i64 (bit : Int)] 3)).drew) := below_trans (below_alloc _ _) (drew_below _)
 have HC6 := hide (HC5.out.below HS6.out)
 have HCB6 := hide ((HS6.out.block _ (lt_of_block HCB5.out)).trans HCB5.out)
 have HPL6 := hide ((HS6.out.block _ (lt_of_block HPL5.out)).trans HPL5.out)
 have HG6 : Hid ((u5.alloc (.cells #[.int .i64 (bit : Int)] 3)).drew.heap[u5.heap.size]? = some (.cells #[.int .i64 (bit : Int)] 3 (0, 0))) := alloc_new u5 (.cells #[.int .i64 (bit : Int)] 3)
 have hSnew := f8_mk HC6.out HCB6.out HPL6.out
 refine hK.out _ _ hSnew (fun hHeld6 => ?_)
 clear hK K hSnew hHeld
 have hHeld := hHeld6
 clear hHeld6
 try simp only [Act.put, zSt, zS0, zS1]
 obtain ⟨u6, hu6⟩ : ∃ u, u = (u5.alloc (.cells #[.int .i64 (bit : Int)] 3)).drew := ⟨_, rfl⟩
 rw [← hu6] at hHeld HC6 HCB6 HPL6 HG6 HS6 ⊢
 clear hu6
 obtain ⟨w1, fe1, es1, ck1, d1, e1, hrun1, ho1, hf1, hm1, hes1, hst1, hd1, hput1, hlook1, hmem1, hkey1⟩ := HC6.out.fl.ent (i : Int) (k : Int)
 rw [HLV.out] at hrun1
 have hrun1b : (Instr.mapEntry 65 (.map (some x.gm)) (.agg #[.int .i64 (i : Int), .int .i64 (k : Int)])).run Tryd.prog u6 = .ok (.tuple #[.slice la ln lc, .int .i64 ((e1.born : Nat) : Int)]) w1 := hrun1
 have HO1 := hide ho1
 have HC7 := hide (HC6.out.flips (fl' := C.fl) ho1 hf1 (fun b p => (hlook1 b p).trans (HC6.out.fs b p)))
 have hgm : x.gm < w.heap.size := HFW.out _ HC6.out.fl.fg
 have HCB7 := hide ((ho1.block _ (lt_of_block HCB6.out) (fun e => by omega)).trans HCB6.out)
 have HPL7 := hide ((ho1.block _ (lt_of_block HPL6.out) (fun e => by omega)).trans HPL6.out)
 have HG7 := hide ((ho1.block _ (lt_of_block HG6.out) (fun e => by have h5 := HS5.out; have h6 : u5.drew.heap.size = u5.heap.size := rfl; omega)).trans HG6.out)
 have HE1 := hide (And.intro hf1 (And.intro hm1 (And.intro hes1 (And.intro hst1 (And.intro hd1 (And.intro hput1 (And.intro hlook1 (And.intro hmem1 hkey1))))))))
 have HLO7 : Hid (w1.ownsRow 0 3 1 (.slice la ln lc) ln ((C.fl (i : Int) (k : Int)).map fun (i : Nat) => Value.int .i64 (i : Int))) := by
  obtain ⟨la', ln', lc', q1, q2, q3⟩ := look_row HC7.out.fl (i : Int) (k : Int)
  rw [HC7.out.fs] at q2
  exact owns_keep HLO5.out (fun g hg => by
   obtain ⟨cs, hc⟩ := own_tag HLO5.out hg
   exact (ho1.block g (Nat.lt_of_lt_of_le (lt_of_block hc) HS6.out.size) (fun e => by
    obtain ⟨es, ck, hm, _⟩ := HC5d.out.fl.map
    rw [e, show u5.heap[x.gm]? = _ from hm] at hc
    cases hc)).trans (HS6.out.block g (lt_of_block hc)))
 clear ho1 hf1 hm1 hes1 hst1 hd1 hput1 hlook1 hmem1 hkey1 hrun1
 refine rd 7 (fun K hK => ?_)
 go_simp
 go_wp2_with fail
 have hSnew := f8_mk HC7.out HCB7.out HPL7.out
 refine hK.out _ _ hSnew (fun hHeld7 => ?_)
 clear hK K hSnew hHeld
 have hHeld := hHeld7
 clear hHeld7
 try simp only [Act.put, zSt, zS0, zS1]
 clear hrun1b
 refine tk 8 ?_
 refine tk 10 ?_
 refine rd 9 (fun K hK => ?_)
 refine wp_append_lies _ (.tmp 60) (.tmp 62) 22 rfl 0 3 i0 (.int .i64 0) 1 8 Tryd.underlying22 HI.out.1 HI.out.2.1 HI.out.2.2.1 HI.out.2.2.2 rfl (by decide) _ ln ((C.fl (i : Int) (k : Int)).map fun (i : Nat) => Value.int .i64 (i : Int)) rfl HLO7.out ⟨u5.heap.size, 0, none⟩ 1 1 [.int .i64 (bit : Int)] rfl rfl (news1 HG7.out) (by intro u hu; simp at hu; rw [hu]; rfl) (by decide) (by simp [maxLen]; omega) (by omega) (Nat.zero_le _) w1.heap.size rfl ?_
 intro gn cn Y own grow lies hgl
 obtain ⟨z, fe2, hrunz, hCz, hOz, hOYz⟩ := flip_fin (bit := bit) (w := w) HC6.out HFW.out (Nat.le_trans HS5.out HS6.out.size) HLV.out HO1.out HE1.out.1 HE1.out.2.1 HE1.out.2.2.1 HE1.out.2.2.2.1 HE1.out.2.2.2.2.1 HE1.out.2.2.2.2.2.1 HE1.out.2.2.2.2.2.2.1 HE1.out.2.2.2.2.2.2.2.1 HE1.out.2.2.2.2.2.2.2.2 own grow lies hgl
 have hrunzb : (Instr.entryStore 65 (.map (some x.gm)) (.int .i64 ((e1.born : Nat) : Int)) (.slice (some ⟨gn, 0, none⟩) (ln + 1) cn)).run Tryd.prog Y = .ok () z := hrunz
 have HCz := hide hCz
 have HOz := hide hOz
 have HF8 := hide (f8_only (f8_mk HC7.out HCB7.out HPL7.out) (Only.ofG grow (F := fun j => (Value.slice la ln lc).ownBlock = some j) (fun j e => e)) (fun e => by have := HFW.out _ (HLF.out _ e); omega) HOP.out (fun e => by have := HFW.out _ (HLF.out _ e); omega))
 have hSnew := HF8.out
 have HF9 := hide (f8_only HF8.out hOYz (fun e => by omega) HPG.out (fun e => by omega))
 clear own grow lies hgl hrunz hCz hOz hOYz
 refine hK.out _ _ hSnew (fun hHeld9 => ?_)
 clear hK K hSnew hHeld
 have hHeld := hHeld9
 clear hHeld9
 try simp only [Act.put, zSt, zS0, zS1]
 refine rd 11 (fun K hK => ?_)
 go_simp
 go_wp2_with fail
 have hSnew := HF9.out
 refine hK.out _ _ hSnew (fun hHeld11 => ?_)
 clear hK K hSnew hHeld
 have hHeld := hHeld11
 clear hHeld11
 try simp only [Act.put, zSt, zS0, zS1]
 refine wpAnyH_done (by kernel_rfl) ?_ _
 clear hHeld
 go_wp2
 go_ret
 exact ⟨rfl, ⟨x, bs, fe2, HCz.out⟩, (Only.ofB HW5.out).trans (Only.trans (F := F) (Only.ofB HS6.out) HOz.out (fun _ _ h => h)) (fun _ _ h => h)⟩
end Go.Proofs.YtnmnhgagnfodhaaDoor.Cp
