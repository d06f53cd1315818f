/-
  SEAT YtnmnhgagnfodhaaDoor: Rl.
-/
import Derived.Test.YtnmnhgagnfodhaaDoorMbk
import Derived.WalkMore
import Derived.Deep.LoopGhost
namespace Go.Proofs.YtnmnhgagnfodhaaDoor
open Go.RowKit
set_option linter.unusedVariables false
theorem row_base {w : World} {B B' : Nat} {e : TypeId} {size : Nat} {v : Value} {n : Nat} {xs : List Value} (h : w.ownsRow B e size v n xs) (hb : B' ≤ B) : w.ownsRow B' e size v n xs := by
 refine ⟨h.1, ?_⟩
 rcases h.2 with h2 | ⟨g, cap, cur, hv, hg, r⟩
 ·exact Or.inl h2
 ·exact Or.inr ⟨g, cap, cur, hv, Nat.le_trans hb hg, r⟩
theorem cells3_one (x : En) : ∀ u ∈ x.cells, u.oneCell' = true := by
 intro u hu
 simp [En.cells] at hu
 rcases hu with rfl | rfl | rfl <;> rfl
theorem lit3_news (u : World) (x : En) : ∀ j v, x.cells[j]? = some v → (u.alloc (.cells #[.int .i64 (x.p.k : Int), .int .i64 (x.p.n : Int), .slice x.a x.l x.c] 135)).cell? ((⟨u.heap.size, 0, none⟩ : Addr).add j) = some v := by
 intro j v h
 match j, h with
 | 0, h => simp [En.cells] at h; subst h; simp [Addr.add]
 | 1, h => simp [En.cells] at h; subst h; rw [plain_add]; simp
 | 2, h => simp [En.cells] at h; subst h; rw [plain_add]; simp
def PcInv (w : World) (B q C S b p s gb L N : Nat) (rest : List Int) (g : Nat) (s6 s9 : Value) (wr : World) : Prop :=
 ∃ (left f : Nat) (es : List En) (a : En) (rest' : List Int), s9 = .int .i64 (left : Int) ∧ left ≤ f ∧ left ≤ g ∧ es.length + left ≤ N ∧ rest'.length ≤ 200000000000000 ∧
  Cx w.heap.size gb L (.cells #[.int .i64 (b : Int), .int .i64 (p : Int), .int .i64 (s : Int)] 30 (0, 0)) s6 es a wr ∧ RdAt wr B q rest' ∧ w.grownBy wr (some q) ∧ rdPs C S N N Pc.z rest = ext (es.map En.p) (rdPs C S f left a.p rest')
set_option maxHeartbeats 4000000 in
set_option maxRecDepth 100000 in
theorem pieces_any (B q b p s C S : Nat) (hC : C = 256 * s) (hS : S = 54 + 3 * s) (rest : List Int) (w : World) (hR : RdAt w B q rest) (hl : rest.length ≤ 200000000000000) (hf : Fits (b : Int) (p : Int) (s : Int) = true) :
  Calls Tryd.prog 38 #[.pointer (some ⟨q, 0, none⟩), .agg #[.int .i64 (b : Int), .int .i64 (p : Int), .int .i64 (s : Int)]] w fun e w' => PsRes w w' B q e (rdPs C S (b * p) (b * p) Pc.z rest) ∧ w.grownBy w' (some q) := by
 obtain ⟨i0, hi0, hz0, hz1, hz2⟩ := info_parts info135
 have hqlt := hR.lt
 have hs := fits_s hf
 obtain ⟨q1, q2, q3, q4, q5, q6, q7⟩ := fits_nat hf
 obtain ⟨L, hL⟩ : ∃ L : Nat, L = C + S := ⟨_, rfl⟩
 obtain ⟨N, hN⟩ : ∃ N : Nat, N = b * p := ⟨_, rfl⟩
 have HNN : Hid ((b : Int) * (p : Int) = (N : Int)) := by unfold Hid; rw [hN, Int.natCast_mul]
 have HLL : Hid (256 * (s : Int) + (54 + 3 * (s : Int)) = (L : Int)) := by unfold Hid; omega
 have hL8 : 313 ≤ L ∧ L ≤ 4000 := by omega
 rw [← hN] at q7 ⊢
 have hN0 : 0 < N := by rw [hN]; exact Nat.mul_pos (by omega) (by omega)
 have HNb : Hid (0 ≤ (b : Int) * (p : Int) ∧ (b : Int) * (p : Int) ≤ 65536) := by unfold Hid; rw [HNN.out]; omega
 have HC : Hid (C = 256 * s) := hC
 have HS : Hid (S = 54 + 3 * s) := hS
 have HL : Hid (L = C + S) := hL
 have HI : Hid (Tryd.prog.info? 135 = some i0 ∧ i0.zero = some (.agg #[.int .i64 0, .int .i64 0, .slice none 0 0]) ∧ i0.size = 3 ∧ i0.bytes = 40) := ⟨hi0, hz0, hz1, hz2⟩
 have hR1 : RdAt (((w.alloc (.cells #[.int .i64 (b : Int), .int .i64 (p : Int), .int .i64 (s : Int)] 30)).alloc (.cells #[.int .i64 0, .int .i64 0, .slice none 0 0] 135)).alloc (.cells #[.int .u8 255] 5)) B q rest := ((hR.below (below_alloc w _)).below (below_alloc _ _)).below (below_alloc _ _)
 have hbx : (((w.alloc (.cells #[.int .i64 (b : Int), .int .i64 (p : Int), .int .i64 (s : Int)] 30)).alloc (.cells #[.int .i64 0, .int .i64 0, .slice none 0 0] 135)).alloc (.cells #[.int .u8 255] 5)).heap[w.heap.size]? = some (.cells #[.int .i64 (b : Int), .int .i64 (p : Int), .int .i64 (s : Int)] 30 (0, 0)) := by
  rw [Below.heap_alloc _ _ _ (by simp; omega), Below.heap_alloc _ _ _ (by simp)]; exact heap_alloc_new _ _
 have hzp : (((w.alloc (.cells #[.int .i64 (b : Int), .int .i64 (p : Int), .int .i64 (s : Int)] 30)).alloc (.cells #[.int .i64 0, .int .i64 0, .slice none 0 0] 135)).alloc (.cells #[.int .u8 255] 5)).heap[w.heap.size + 1]? = some (.cells #[.int .i64 0, .int .i64 0, .slice none 0 0] 135 (0, 0)) := by
  rw [Below.heap_alloc _ _ _ (by simp)]
  have h9 := heap_alloc_new (w.alloc (.cells #[.int .i64 (b : Int), .int .i64 (p : Int), .int .i64 (s : Int)] 30)) (.cells #[.int .i64 0, .int .i64 0, .slice none 0 0] 135); rw [World.size_alloc] at h9; exact h9
 have hlt : (((w.alloc (.cells #[.int .i64 (b : Int), .int .i64 (p : Int), .int .i64 (s : Int)] 30)).alloc (.cells #[.int .i64 0, .int .i64 0, .slice none 0 0] 135)).alloc (.cells #[.int .u8 255] 5)).heap[w.heap.size + 2]? = some (.cells #[.int .u8 255] 5 (0, 0)) := by
  have h9 := heap_alloc_new ((w.alloc (.cells #[.int .i64 (b : Int), .int .i64 (p : Int), .int .i64 (s : Int)] 30)).alloc (.cells #[.int .i64 0, .int .i64 0, .slice none 0 0] 135)) (.cells #[.int .u8 255] 5); rw [World.size_alloc, World.size_alloc] at h9; exact h9
 have hw1 : w.grownBy (((w.alloc (.cells #[.int .i64 (b : Int), .int .i64 (p : Int), .int .i64 (s : Int)] 30)).alloc (.cells #[.int .i64 0, .int .i64 0, .slice none 0 0] 135)).alloc (.cells #[.int .u8 255] 5)) (some q) := grownBy_trans (grownBy_trans (World.grownBy_alloc w _ _) (World.grownBy_alloc _ _ _)) (World.grownBy_alloc _ _ _)
 have HR1 : Hid (RdAt (((w.alloc (.cells #[.int .i64 (b : Int), .int .i64 (p : Int), .int .i64 (s : Int)] 30)).alloc (.cells #[.int .i64 0, .int .i64 0, .slice none 0 0] 135)).alloc (.cells #[.int .u8 255] 5)) B q rest) := hR1
 have HBX : Hid ((((w.alloc (.cells #[.int .i64 (b : Int), .int .i64 (p : Int), .int .i64 (s : Int)] 30)).alloc (.cells #[.int .i64 0, .int .i64 0, .slice none 0 0] 135)).alloc (.cells #[.int .u8 255] 5)).heap[w.heap.size]? = some (.cells #[.int .i64 (b : Int), .int .i64 (p : Int), .int .i64 (s : Int)] 30 (0, 0))) := hbx
 have HZP : Hid ((((w.alloc (.cells #[.int .i64 (b : Int), .int .i64 (p : Int), .int .i64 (s : Int)] 30)).alloc (.cells #[.int .i64 0, .int .i64 0, .slice none 0 0] 135)).alloc (.cells #[.int .u8 255] 5)).heap[w.heap.size + 1]? = some (.cells #[.int .i64 0, .int .i64 0, .slice none 0 0] 135 (0, 0))) := hzp
 have HLT : Hid ((((w.alloc (.cells #[.int .i64 (b : Int), .int .i64 (p : Int), .int .i64 (s : Int)] 30)).alloc (.cells #[.int .i64 0, .int .i64 0, .slice none 0 0] 135)).alloc (.cells #[.int .u8 255] 5)).heap[w.heap.size + 2]? = some (.cells #[.int .u8 255] 5 (0, 0))) := hlt
 have HW1 : Hid (w.grownBy (((w.alloc (.cells #[.int .i64 (b : Int), .int .i64 (p : Int), .int .i64 (s : Int)] 30)).alloc (.cells #[.int .i64 0, .int .i64 0, .slice none 0 0] 135)).alloc (.cells #[.int .u8 255] 5)) (some q)) := hw1
 obtain ⟨a0, a1, a2, a3, a4, a5⟩ := blk3_cells hbx
 clear hR hR1 hbx hzp hw1 hlt hi0 hz0 hz1 hz2 hL hN hC hS
 go_enter Tryd.func38, Tryd.ntmps38
 go_wp2
 go_step3
 go_wp2_with (first
  | (go_at_call 46; refine (pageBytes_any (b : Int) (p : Int) (s : Int) _ hf).mono ?_; rintro e u1 ⟨rfl, b1⟩; rw [HLL.out]
     have HBX1 : Hid (u1.heap[w.heap.size]? = some (.cells #[.int .i64 (b : Int), .int .i64 (p : Int), .int .i64 (s : Int)] 30 (0, 0))) := (b1.block _ (Array.getElem?_eq_some_iff.1 HBX.out).1).trans HBX.out
     have HZP1 : Hid (u1.heap[w.heap.size + 1]? = some (.cells #[.int .i64 0, .int .i64 0, .slice none 0 0] 135 (0, 0))) := (b1.block _ (Array.getElem?_eq_some_iff.1 HZP.out).1).trans HZP.out
     have hlt1 : u1.heap[w.heap.size + 2]? = some (.cells #[.int .u8 255] 5 (0, 0)) := (b1.block _ (Array.getElem?_eq_some_iff.1 HLT.out).1).trans HLT.out
     have hcl : u1.cell? ⟨w.heap.size + 2, 0, none⟩ = some (.int .u8 255) := by simp [World.cell?, hlt1]
     have HS1 : Hid (w.heap.size + 2 < u1.heap.size) := (Array.getElem?_eq_some_iff.1 hlt1).1
     have HCL : Hid (u1.cell? ⟨w.heap.size + 2, 0, none⟩ = some (.int .u8 255)) := hcl
     have HR2 : Hid (RdAt u1 B q rest) := HR1.out.below b1
     have HW2 : Hid (w.grownBy u1 (some q)) := grownBy_trans HW1.out (grown_of b1 _)
     clear b1 hlt1 hcl a0 a1 a2 a3 a4 a5)
  | (go_at_call 70; refine (repeat_any (w.heap.size + 2) 0 1 L _ HCL.out (by omega)).mono ?_; rintro e u2 ⟨gb, rfl, r2, hg2, hg2b, ty2, b2⟩
     have HR3 : Hid (RdAt u2 B q rest) := HR2.out.below b2
     have HW3 : Hid (w.grownBy u2 (some q)) := grownBy_trans HW2.out (grown_of b2 _)
     have HBX2 : Hid (u2.heap[w.heap.size]? = some (.cells #[.int .i64 (b : Int), .int .i64 (p : Int), .int .i64 (s : Int)] 30 (0, 0))) := (b2.block _ (Array.getElem?_eq_some_iff.1 HBX1.out).1).trans HBX1.out
     have HZP2 : Hid (u2.heap[w.heap.size + 1]? = some (.cells #[.int .i64 0, .int .i64 0, .slice none 0 0] 135 (0, 0))) := (b2.block _ (Array.getElem?_eq_some_iff.1 HZP1.out).1).trans HZP1.out
     have HCX : Hid (Cx w.heap.size gb L (.cells #[.int .i64 (b : Int), .int .i64 (p : Int), .int .i64 (s : Int)] 30 (0, 0)) (.slice none 0 0) [] ⟨Pc.z, none, 0, 0⟩ u2) := by
      have h9 := HS1.out
      exact ⟨HBX2.out, HZP2.out, ⟨Or.inl ⟨rfl, rfl, rfl⟩, by simp, by simp [Pc.z], by simp [Pc.z]⟩, World.ownsRow_nil _ _ _ _, by simp, Or.inr ⟨gb, rfl, by omega, ty2, r2⟩⟩
     obtain ⟨a0, a1, a2, a3, a4, a5⟩ := blk3_cells HBX2.out
     clear r2 ty2 b2 hg2 hg2b))
 go_step3
 go_wp2_with (first
  | (go_at_call 45; refine (pagesIn_any (b : Int) (p : Int) (s : Int) _ HNb.out.1 HNb.out.2).mono ?_; rintro e u3 ⟨rfl, b3⟩; rw [HNN.out]
     have HR4 : Hid (RdAt u3 B q rest) := HR3.out.below b3
     have HW4 : Hid (w.grownBy u3 (some q)) := grownBy_trans HW3.out (grown_of b3 _)
     have HCX1 : Hid (Cx w.heap.size gb L (.cells #[.int .i64 (b : Int), .int .i64 (p : Int), .int .i64 (s : Int)] 30 (0, 0)) (.slice none 0 0) [] ⟨Pc.z, none, 0, 0⟩ u3) := HCX.out.below b3
     clear b3 a0 a1 a2 a3 a4 a5))
 go_loopg [6, 9] N (fun g s6 s9 wr => Hid (PcInv w B q C S b p s gb L N rest g s6 s9 wr))
 case atStart =>
  refine (show Hid _ from ⟨N, N, [], ⟨Pc.z, none, 0, 0⟩, rest, rfl, Nat.le_refl _, Nat.le_refl _, by simp, hl, HCX1.out, HR4.out, HW4.out, ?_⟩)
  cases rdPs C S N N Pc.z rest with
  | error e => rfl
  | ok x => rfl
 case round =>
  obtain ⟨left, f, es, a, rest', rfl, hlf, hlg, hel, hrl, cx, rd, gr, hpure⟩ := hrel.out
  clear HBX HZP HLT HW1 HR1 HBX1 HZP1 HS1 HCL HR2 HW2 HR3 HW3 HBX2 HZP2 HCX HR4 HW4 HCX1 hrel
  obtain ⟨a0, a1, a2, a3, a4, a5⟩ := blk3_cells cx.box
  obtain ⟨z0, z1, z2, z3, z4, z5⟩ := blk3_cells cx.ah
  have HNT : Hid (¬ Ty5 wr q) := by
   obtain ⟨bb, off, c, h9, _⟩ := rd
   exact not_ty5 h9 (by decide)
  have HX : Hid (Cx w.heap.size gb L (.cells #[.int .i64 (b : Int), .int .i64 (p : Int), .int .i64 (s : Int)] 30 (0, 0)) u6 es a wr) := cx
  have HR : Hid (RdAt wr B q rest') := rd
  have HW : Hid (w.grownBy wr (some q)) := gr
  have HP : Hid (rdPs C S N N Pc.z rest = ext (es.map En.p) (rdPs C S f left a.p rest')) := hpure
  clear cx rd gr hpure
  by_cases h0 : left = 0
  ·subst h0
   go_wp2
   (try rw [Exit.noGoto_ret])
   go_ret2
   rw [HP.out, ext_zero]
   exact ⟨⟨u6, es, rfl, rfl, row_base HX.out.own (by omega), HX.out.oks, HR.out, hrl⟩, HW.out⟩
  ·have d0 : (0 : Int) < (left : Int) := by omega
   obtain ⟨f, rfl⟩ : ∃ f', f = f' + 1 := ⟨f - 1, by omega⟩
   have hbq : q < w.heap.size := hqlt.2
   cases hres : rdPiece C S left rest' with
   | error x =>
    have HRES : Hid (rdPiece C S left rest' = .error x) := hres
    clear hres
    go_wp2_with (first
     | (go_at_call 71; refine (piece_any B q b p s left C S HC.out HS.out rest' _ HR.out hrl hf (by omega) (by omega)).mono ?_; rintro e u1 ⟨res1, g1⟩; rw [HRES.out] at res1; obtain ⟨rfl, hx⟩ := res1
        have hx0 : (x == 0) = false := (by rw [beq_eq_false_iff_ne]; omega)
        have hx1 : ¬ x = 0 := (by omega)
        have HG1 : Hid (w.grownBy u1 (some q)) := grownBy_trans HW.out g1
        clear g1 a0 a1 a2 a3 a4 a5 z0 z1 z2 z3 z4 z5))
    (try rw [Exit.noGoto_ret])
    go_ret2
    rw [HP.out, ext_err h0 HRES.out]
    exact ⟨⟨rfl, hx1⟩, by first | exact grownBy_trans HG1.out (World.grownBy_alloc _ _ _) | exact grown_past (grownBy_trans HG1.out (World.grownBy_alloc _ _ _)) (grown3 _ _ _ _ _) (by have := HG1.out.size; omega)⟩
   | ok pr =>
    obtain ⟨pc, r⟩ := pr
    have HRES : Hid (rdPiece C S left rest' = .ok (pc, r)) := hres
    have hple0 := rdPiece_left hres (by omega)
    have hple : pc.n ≤ left ∧ r.length ≤ rest'.length ∧ pc.k ≤ 2 ∧ 1 ≤ pc.n := hple0
    clear hple0
    clear hres
    obtain ⟨kd, pn, pg⟩ := pc
    obtain ⟨ap, aa, al, ac⟩ := a
    have hk3 := hple.2.2.1
    simp only at hk3 hple
    have a1' := a1
    clear a1
    rcases (show kd = 0 ∨ kd = 1 ∨ kd = 2 by omega) with rfl | rfl | rfl
    ·cases hst : stands ⟨0, pn, pg⟩ ap with
     | false =>
      have HST : Hid (stands ⟨0, pn, pg⟩ ⟨ap.k, ap.n, ap.g⟩ = false) := hst
      have HST2 : Hid (stands ⟨0, pn, pg⟩ ap = false) := hst
      clear hst
      go_wp2_with (first
      | (go_at_call 71; refine (piece_any B q b p s left C S HC.out HS.out rest' _ HR.out hrl hf (by omega) (by omega)).mono ?_; rintro e t1 ⟨res1, g1⟩; rw [HRES.out] at res1; obtain ⟨a1, l1, c1, rfl, pg1, rd1, hk1, hn1, hn2, hl1⟩ := res1
         have HX1 : Hid (Cx w.heap.size gb L (.cells #[.int .i64 (b : Int), .int .i64 (p : Int), .int .i64 (s : Int)] 30 (0, 0)) u6 es ⟨ap, aa, al, ac⟩ t1) := HX.out.kept g1 (fun j e => by have e' := Option.some.inj e; subst e'; exact ⟨by omega, by omega, HNT.out, fun e9 => by have := (HX.out.own.lt _ e9).1; omega⟩)
         have HX2 : Hid (Cx w.heap.size gb L (.cells #[.int .i64 (b : Int), .int .i64 (p : Int), .int .i64 (s : Int)] 30 (0, 0)) u6 es ⟨ap, aa, al, ac⟩ (t1.alloc (.cells #[.int .i64 0, .int .i64 (pn : Int), .slice a1 l1 c1] 135))) := HX1.out.below (below_alloc _ _)
         have HRD2 : Hid (RdAt (t1.alloc (.cells #[.int .i64 0, .int .i64 (pn : Int), .slice a1 l1 c1] 135)) B q r) := rd1.below (below_alloc _ _)
         have HPG2 : Hid (PgAt (t1.alloc (.cells #[.int .i64 0, .int .i64 (pn : Int), .slice a1 l1 c1] 135)) w.heap.size a1 l1 pg) := (pg1.base HW.out.size).below (below_alloc _ _)
         have HNB2 : Hid ((t1.alloc (.cells #[.int .i64 0, .int .i64 (pn : Int), .slice a1 l1 c1] 135)).heap[t1.heap.size]? = some (.cells #[.int .i64 0, .int .i64 (pn : Int), .slice a1 l1 c1] 135 (0, 0))) := heap_alloc_new _ _
         have HG2 : Hid (w.grownBy (t1.alloc (.cells #[.int .i64 0, .int .i64 (pn : Int), .slice a1 l1 c1] 135)) (some q)) := grownBy_trans (grownBy_trans HW.out g1) (World.grownBy_alloc _ _ _)
         have HL1 : Hid (l1 ≤ 4000) := hl1
         have HN2 : Hid (pn ≤ 65535) := hn2
         clear a0 a1' a2 a3 a4 a5 z0 z1 z2 z3 z4 z5 pg1 rd1 g1 hk1 hn1 hn2 hl1
         obtain ⟨z0, z1, z2, z3, z4, z5⟩ := blk3_cells HX2.out.ah
         obtain ⟨y0, y1, y2, y3, y4, y5⟩ := blk3_cells HNB2.out)
      | (go_at_call 72; refine (stands_any 0 pn a1 l1 c1 pg ap.k ap.n aa al ac ap.g _ HPG2.out.reads HX2.out.aok.1.reads HL1.out (by omega) HX2.out.aok.2.2.1).mono ?_; rintro e t2 ⟨rfl, b2⟩; rw [HST.out]
         have HX3 : Hid (Cx w.heap.size gb L (.cells #[.int .i64 (b : Int), .int .i64 (p : Int), .int .i64 (s : Int)] 30 (0, 0)) u6 es ⟨ap, aa, al, ac⟩ t2) := HX2.out.below b2
         have HRD3 : Hid (RdAt t2 B q r) := HRD2.out.below b2
         have HPG3 : Hid (PgAt t2 w.heap.size a1 l1 pg) := HPG2.out.below b2
         have HNB3 : Hid (t2.heap[t1.heap.size]? = some (.cells #[.int .i64 0, .int .i64 (pn : Int), .slice a1 l1 c1] 135 (0, 0))) := (b2.block _ (Array.getElem?_eq_some_iff.1 HNB2.out).1).trans HNB2.out
         have HG3 : Hid (w.grownBy t2 (some q)) := grownBy_trans HG2.out (grown_of b2 _)
         clear b2 z0 z1 z2 z3 z4 z5 y0 y1 y2 y3 y4 y5
         obtain ⟨z0, z1, z2, z3, z4, z5⟩ := blk3_cells HX3.out.ah
         obtain ⟨y0, y1, y2, y3, y4, y5⟩ := blk3_cells HNB3.out))
      (try rw [Exit.noGoto_ret])
      go_ret2
      rw [HP.out, ext_bad h0 HRES.out HST2.out]
      exact ⟨⟨rfl, by decide⟩, HG3.out⟩
     | true =>
      have HST : Hid (stands ⟨0, pn, pg⟩ ⟨ap.k, ap.n, ap.g⟩ = true) := hst
      have HST2 : Hid (stands ⟨0, pn, pg⟩ ap = true) := hst
      clear hst
      have hsub : (left : Int) - (pn : Int) = ((left - pn : Nat) : Int) := by omega
      go_wp2_with (first
      | (go_at_call 71; refine (piece_any B q b p s left C S HC.out HS.out rest' _ HR.out hrl hf (by omega) (by omega)).mono ?_; rintro e t1 ⟨res1, g1⟩; rw [HRES.out] at res1; obtain ⟨a1, l1, c1, rfl, pg1, rd1, hk1, hn1, hn2, hl1⟩ := res1
         have HX1 : Hid (Cx w.heap.size gb L (.cells #[.int .i64 (b : Int), .int .i64 (p : Int), .int .i64 (s : Int)] 30 (0, 0)) u6 es ⟨ap, aa, al, ac⟩ t1) := HX.out.kept g1 (fun j e => by have e' := Option.some.inj e; subst e'; exact ⟨by omega, by omega, HNT.out, fun e9 => by have := (HX.out.own.lt _ e9).1; omega⟩)
         have HX2 : Hid (Cx w.heap.size gb L (.cells #[.int .i64 (b : Int), .int .i64 (p : Int), .int .i64 (s : Int)] 30 (0, 0)) u6 es ⟨ap, aa, al, ac⟩ (t1.alloc (.cells #[.int .i64 0, .int .i64 (pn : Int), .slice a1 l1 c1] 135))) := HX1.out.below (below_alloc _ _)
         have HRD2 : Hid (RdAt (t1.alloc (.cells #[.int .i64 0, .int .i64 (pn : Int), .slice a1 l1 c1] 135)) B q r) := rd1.below (below_alloc _ _)
         have HPG2 : Hid (PgAt (t1.alloc (.cells #[.int .i64 0, .int .i64 (pn : Int), .slice a1 l1 c1] 135)) w.heap.size a1 l1 pg) := (pg1.base HW.out.size).below (below_alloc _ _)
         have HNB2 : Hid ((t1.alloc (.cells #[.int .i64 0, .int .i64 (pn : Int), .slice a1 l1 c1] 135)).heap[t1.heap.size]? = some (.cells #[.int .i64 0, .int .i64 (pn : Int), .slice a1 l1 c1] 135 (0, 0))) := heap_alloc_new _ _
         have HG2 : Hid (w.grownBy (t1.alloc (.cells #[.int .i64 0, .int .i64 (pn : Int), .slice a1 l1 c1] 135)) (some q)) := grownBy_trans (grownBy_trans HW.out g1) (World.grownBy_alloc _ _ _)
         have HL1 : Hid (l1 ≤ 4000) := hl1
         have HN2 : Hid (pn ≤ 65535) := hn2
         clear a0 a1' a2 a3 a4 a5 z0 z1 z2 z3 z4 z5 pg1 rd1 g1 hk1 hn1 hn2 hl1
         obtain ⟨z0, z1, z2, z3, z4, z5⟩ := blk3_cells HX2.out.ah
         obtain ⟨y0, y1, y2, y3, y4, y5⟩ := blk3_cells HNB2.out)
      | (go_at_call 72; refine (stands_any 0 pn a1 l1 c1 pg ap.k ap.n aa al ac ap.g _ HPG2.out.reads HX2.out.aok.1.reads HL1.out (by omega) HX2.out.aok.2.2.1).mono ?_; rintro e t2 ⟨rfl, b2⟩; rw [HST.out]
         have HX3 : Hid (Cx w.heap.size gb L (.cells #[.int .i64 (b : Int), .int .i64 (p : Int), .int .i64 (s : Int)] 30 (0, 0)) u6 es ⟨ap, aa, al, ac⟩ t2) := HX2.out.below b2
         have HRD3 : Hid (RdAt t2 B q r) := HRD2.out.below b2
         have HPG3 : Hid (PgAt t2 w.heap.size a1 l1 pg) := HPG2.out.below b2
         have HNB3 : Hid (t2.heap[t1.heap.size]? = some (.cells #[.int .i64 0, .int .i64 (pn : Int), .slice a1 l1 c1] 135 (0, 0))) := (b2.block _ (Array.getElem?_eq_some_iff.1 HNB2.out).1).trans HNB2.out
         have HG3 : Hid (w.grownBy t2 (some q)) := grownBy_trans HG2.out (grown_of b2 _)
         clear b2 z0 z1 z2 z3 z4 z5 y0 y1 y2 y3 y4 y5
         obtain ⟨z0, z1, z2, z3, z4, z5⟩ := blk3_cells HX3.out.ah
         obtain ⟨y0, y1, y2, y3, y4, y5⟩ := blk3_cells HNB3.out
         have HX4 : Hid (Cx w.heap.size gb L (.cells #[.int .i64 (b : Int), .int .i64 (p : Int), .int .i64 (s : Int)] 30 (0, 0)) u6 es ⟨⟨0, pn, List.replicate L 255⟩, some ⟨gb, 0, none⟩, L, L⟩ (((t2.setCell ⟨w.heap.size + 1, 0, none⟩ (.int .i64 0)).setCell ⟨w.heap.size + 1, 1, none⟩ (.int .i64 (pn : Int))).setCell ⟨w.heap.size + 1, 2, none⟩ (.slice (some ⟨gb, 0, none⟩) L L))) := HX3.out.ahead ⟨⟨0, pn, List.replicate L 255⟩, some ⟨gb, 0, none⟩, L, L⟩ ⟨HX3.out.blank, hL8.2, by simp, by have := HN2.out; simp; omega⟩
         have HX5 : Hid (Cx w.heap.size gb L (.cells #[.int .i64 (b : Int), .int .i64 (p : Int), .int .i64 (s : Int)] 30 (0, 0)) u6 es ⟨⟨0, pn, List.replicate L 255⟩, some ⟨gb, 0, none⟩, L, L⟩ ((((t2.setCell ⟨w.heap.size + 1, 0, none⟩ (.int .i64 0)).setCell ⟨w.heap.size + 1, 1, none⟩ (.int .i64 (pn : Int))).setCell ⟨w.heap.size + 1, 2, none⟩ (.slice (some ⟨gb, 0, none⟩) L L)).alloc (.cells #[.int .i64 0, .int .i64 (pn : Int), .slice (some ⟨gb, 0, none⟩) L L] 135))) := HX4.out.below (below_alloc _ _)
         have HNW : Hid (∀ j v, (⟨⟨0, pn, List.replicate L 255⟩, some ⟨gb, 0, none⟩, L, L⟩ : En).cells[j]? = some v → ((((t2.setCell ⟨w.heap.size + 1, 0, none⟩ (.int .i64 0)).setCell ⟨w.heap.size + 1, 1, none⟩ (.int .i64 (pn : Int))).setCell ⟨w.heap.size + 1, 2, none⟩ (.slice (some ⟨gb, 0, none⟩) L L)).alloc (.cells #[.int .i64 0, .int .i64 (pn : Int), .slice (some ⟨gb, 0, none⟩) L L] 135)).cell? ((⟨t2.heap.size, 0, none⟩ : Addr).add j) = some v) := by
          have h9 := lit3_news (((t2.setCell ⟨w.heap.size + 1, 0, none⟩ (.int .i64 0)).setCell ⟨w.heap.size + 1, 1, none⟩ (.int .i64 (pn : Int))).setCell ⟨w.heap.size + 1, 2, none⟩ (.slice (some ⟨gb, 0, none⟩) L L)) ⟨⟨0, pn, List.replicate L 255⟩, some ⟨gb, 0, none⟩, L, L⟩
          have h8 : (((t2.setCell ⟨w.heap.size + 1, 0, none⟩ (.int .i64 0)).setCell ⟨w.heap.size + 1, 1, none⟩ (.int .i64 (pn : Int))).setCell ⟨w.heap.size + 1, 2, none⟩ (.slice (some ⟨gb, 0, none⟩) L L)).heap.size = t2.heap.size := by simp
          rw [h8] at h9
          exact h9
         have HSZ : Hid (w.heap.size + 2 ≤ t2.heap.size) := (Array.getElem?_eq_some_iff.1 HX3.out.ah).1
         obtain ⟨x0, x1, x2, x3, x4, x5⟩ := blk3_cells HX4.out.ah)
      | (at_builtin; refine wpList_append_own ((((t2.setCell ⟨w.heap.size + 1, 0, none⟩ (.int .i64 0)).setCell ⟨w.heap.size + 1, 1, none⟩ (.int .i64 (pn : Int))).setCell ⟨w.heap.size + 1, 2, none⟩ (.slice (some ⟨gb, 0, none⟩) L L)).alloc (.cells #[.int .i64 0, .int .i64 (pn : Int), .slice (some ⟨gb, 0, none⟩) L L] 135)) rfl (.tmp 50) (.tmp 52) 99 rfl (w.heap.size + 2) 135 i0 _ 3 40 Tryd.underlying99 HI.out.1 HI.out.2.1 HI.out.2.2.1 HI.out.2.2.2 rfl (by decide) u6 es.length (flatE es) rfl HX5.out.own ⟨t2.heap.size, 0, none⟩ 1 1 (⟨⟨0, pn, List.replicate L 255⟩, some ⟨gb, 0, none⟩, L, L⟩ : En).cells rfl (by simp [En.cells]) HNW.out (cells3_one _) (by simp only [maxLen]; omega) (by omega) (by have := HSZ.out; simp; omega) ?_; intro v4 t4 own4 grow4 _h4
         have HX6 : Hid (Cx w.heap.size gb L (.cells #[.int .i64 (b : Int), .int .i64 (p : Int), .int .i64 (s : Int)] 30 (0, 0)) v4 (es ++ [⟨⟨0, pn, List.replicate L 255⟩, some ⟨gb, 0, none⟩, L, L⟩]) ⟨⟨0, pn, List.replicate L 255⟩, some ⟨gb, 0, none⟩, L, L⟩ t4) := HX5.out.push grow4 own4
         have HRD4 : Hid (RdAt t4 B q r) := ((HRD3.out.other (grown3 t2 (w.heap.size + 1) (.int .i64 0) (.int .i64 (pn : Int)) (.slice (some ⟨gb, 0, none⟩) L L)) (fun e => by have e' := Option.some.inj e; omega) (fun k e => by have e' := Option.some.inj e; omega)).below (below_alloc _ _)).other grow4 (fun e => by have := (HX5.out.own.lt _ e).1; omega) (fun k e => by have := (HX5.out.own.lt _ e).1; omega)
         have HG4 : Hid (w.grownBy t4 (some q)) := by
          have g9 := grownBy_trans (grown_past HG3.out (grown3 t2 (w.heap.size + 1) (.int .i64 0) (.int .i64 (pn : Int)) (.slice (some ⟨gb, 0, none⟩) L L)) (by omega)) (World.grownBy_alloc _ (.cells #[.int .i64 0, .int .i64 (pn : Int), .slice (some ⟨gb, 0, none⟩) L L] 135) (some q))
          have gr4 := grow4
          cases hv : u6.ownBlock with
          | none => rw [hv] at gr4; exact grownBy_trans g9 (grown_of (below_of gr4) _)
          | some k => rw [hv] at gr4; exact grown_past g9 gr4 (by have := (HX5.out.own.lt _ hv).1; omega)
         clear own4 grow4 z0 z1 z2 z3 z4 z5 y0 y1 y2 y3 y4 y5 x0 x1 x2 x3 x4 x5
         obtain ⟨z0, z1, z2, z3, z4, z5⟩ := blk3_cells HX6.out.ah))
      go_roundg (left - pn)
      case measure => omega
      case rel =>
       refine (show Hid _ from ⟨left - pn, f, es ++ [⟨⟨0, pn, List.replicate L 255⟩, some ⟨gb, 0, none⟩, L, L⟩], ⟨⟨0, pn, List.replicate L 255⟩, some ⟨gb, 0, none⟩, L, L⟩, r, ?_, by omega, Nat.le_refl _, by simp; omega, by omega, HX6.out, HRD4.out, HG4.out, ?_⟩)
       ·first | rfl | (congr 1; rw [IntKind.wrap_i64]; omega)
       ·have e9 : fillP (C + S) ap ⟨0, pn, pg⟩ = (⟨⟨0, pn, List.replicate L 255⟩, some ⟨gb, 0, none⟩, L, L⟩ : En).p := by simp [fillP, HL.out]
        rw [HP.out, ext_step h0 HRES.out HST2.out, e9]
        simp
    ·cases hst : stands ⟨1, pn, pg⟩ ap with
     | false =>
      have HST : Hid (stands ⟨1, pn, pg⟩ ⟨ap.k, ap.n, ap.g⟩ = false) := hst
      have HST2 : Hid (stands ⟨1, pn, pg⟩ ap = false) := hst
      clear hst
      go_wp2_with (first
      | (go_at_call 71; refine (piece_any B q b p s left C S HC.out HS.out rest' _ HR.out hrl hf (by omega) (by omega)).mono ?_; rintro e t1 ⟨res1, g1⟩; rw [HRES.out] at res1; obtain ⟨a1, l1, c1, rfl, pg1, rd1, hk1, hn1, hn2, hl1⟩ := res1
         have HX1 : Hid (Cx w.heap.size gb L (.cells #[.int .i64 (b : Int), .int .i64 (p : Int), .int .i64 (s : Int)] 30 (0, 0)) u6 es ⟨ap, aa, al, ac⟩ t1) := HX.out.kept g1 (fun j e => by have e' := Option.some.inj e; subst e'; exact ⟨by omega, by omega, HNT.out, fun e9 => by have := (HX.out.own.lt _ e9).1; omega⟩)
         have HX2 : Hid (Cx w.heap.size gb L (.cells #[.int .i64 (b : Int), .int .i64 (p : Int), .int .i64 (s : Int)] 30 (0, 0)) u6 es ⟨ap, aa, al, ac⟩ (t1.alloc (.cells #[.int .i64 1, .int .i64 (pn : Int), .slice a1 l1 c1] 135))) := HX1.out.below (below_alloc _ _)
         have HRD2 : Hid (RdAt (t1.alloc (.cells #[.int .i64 1, .int .i64 (pn : Int), .slice a1 l1 c1] 135)) B q r) := rd1.below (below_alloc _ _)
         have HPG2 : Hid (PgAt (t1.alloc (.cells #[.int .i64 1, .int .i64 (pn : Int), .slice a1 l1 c1] 135)) w.heap.size a1 l1 pg) := (pg1.base HW.out.size).below (below_alloc _ _)
         have HNB2 : Hid ((t1.alloc (.cells #[.int .i64 1, .int .i64 (pn : Int), .slice a1 l1 c1] 135)).heap[t1.heap.size]? = some (.cells #[.int .i64 1, .int .i64 (pn : Int), .slice a1 l1 c1] 135 (0, 0))) := heap_alloc_new _ _
         have HG2 : Hid (w.grownBy (t1.alloc (.cells #[.int .i64 1, .int .i64 (pn : Int), .slice a1 l1 c1] 135)) (some q)) := grownBy_trans (grownBy_trans HW.out g1) (World.grownBy_alloc _ _ _)
         have HL1 : Hid (l1 ≤ 4000) := hl1
         have HN2 : Hid (pn ≤ 65535) := hn2
         clear a0 a1' a2 a3 a4 a5 z0 z1 z2 z3 z4 z5 pg1 rd1 g1 hk1 hn1 hn2 hl1
         obtain ⟨z0, z1, z2, z3, z4, z5⟩ := blk3_cells HX2.out.ah
         obtain ⟨y0, y1, y2, y3, y4, y5⟩ := blk3_cells HNB2.out)
      | (go_at_call 72; refine (stands_any 1 pn a1 l1 c1 pg ap.k ap.n aa al ac ap.g _ HPG2.out.reads HX2.out.aok.1.reads HL1.out (by omega) HX2.out.aok.2.2.1).mono ?_; rintro e t2 ⟨rfl, b2⟩; rw [HST.out]
         have HX3 : Hid (Cx w.heap.size gb L (.cells #[.int .i64 (b : Int), .int .i64 (p : Int), .int .i64 (s : Int)] 30 (0, 0)) u6 es ⟨ap, aa, al, ac⟩ t2) := HX2.out.below b2
         have HRD3 : Hid (RdAt t2 B q r) := HRD2.out.below b2
         have HPG3 : Hid (PgAt t2 w.heap.size a1 l1 pg) := HPG2.out.below b2
         have HNB3 : Hid (t2.heap[t1.heap.size]? = some (.cells #[.int .i64 1, .int .i64 (pn : Int), .slice a1 l1 c1] 135 (0, 0))) := (b2.block _ (Array.getElem?_eq_some_iff.1 HNB2.out).1).trans HNB2.out
         have HG3 : Hid (w.grownBy t2 (some q)) := grownBy_trans HG2.out (grown_of b2 _)
         clear b2 z0 z1 z2 z3 z4 z5 y0 y1 y2 y3 y4 y5
         obtain ⟨z0, z1, z2, z3, z4, z5⟩ := blk3_cells HX3.out.ah
         obtain ⟨y0, y1, y2, y3, y4, y5⟩ := blk3_cells HNB3.out))
      (try rw [Exit.noGoto_ret])
      go_ret2
      rw [HP.out, ext_bad h0 HRES.out HST2.out]
      exact ⟨⟨rfl, by decide⟩, HG3.out⟩
     | true =>
      have HST : Hid (stands ⟨1, pn, pg⟩ ⟨ap.k, ap.n, ap.g⟩ = true) := hst
      have HST2 : Hid (stands ⟨1, pn, pg⟩ ap = true) := hst
      clear hst
      have hsub : (left : Int) - (pn : Int) = ((left - pn : Nat) : Int) := by omega
      go_wp2_with (first
      | (go_at_call 71; refine (piece_any B q b p s left C S HC.out HS.out rest' _ HR.out hrl hf (by omega) (by omega)).mono ?_; rintro e t1 ⟨res1, g1⟩; rw [HRES.out] at res1; obtain ⟨a1, l1, c1, rfl, pg1, rd1, hk1, hn1, hn2, hl1⟩ := res1
         have HX1 : Hid (Cx w.heap.size gb L (.cells #[.int .i64 (b : Int), .int .i64 (p : Int), .int .i64 (s : Int)] 30 (0, 0)) u6 es ⟨ap, aa, al, ac⟩ t1) := HX.out.kept g1 (fun j e => by have e' := Option.some.inj e; subst e'; exact ⟨by omega, by omega, HNT.out, fun e9 => by have := (HX.out.own.lt _ e9).1; omega⟩)
         have HX2 : Hid (Cx w.heap.size gb L (.cells #[.int .i64 (b : Int), .int .i64 (p : Int), .int .i64 (s : Int)] 30 (0, 0)) u6 es ⟨ap, aa, al, ac⟩ (t1.alloc (.cells #[.int .i64 1, .int .i64 (pn : Int), .slice a1 l1 c1] 135))) := HX1.out.below (below_alloc _ _)
         have HRD2 : Hid (RdAt (t1.alloc (.cells #[.int .i64 1, .int .i64 (pn : Int), .slice a1 l1 c1] 135)) B q r) := rd1.below (below_alloc _ _)
         have HPG2 : Hid (PgAt (t1.alloc (.cells #[.int .i64 1, .int .i64 (pn : Int), .slice a1 l1 c1] 135)) w.heap.size a1 l1 pg) := (pg1.base HW.out.size).below (below_alloc _ _)
         have HNB2 : Hid ((t1.alloc (.cells #[.int .i64 1, .int .i64 (pn : Int), .slice a1 l1 c1] 135)).heap[t1.heap.size]? = some (.cells #[.int .i64 1, .int .i64 (pn : Int), .slice a1 l1 c1] 135 (0, 0))) := heap_alloc_new _ _
         have HG2 : Hid (w.grownBy (t1.alloc (.cells #[.int .i64 1, .int .i64 (pn : Int), .slice a1 l1 c1] 135)) (some q)) := grownBy_trans (grownBy_trans HW.out g1) (World.grownBy_alloc _ _ _)
         have HL1 : Hid (l1 ≤ 4000) := hl1
         have HN2 : Hid (pn ≤ 65535) := hn2
         clear a0 a1' a2 a3 a4 a5 z0 z1 z2 z3 z4 z5 pg1 rd1 g1 hk1 hn1 hn2 hl1
         obtain ⟨z0, z1, z2, z3, z4, z5⟩ := blk3_cells HX2.out.ah
         obtain ⟨y0, y1, y2, y3, y4, y5⟩ := blk3_cells HNB2.out)
      | (go_at_call 72; refine (stands_any 1 pn a1 l1 c1 pg ap.k ap.n aa al ac ap.g _ HPG2.out.reads HX2.out.aok.1.reads HL1.out (by omega) HX2.out.aok.2.2.1).mono ?_; rintro e t2 ⟨rfl, b2⟩; rw [HST.out]
         have HX3 : Hid (Cx w.heap.size gb L (.cells #[.int .i64 (b : Int), .int .i64 (p : Int), .int .i64 (s : Int)] 30 (0, 0)) u6 es ⟨ap, aa, al, ac⟩ t2) := HX2.out.below b2
         have HRD3 : Hid (RdAt t2 B q r) := HRD2.out.below b2
         have HPG3 : Hid (PgAt t2 w.heap.size a1 l1 pg) := HPG2.out.below b2
         have HNB3 : Hid (t2.heap[t1.heap.size]? = some (.cells #[.int .i64 1, .int .i64 (pn : Int), .slice a1 l1 c1] 135 (0, 0))) := (b2.block _ (Array.getElem?_eq_some_iff.1 HNB2.out).1).trans HNB2.out
         have HG3 : Hid (w.grownBy t2 (some q)) := grownBy_trans HG2.out (grown_of b2 _)
         clear b2 z0 z1 z2 z3 z4 z5 y0 y1 y2 y3 y4 y5
         obtain ⟨z0, z1, z2, z3, z4, z5⟩ := blk3_cells HX3.out.ah
         obtain ⟨y0, y1, y2, y3, y4, y5⟩ := blk3_cells HNB3.out
         have HX4 : Hid (Cx w.heap.size gb L (.cells #[.int .i64 (b : Int), .int .i64 (p : Int), .int .i64 (s : Int)] 30 (0, 0)) u6 es ⟨⟨1, pn, pg⟩, a1, l1, c1⟩ (((t2.setCell ⟨w.heap.size + 1, 0, none⟩ (.int .i64 1)).setCell ⟨w.heap.size + 1, 1, none⟩ (.int .i64 (pn : Int))).setCell ⟨w.heap.size + 1, 2, none⟩ (.slice a1 l1 c1))) := HX3.out.ahead ⟨⟨1, pn, pg⟩, a1, l1, c1⟩ ⟨HPG3.out, HL1.out, by simp, by have := HN2.out; simp; omega⟩
         have HX5 : Hid (Cx w.heap.size gb L (.cells #[.int .i64 (b : Int), .int .i64 (p : Int), .int .i64 (s : Int)] 30 (0, 0)) u6 es ⟨⟨1, pn, pg⟩, a1, l1, c1⟩ ((((t2.setCell ⟨w.heap.size + 1, 0, none⟩ (.int .i64 1)).setCell ⟨w.heap.size + 1, 1, none⟩ (.int .i64 (pn : Int))).setCell ⟨w.heap.size + 1, 2, none⟩ (.slice a1 l1 c1)).alloc (.cells #[.int .i64 1, .int .i64 (pn : Int), .slice a1 l1 c1] 135))) := HX4.out.below (below_alloc _ _)
         have HNW : Hid (∀ j v, (⟨⟨1, pn, pg⟩, a1, l1, c1⟩ : En).cells[j]? = some v → ((((t2.setCell ⟨w.heap.size + 1, 0, none⟩ (.int .i64 1)).setCell ⟨w.heap.size + 1, 1, none⟩ (.int .i64 (pn : Int))).setCell ⟨w.heap.size + 1, 2, none⟩ (.slice a1 l1 c1)).alloc (.cells #[.int .i64 1, .int .i64 (pn : Int), .slice a1 l1 c1] 135)).cell? ((⟨t2.heap.size, 0, none⟩ : Addr).add j) = some v) := by
          have h9 := lit3_news (((t2.setCell ⟨w.heap.size + 1, 0, none⟩ (.int .i64 1)).setCell ⟨w.heap.size + 1, 1, none⟩ (.int .i64 (pn : Int))).setCell ⟨w.heap.size + 1, 2, none⟩ (.slice a1 l1 c1)) ⟨⟨1, pn, pg⟩, a1, l1, c1⟩
          have h8 : (((t2.setCell ⟨w.heap.size + 1, 0, none⟩ (.int .i64 1)).setCell ⟨w.heap.size + 1, 1, none⟩ (.int .i64 (pn : Int))).setCell ⟨w.heap.size + 1, 2, none⟩ (.slice a1 l1 c1)).heap.size = t2.heap.size := by simp
          rw [h8] at h9
          exact h9
         have HSZ : Hid (w.heap.size + 2 ≤ t2.heap.size) := (Array.getElem?_eq_some_iff.1 HX3.out.ah).1
         obtain ⟨x0, x1, x2, x3, x4, x5⟩ := blk3_cells HX4.out.ah)
      | (at_builtin; refine wpList_append_own ((((t2.setCell ⟨w.heap.size + 1, 0, none⟩ (.int .i64 1)).setCell ⟨w.heap.size + 1, 1, none⟩ (.int .i64 (pn : Int))).setCell ⟨w.heap.size + 1, 2, none⟩ (.slice a1 l1 c1)).alloc (.cells #[.int .i64 1, .int .i64 (pn : Int), .slice a1 l1 c1] 135)) rfl (.tmp 66) (.tmp 68) 99 rfl (w.heap.size + 2) 135 i0 _ 3 40 Tryd.underlying99 HI.out.1 HI.out.2.1 HI.out.2.2.1 HI.out.2.2.2 rfl (by decide) u6 es.length (flatE es) rfl HX5.out.own ⟨t2.heap.size, 0, none⟩ 1 1 (⟨⟨1, pn, pg⟩, a1, l1, c1⟩ : En).cells rfl (by simp [En.cells]) HNW.out (cells3_one _) (by simp only [maxLen]; omega) (by omega) (by have := HSZ.out; simp; omega) ?_; intro v4 t4 own4 grow4 _h4
         have HX6 : Hid (Cx w.heap.size gb L (.cells #[.int .i64 (b : Int), .int .i64 (p : Int), .int .i64 (s : Int)] 30 (0, 0)) v4 (es ++ [⟨⟨1, pn, pg⟩, a1, l1, c1⟩]) ⟨⟨1, pn, pg⟩, a1, l1, c1⟩ t4) := HX5.out.push grow4 own4
         have HRD4 : Hid (RdAt t4 B q r) := ((HRD3.out.other (grown3 t2 (w.heap.size + 1) (.int .i64 1) (.int .i64 (pn : Int)) (.slice a1 l1 c1)) (fun e => by have e' := Option.some.inj e; omega) (fun k e => by have e' := Option.some.inj e; omega)).below (below_alloc _ _)).other grow4 (fun e => by have := (HX5.out.own.lt _ e).1; omega) (fun k e => by have := (HX5.out.own.lt _ e).1; omega)
         have HG4 : Hid (w.grownBy t4 (some q)) := by
          have g9 := grownBy_trans (grown_past HG3.out (grown3 t2 (w.heap.size + 1) (.int .i64 1) (.int .i64 (pn : Int)) (.slice a1 l1 c1)) (by omega)) (World.grownBy_alloc _ (.cells #[.int .i64 1, .int .i64 (pn : Int), .slice a1 l1 c1] 135) (some q))
          have gr4 := grow4
          cases hv : u6.ownBlock with
          | none => rw [hv] at gr4; exact grownBy_trans g9 (grown_of (below_of gr4) _)
          | some k => rw [hv] at gr4; exact grown_past g9 gr4 (by have := (HX5.out.own.lt _ hv).1; omega)
         clear own4 grow4 z0 z1 z2 z3 z4 z5 y0 y1 y2 y3 y4 y5 x0 x1 x2 x3 x4 x5
         obtain ⟨z0, z1, z2, z3, z4, z5⟩ := blk3_cells HX6.out.ah))
      go_roundg (left - pn)
      case measure => omega
      case rel =>
       refine (show Hid _ from ⟨left - pn, f, es ++ [⟨⟨1, pn, pg⟩, a1, l1, c1⟩], ⟨⟨1, pn, pg⟩, a1, l1, c1⟩, r, ?_, by omega, Nat.le_refl _, by simp; omega, by omega, HX6.out, HRD4.out, HG4.out, ?_⟩)
       ·first | rfl | (congr 1; rw [IntKind.wrap_i64]; omega)
       ·have e9 : fillP (C + S) ap ⟨1, pn, pg⟩ = (⟨⟨1, pn, pg⟩, a1, l1, c1⟩ : En).p := by simp [fillP]
        rw [HP.out, ext_step h0 HRES.out HST2.out, e9]
        simp
    ·cases hst : stands ⟨2, pn, pg⟩ ap with
     | false =>
      have HST : Hid (stands ⟨2, pn, pg⟩ ⟨ap.k, ap.n, ap.g⟩ = false) := hst
      have HST2 : Hid (stands ⟨2, pn, pg⟩ ap = false) := hst
      clear hst
      go_wp2_with (first
      | (go_at_call 71; refine (piece_any B q b p s left C S HC.out HS.out rest' _ HR.out hrl hf (by omega) (by omega)).mono ?_; rintro e t1 ⟨res1, g1⟩; rw [HRES.out] at res1; obtain ⟨a1, l1, c1, rfl, pg1, rd1, hk1, hn1, hn2, hl1⟩ := res1
         have HX1 : Hid (Cx w.heap.size gb L (.cells #[.int .i64 (b : Int), .int .i64 (p : Int), .int .i64 (s : Int)] 30 (0, 0)) u6 es ⟨ap, aa, al, ac⟩ t1) := HX.out.kept g1 (fun j e => by have e' := Option.some.inj e; subst e'; exact ⟨by omega, by omega, HNT.out, fun e9 => by have := (HX.out.own.lt _ e9).1; omega⟩)
         have HX2 : Hid (Cx w.heap.size gb L (.cells #[.int .i64 (b : Int), .int .i64 (p : Int), .int .i64 (s : Int)] 30 (0, 0)) u6 es ⟨ap, aa, al, ac⟩ (t1.alloc (.cells #[.int .i64 2, .int .i64 (pn : Int), .slice a1 l1 c1] 135))) := HX1.out.below (below_alloc _ _)
         have HRD2 : Hid (RdAt (t1.alloc (.cells #[.int .i64 2, .int .i64 (pn : Int), .slice a1 l1 c1] 135)) B q r) := rd1.below (below_alloc _ _)
         have HPG2 : Hid (PgAt (t1.alloc (.cells #[.int .i64 2, .int .i64 (pn : Int), .slice a1 l1 c1] 135)) w.heap.size a1 l1 pg) := (pg1.base HW.out.size).below (below_alloc _ _)
         have HNB2 : Hid ((t1.alloc (.cells #[.int .i64 2, .int .i64 (pn : Int), .slice a1 l1 c1] 135)).heap[t1.heap.size]? = some (.cells #[.int .i64 2, .int .i64 (pn : Int), .slice a1 l1 c1] 135 (0, 0))) := heap_alloc_new _ _
         have HG2 : Hid (w.grownBy (t1.alloc (.cells #[.int .i64 2, .int .i64 (pn : Int), .slice a1 l1 c1] 135)) (some q)) := grownBy_trans (grownBy_trans HW.out g1) (World.grownBy_alloc _ _ _)
         have HL1 : Hid (l1 ≤ 4000) := hl1
         have HN2 : Hid (pn ≤ 65535) := hn2
         clear a0 a1' a2 a3 a4 a5 z0 z1 z2 z3 z4 z5 pg1 rd1 g1 hk1 hn1 hn2 hl1
         obtain ⟨z0, z1, z2, z3, z4, z5⟩ := blk3_cells HX2.out.ah
         obtain ⟨y0, y1, y2, y3, y4, y5⟩ := blk3_cells HNB2.out)
      | (go_at_call 72; refine (stands_any 2 pn a1 l1 c1 pg ap.k ap.n aa al ac ap.g _ HPG2.out.reads HX2.out.aok.1.reads HL1.out (by omega) HX2.out.aok.2.2.1).mono ?_; rintro e t2 ⟨rfl, b2⟩; rw [HST.out]
         have HX3 : Hid (Cx w.heap.size gb L (.cells #[.int .i64 (b : Int), .int .i64 (p : Int), .int .i64 (s : Int)] 30 (0, 0)) u6 es ⟨ap, aa, al, ac⟩ t2) := HX2.out.below b2
         have HRD3 : Hid (RdAt t2 B q r) := HRD2.out.below b2
         have HPG3 : Hid (PgAt t2 w.heap.size a1 l1 pg) := HPG2.out.below b2
         have HNB3 : Hid (t2.heap[t1.heap.size]? = some (.cells #[.int .i64 2, .int .i64 (pn : Int), .slice a1 l1 c1] 135 (0, 0))) := (b2.block _ (Array.getElem?_eq_some_iff.1 HNB2.out).1).trans HNB2.out
         have HG3 : Hid (w.grownBy t2 (some q)) := grownBy_trans HG2.out (grown_of b2 _)
         clear b2 z0 z1 z2 z3 z4 z5 y0 y1 y2 y3 y4 y5
         obtain ⟨z0, z1, z2, z3, z4, z5⟩ := blk3_cells HX3.out.ah
         obtain ⟨y0, y1, y2, y3, y4, y5⟩ := blk3_cells HNB3.out))
      (try rw [Exit.noGoto_ret])
      go_ret2
      rw [HP.out, ext_bad h0 HRES.out HST2.out]
      exact ⟨⟨rfl, by decide⟩, HG3.out⟩
     | true =>
      have HST : Hid (stands ⟨2, pn, pg⟩ ⟨ap.k, ap.n, ap.g⟩ = true) := hst
      have HST2 : Hid (stands ⟨2, pn, pg⟩ ap = true) := hst
      clear hst
      have hsub : (left : Int) - (pn : Int) = ((left - pn : Nat) : Int) := by omega
      go_wp2_with (first
      | (go_at_call 71; refine (piece_any B q b p s left C S HC.out HS.out rest' _ HR.out hrl hf (by omega) (by omega)).mono ?_; rintro e t1 ⟨res1, g1⟩; rw [HRES.out] at res1; obtain ⟨a1, l1, c1, rfl, pg1, rd1, hk1, hn1, hn2, hl1⟩ := res1
         have HX1 : Hid (Cx w.heap.size gb L (.cells #[.int .i64 (b : Int), .int .i64 (p : Int), .int .i64 (s : Int)] 30 (0, 0)) u6 es ⟨ap, aa, al, ac⟩ t1) := HX.out.kept g1 (fun j e => by have e' := Option.some.inj e; subst e'; exact ⟨by omega, by omega, HNT.out, fun e9 => by have := (HX.out.own.lt _ e9).1; omega⟩)
         have HX2 : Hid (Cx w.heap.size gb L (.cells #[.int .i64 (b : Int), .int .i64 (p : Int), .int .i64 (s : Int)] 30 (0, 0)) u6 es ⟨ap, aa, al, ac⟩ (t1.alloc (.cells #[.int .i64 2, .int .i64 (pn : Int), .slice a1 l1 c1] 135))) := HX1.out.below (below_alloc _ _)
         have HRD2 : Hid (RdAt (t1.alloc (.cells #[.int .i64 2, .int .i64 (pn : Int), .slice a1 l1 c1] 135)) B q r) := rd1.below (below_alloc _ _)
         have HPG2 : Hid (PgAt (t1.alloc (.cells #[.int .i64 2, .int .i64 (pn : Int), .slice a1 l1 c1] 135)) w.heap.size a1 l1 pg) := (pg1.base HW.out.size).below (below_alloc _ _)
         have HNB2 : Hid ((t1.alloc (.cells #[.int .i64 2, .int .i64 (pn : Int), .slice a1 l1 c1] 135)).heap[t1.heap.size]? = some (.cells #[.int .i64 2, .int .i64 (pn : Int), .slice a1 l1 c1] 135 (0, 0))) := heap_alloc_new _ _
         have HG2 : Hid (w.grownBy (t1.alloc (.cells #[.int .i64 2, .int .i64 (pn : Int), .slice a1 l1 c1] 135)) (some q)) := grownBy_trans (grownBy_trans HW.out g1) (World.grownBy_alloc _ _ _)
         have HL1 : Hid (l1 ≤ 4000) := hl1
         have HN2 : Hid (pn ≤ 65535) := hn2
         clear a0 a1' a2 a3 a4 a5 z0 z1 z2 z3 z4 z5 pg1 rd1 g1 hk1 hn1 hn2 hl1
         obtain ⟨z0, z1, z2, z3, z4, z5⟩ := blk3_cells HX2.out.ah
         obtain ⟨y0, y1, y2, y3, y4, y5⟩ := blk3_cells HNB2.out)
      | (go_at_call 72; refine (stands_any 2 pn a1 l1 c1 pg ap.k ap.n aa al ac ap.g _ HPG2.out.reads HX2.out.aok.1.reads HL1.out (by omega) HX2.out.aok.2.2.1).mono ?_; rintro e t2 ⟨rfl, b2⟩; rw [HST.out]
         have HX3 : Hid (Cx w.heap.size gb L (.cells #[.int .i64 (b : Int), .int .i64 (p : Int), .int .i64 (s : Int)] 30 (0, 0)) u6 es ⟨ap, aa, al, ac⟩ t2) := HX2.out.below b2
         have HRD3 : Hid (RdAt t2 B q r) := HRD2.out.below b2
         have HPG3 : Hid (PgAt t2 w.heap.size a1 l1 pg) := HPG2.out.below b2
         have HNB3 : Hid (t2.heap[t1.heap.size]? = some (.cells #[.int .i64 2, .int .i64 (pn : Int), .slice a1 l1 c1] 135 (0, 0))) := (b2.block _ (Array.getElem?_eq_some_iff.1 HNB2.out).1).trans HNB2.out
         have HG3 : Hid (w.grownBy t2 (some q)) := grownBy_trans HG2.out (grown_of b2 _)
         clear b2 z0 z1 z2 z3 z4 z5 y0 y1 y2 y3 y4 y5
         obtain ⟨z0, z1, z2, z3, z4, z5⟩ := blk3_cells HX3.out.ah
         obtain ⟨y0, y1, y2, y3, y4, y5⟩ := blk3_cells HNB3.out
         have HX4 : Hid (Cx w.heap.size gb L (.cells #[.int .i64 (b : Int), .int .i64 (p : Int), .int .i64 (s : Int)] 30 (0, 0)) u6 es ⟨⟨2, pn, ap.g⟩, aa, al, ac⟩ (((t2.setCell ⟨w.heap.size + 1, 0, none⟩ (.int .i64 2)).setCell ⟨w.heap.size + 1, 1, none⟩ (.int .i64 (pn : Int))).setCell ⟨w.heap.size + 1, 2, none⟩ (.slice aa al ac))) := HX3.out.ahead ⟨⟨2, pn, ap.g⟩, aa, al, ac⟩ ⟨HX3.out.aok.1, HX3.out.aok.2.1, by simp, by have := HN2.out; simp; omega⟩
         have HX5 : Hid (Cx w.heap.size gb L (.cells #[.int .i64 (b : Int), .int .i64 (p : Int), .int .i64 (s : Int)] 30 (0, 0)) u6 es ⟨⟨2, pn, ap.g⟩, aa, al, ac⟩ ((((t2.setCell ⟨w.heap.size + 1, 0, none⟩ (.int .i64 2)).setCell ⟨w.heap.size + 1, 1, none⟩ (.int .i64 (pn : Int))).setCell ⟨w.heap.size + 1, 2, none⟩ (.slice aa al ac)).alloc (.cells #[.int .i64 2, .int .i64 (pn : Int), .slice aa al ac] 135))) := HX4.out.below (below_alloc _ _)
         have HNW : Hid (∀ j v, (⟨⟨2, pn, ap.g⟩, aa, al, ac⟩ : En).cells[j]? = some v → ((((t2.setCell ⟨w.heap.size + 1, 0, none⟩ (.int .i64 2)).setCell ⟨w.heap.size + 1, 1, none⟩ (.int .i64 (pn : Int))).setCell ⟨w.heap.size + 1, 2, none⟩ (.slice aa al ac)).alloc (.cells #[.int .i64 2, .int .i64 (pn : Int), .slice aa al ac] 135)).cell? ((⟨t2.heap.size, 0, none⟩ : Addr).add j) = some v) := by
          have h9 := lit3_news (((t2.setCell ⟨w.heap.size + 1, 0, none⟩ (.int .i64 2)).setCell ⟨w.heap.size + 1, 1, none⟩ (.int .i64 (pn : Int))).setCell ⟨w.heap.size + 1, 2, none⟩ (.slice aa al ac)) ⟨⟨2, pn, ap.g⟩, aa, al, ac⟩
          have h8 : (((t2.setCell ⟨w.heap.size + 1, 0, none⟩ (.int .i64 2)).setCell ⟨w.heap.size + 1, 1, none⟩ (.int .i64 (pn : Int))).setCell ⟨w.heap.size + 1, 2, none⟩ (.slice aa al ac)).heap.size = t2.heap.size := by simp
          rw [h8] at h9
          exact h9
         have HSZ : Hid (w.heap.size + 2 ≤ t2.heap.size) := (Array.getElem?_eq_some_iff.1 HX3.out.ah).1
         obtain ⟨x0, x1, x2, x3, x4, x5⟩ := blk3_cells HX4.out.ah)
      | (at_builtin; refine wpList_append_own ((((t2.setCell ⟨w.heap.size + 1, 0, none⟩ (.int .i64 2)).setCell ⟨w.heap.size + 1, 1, none⟩ (.int .i64 (pn : Int))).setCell ⟨w.heap.size + 1, 2, none⟩ (.slice aa al ac)).alloc (.cells #[.int .i64 2, .int .i64 (pn : Int), .slice aa al ac] 135)) rfl (.tmp 61) (.tmp 63) 99 rfl (w.heap.size + 2) 135 i0 _ 3 40 Tryd.underlying99 HI.out.1 HI.out.2.1 HI.out.2.2.1 HI.out.2.2.2 rfl (by decide) u6 es.length (flatE es) rfl HX5.out.own ⟨t2.heap.size, 0, none⟩ 1 1 (⟨⟨2, pn, ap.g⟩, aa, al, ac⟩ : En).cells rfl (by simp [En.cells]) HNW.out (cells3_one _) (by simp only [maxLen]; omega) (by omega) (by have := HSZ.out; simp; omega) ?_; intro v4 t4 own4 grow4 _h4
         have HX6 : Hid (Cx w.heap.size gb L (.cells #[.int .i64 (b : Int), .int .i64 (p : Int), .int .i64 (s : Int)] 30 (0, 0)) v4 (es ++ [⟨⟨2, pn, ap.g⟩, aa, al, ac⟩]) ⟨⟨2, pn, ap.g⟩, aa, al, ac⟩ t4) := HX5.out.push grow4 own4
         have HRD4 : Hid (RdAt t4 B q r) := ((HRD3.out.other (grown3 t2 (w.heap.size + 1) (.int .i64 2) (.int .i64 (pn : Int)) (.slice aa al ac)) (fun e => by have e' := Option.some.inj e; omega) (fun k e => by have e' := Option.some.inj e; omega)).below (below_alloc _ _)).other grow4 (fun e => by have := (HX5.out.own.lt _ e).1; omega) (fun k e => by have := (HX5.out.own.lt _ e).1; omega)
         have HG4 : Hid (w.grownBy t4 (some q)) := by
          have g9 := grownBy_trans (grown_past HG3.out (grown3 t2 (w.heap.size + 1) (.int .i64 2) (.int .i64 (pn : Int)) (.slice aa al ac)) (by omega)) (World.grownBy_alloc _ (.cells #[.int .i64 2, .int .i64 (pn : Int), .slice aa al ac] 135) (some q))
          have gr4 := grow4
          cases hv : u6.ownBlock with
          | none => rw [hv] at gr4; exact grownBy_trans g9 (grown_of (below_of gr4) _)
          | some k => rw [hv] at gr4; exact grown_past g9 gr4 (by have := (HX5.out.own.lt _ hv).1; omega)
         clear own4 grow4 z0 z1 z2 z3 z4 z5 y0 y1 y2 y3 y4 y5 x0 x1 x2 x3 x4 x5
         obtain ⟨z0, z1, z2, z3, z4, z5⟩ := blk3_cells HX6.out.ah))
      go_roundg (left - pn)
      case measure => omega
      case rel =>
       refine (show Hid _ from ⟨left - pn, f, es ++ [⟨⟨2, pn, ap.g⟩, aa, al, ac⟩], ⟨⟨2, pn, ap.g⟩, aa, al, ac⟩, r, ?_, by omega, Nat.le_refl _, by simp; omega, by omega, HX6.out, HRD4.out, HG4.out, ?_⟩)
       ·first | rfl | (congr 1; rw [IntKind.wrap_i64]; omega)
       ·have e9 : fillP (C + S) ap ⟨2, pn, pg⟩ = (⟨⟨2, pn, ap.g⟩, aa, al, ac⟩ : En).p := by simp [fillP]
        rw [HP.out, ext_step h0 HRES.out HST2.out, e9]
        simp
end Go.Proofs.YtnmnhgagnfodhaaDoor
