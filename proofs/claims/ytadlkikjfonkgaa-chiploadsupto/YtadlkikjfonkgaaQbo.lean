/-
  SEAT Ytadlkikjfonkgaa: Vc, Hc.
-/
import Derived.Test.YtadlkikjfonkgaaQr
import Derived.Test.YtadlkikjfonkgaaQbc
import Derived.Test.YtadlkikjfonkgaaQx
namespace Go.Proofs.Ytadlkikjfonkgaa
open Go.RowKit Go.Conc
set_option linter.unusedVariables false
set_option maxRecDepth 100000
set_option maxHeartbeats 4000000
variable {w u : World} {F : Nat → Prop} {K : List (Nat × Obj)} {C : Ch} {b1 b4 b6 B g n c : Nat} {X : List Int} {v0 v1 x0 x1 : Value}
structure Eu (w U : World) (n B : Nat) (oL oM oX : Option Nat) : Prop where
 i0 : I0 w U
 l : ∀ g, oL = some g → IC w U g n
 m : ∀ g, oM = some g → IM w U g B
 x : ∀ g, oX = some g → IX w U g
section
variable {w U V : World} {n B : Nat} {oL oM oX : Option Nat} {x : Array Edge} {ps : String} {t : TypeId} {a : Act} {K : Act → World → Prop} {Q : Exit → Act → World → Prop}
theorem Eu.keep (h : Eu w U n B oL oM oX) (hb : Below U.heap.size U V) : Eu w V n B oL oM oX := ⟨h.i0.keep hb, fun g e => (h.l g e).keep hb, fun g e => (h.m g e).keep hb, fun g e => (h.x g e).keep hb⟩
theorem Eu.e19 (h : Eu w U n B oL oM oX) {b p : Int} {s l : Nat} (h0 : 1 ≤ s ∧ s ≤ 8) (hl : l = pgB s) (he : a.tmps[26]?.getD undef = .agg #[.int .i64 b, .int .i64 p, .int .i64 s]) (hk : ∀ V, Eu w V n B oL oM oX → K (a.put (some 27) (.int .i64 (l : Int))) V) : Oper.wp Try.prog { dst := some 27, op := Op.call { callee := Callee.value (Operand.func 46), args := #[Operand.tmp 26], argTypes := #[23] }, type := t, pos := ps, after := x, guard := none } a U K Q := by
 go_simp
 go_at_call 46
 refine (pageB_any _ _ s _ h0.1 h0.2).mono ?_
 rintro e V ⟨rfl, hb⟩
 rw [← hl]
 exact hk V (h.keep hb)
theorem Eu.e21 (h : Eu w U n B none oM oX) (hn : n ≤ 1000000000) (he : a.tmps[28]?.getD undef = .int .i64 (n : Int)) (hk : ∀ g V, Eu w V n B (some g) oM oX → K (a.put (some 29) (.slice (some ⟨g, 0, none⟩) 0 n)) V) : Oper.wp Try.prog { dst := some 29, op := Op.makeSlice 24 (Operand.const (Value.int IntKind.i64 0)) (Operand.tmp 28), type := t, pos := ps, after := x, guard := none } a U K Q := by
 have hmk := fun w => mk24 w n hn
 have hb : Below U.heap.size U (U.alloc (.cells (madeCells #[.int .u8 0] n) 5)) := below_alloc _ _
 have HK := J hk
 clear hk
 go_simp
 go_wp2_with fail
 exact HK.out _ (U.alloc (.cells (madeCells #[.int .u8 0] n) 5)) ⟨h.i0.keep hb, fun g e => by cases e; exact ic_new _ _ _ hn h.i0.lt, fun g e => (h.m g e).keep hb, fun g e => (h.x g e).keep hb⟩
theorem Eu.e27 (h : Eu w U n B oL none oX) (hB : B ≤ 4096) (he : a.tmps[34]?.getD undef = .int .i64 (B : Int)) (hk : ∀ g V, Eu w V n B oL (some g) oX → K (a.put (some 35) (.slice (some ⟨g, 0, none⟩) B B)) V) : Oper.wp Try.prog { dst := some 35, op := Op.makeSlice 25 (Operand.tmp 34) (Operand.tmp 34), type := t, pos := ps, after := x, guard := none } a U K Q := by
 have hmk := fun w => mk25 w B hB
 have hb : Below U.heap.size U (U.alloc (.cells (List.replicate B (.bool false)).toArray 4)) := below_alloc _ _
 have HK := J hk
 clear hk
 go_simp
 go_wp2_with fail
 exact HK.out _ (U.alloc (.cells (List.replicate B (.bool false)).toArray 4)) ⟨h.i0.keep hb, fun g e => (h.l g e).keep hb, fun g e => by cases e; exact ⟨alloc_new _ _, h.i0.lt⟩, fun g e => (h.x g e).keep hb⟩
theorem Eu.e29 (h : Eu w U n B oL oM none) (hk : ∀ g V, Eu w V n B oL oM (some g) → K (a.put (some 3) (.pointer (some ⟨g, 0, none⟩))) V) : Oper.wp Try.prog { dst := some 3, op := Op.alloc 27, type := t, pos := ps, after := x, guard := none } a U K Q := by
 have hb : Below U.heap.size U (U.alloc (.cells #[.int .i64 0, .int .i64 0, .int .i64 0, .slice none 0 0, .slice none 0 0] 27)) := below_alloc _ _
 have HK := J hk
 clear hk
 go_simp
 go_wp2_with fail
 exact HK.out _ (U.alloc (.cells #[.int .i64 0, .int .i64 0, .int .i64 0, .slice none 0 0, .slice none 0 0] 27)) ⟨h.i0.keep hb, fun g e => (h.l g e).keep hb, fun g e => (h.m g e).keep hb, fun g e => by cases e; exact ⟨alloc_new _ _, h.i0.lt⟩⟩
end
structure ImB (w w' : World) (C : Ch) (e : Ending) : Prop where
 ex : ∃ gc cc gm, e = .returned (.agg #[.int .i64 (C.B : Int), .int .i64 (C.P : Int), .int .i64 (C.S : Int), .slice (some ⟨gc, 0, none⟩) (C.B * C.P * pgB C.S) cc, .slice (some ⟨gm, 0, none⟩) C.B C.B]) ∧ Own w' (w.heap.size + 1) gc (C.B * C.P * pgB C.S) cc (imgL C) ∧ w'.heap[gm]? = some (.cells (C.bl.map (fun b => Value.bool b.m)).toArray 4 (0, 0)) ∧ w.heap.size ≤ gm
 bel : Below w.heap.size w w'
theorem ImageB_any (w : World) (p : Nat) (F : Nat → Prop) (C : Ch) (h : ChipAt w p F C) (hok : C.Ok) :
  Calls Try.prog 15 #[.pointer (some ⟨p, 0, none⟩)] w fun e w' => ImB w w' C e := by
 obtain ⟨x, bs, fe, hc⟩ := h
 have hS := hok.s
 have hB4 := hok.b.2
 have hP4 := hok.p.2
 obtain ⟨n0, hn0e⟩ : ∃ n, n = C.B * C.P * pgB C.S := ⟨_, rfl⟩
 have hn0 : n0 ≤ 1000000000 := by rw [hn0e]; exact img_le hok
 obtain ⟨m0, hm0e⟩ : ∃ m, m = C.B * C.P := ⟨_, rfl⟩
 obtain ⟨l0, hl0e⟩ : ∃ m, m = pgB C.S := ⟨_, rfl⟩
 have hm0 : m0 ≤ 65536 := by rw [hm0e]; have := of_decide_eq_true hok.fits; omega
 have HM0 : Hid (IntKind.i64.wrap ((C.B : Int) * (C.P : Int)) = (m0 : Int)) := by unfold Hid; rw [hm0e] at *; rw [← Int.natCast_mul]; simp only [IntKind.wrap_i64]; omega
 have HN0 : Hid (IntKind.i64.wrap ((m0 : Int) * (l0 : Int)) = (n0 : Int)) := by unfold Hid; rw [← Int.natCast_mul, hn0e, ← hm0e, ← hl0e]; rw [← hm0e, ← hl0e] at hn0e; simp only [IntKind.wrap_i64]; omega
 have HL0 := J hl0e
 have HNE := J hn0e
 have hmk := fun w => mk24 w n0 hn0
 have hmk2 := fun w => mk25 w C.B hB4
 have HC := J hc
 clear hc hn0e hm0e hl0e
 have H0 : Hid (I0 w (w.alloc (.cells #[.int .i64 0, .int .i64 0, .int .i64 0, .slice none 0 0, .slice none 0 0] 27)).drew) := ⟨below_trans (below_alloc _ _) (drew_below _), alloc_new _ _⟩
 have HSK : Hid (∀ (gx : Nat) (U : World), I0 w U → IX w U gx → ∀ v0 v1 v2 v3 v4 : Value, IS p C (((((U.setCell ⟨gx, 0, none⟩ v0).setCell ⟨gx, 1, none⟩ v1).setCell ⟨gx, 2, none⟩ v2).setCell ⟨gx, 3, none⟩ v3).setCell ⟨gx, 4, none⟩ v4)) := fun gx U h0 hx v0 v1 v2 v3 v4 => HC.out.is (i0_set h0 hx v0 v1 v2 v3 v4)
 go_enter Try.func15, Try.ntmps15
 go_wp2
 rename_i K0 hK0
 have hrest : ∀ (gc gm gx : Nat) (U : World), I0 w U → IC w U gc n0 → IM w U gm C.B → IX w U gx → K0 { tmps := #[.pointer (some ⟨p, 0, none⟩), undef, .pointer (some ⟨w.heap.size, 0, none⟩), .pointer (some ⟨gx, 0, none⟩), undef, undef, undef, undef, .pointer (some ⟨p, 0, none⟩), .pointer (some ⟨p, 0, none⟩), .pointer (some ⟨p, 0, none⟩), .agg #[.int .i64 (C.B : Int), .int .i64 (C.P : Int), .int .i64 (C.S : Int)], .pointer (some ⟨p, 0, none⟩), .pointer (some ⟨p, 0, none⟩), .pointer (some ⟨p, 0, none⟩), .pointer (some ⟨p, 0, none⟩), .int .i64 (C.B : Int), .pointer (some ⟨p, 0, none⟩), .pointer (some ⟨p, 0, none⟩), .pointer (some ⟨p, 0, none⟩), .pointer (some ⟨p, 1, none⟩), .int .i64 (C.P : Int), .int .i64 (m0 : Int), .pointer (some ⟨p, 0, none⟩), .pointer (some ⟨p, 0, none⟩), .pointer (some ⟨p, 0, none⟩), .agg #[.int .i64 (C.B : Int), .int .i64 (C.P : Int), .int .i64 (C.S : Int)], .int .i64 (l0 : Int), .int .i64 (n0 : Int), .slice (some ⟨gc, 0, none⟩) 0 n0, .pointer (some ⟨p, 0, none⟩), .pointer (some ⟨p, 0, none⟩), .pointer (some ⟨p, 0, none⟩), .pointer (some ⟨p, 0, none⟩), .int .i64 (C.B : Int), .slice (some ⟨gm, 0, none⟩) C.B C.B, .agg #[.int .i64 (C.B : Int), .int .i64 (C.P : Int), .int .i64 (C.S : Int), .slice (some ⟨gc, 0, none⟩) 0 n0, .slice (some ⟨gm, 0, none⟩) C.B C.B], undef, undef, undef, undef, undef, undef, undef, undef, undef, undef, undef, undef, undef, undef, undef, undef, undef, undef, undef, undef, undef, undef, undef, undef, undef, undef, undef, undef, undef, undef, undef, undef, undef, undef, undef, undef, undef, undef, undef, undef, undef, undef], defers := [] } (((((U.setCell ⟨gx, 0, none⟩ (.int .i64 (C.B : Int))).setCell ⟨gx, 1, none⟩ (.int .i64 (C.P : Int))).setCell ⟨gx, 2, none⟩ (.int .i64 (C.S : Int))).setCell ⟨gx, 3, none⟩ (.slice (some ⟨gc, 0, none⟩) 0 n0)).setCell ⟨gx, 4, none⟩ (.slice (some ⟨gm, 0, none⟩) C.B C.B)) := by
  intro gc gm gx U h0 hl hm hx
  have HL := J (IR.start h0 hl hm hx _ _ _ _ _ rfl rfl rfl rfl rfl)
  refine hK0 _ _ ?_
  clear hK0
  generalize hV : World.setCell _ ⟨gx, 4, none⟩ _ = V at HL ⊢
  clear hV h0 hl hm hx
  have c3 := (HC.out.below HL.out.i0.bel).box.c3
  have hnb : x.nb = C.B := by rw [HC.out.nb, HC.out.len, hok.bl]
  rw [hnb] at c3
  go_wp2
  clear c3
  go_loopw [42] (fun s42 wr => ∃ (i gc n cc : Nat), i ≤ C.B ∧ s42 = .int .i64 i ∧ Hid (IR w wr C gx gm gc n cc (preL C i 0) i) ∧ Hid (n = i * (C.P * l0))) (fun s42 _ => C.B - (intOf s42).toNat)
  case atStart => exact ⟨0, gc, 0, n0, Nat.zero_le _, rfl, HL, by unfold Hid; simp⟩
  case round =>
   clear HL
   obtain ⟨i, gq, n, cc, hi, rfl, HI, hn⟩ := hrel
   by_cases hlt : i < C.B
   ·have dm : decide ((i : Int) < (C.B : Int)) = true := decide_eq_true (by omega)
    have i1 : (i : Int) < (C.B : Int) := by omega
    have hbl : i < bs.length := by rw [HC.out.len, hok.bl]; exact hlt
    have hib : bs[i]? = some bs[i] := List.getElem?_eq_getElem hbl
    obtain ⟨b, hb⟩ : ∃ b, bs[i] = b := ⟨_, rfl⟩
    rw [hb] at hib
    have hnp : b.ps.length = C.P := (HC.out.bok b (List.mem_of_getElem? hib)).np
    have HBV : Hid (C.bl[i]? = some b.v) := by unfold Hid; rw [← HC.out.bl, List.getElem?_map, hib]; rfl
    obtain ⟨m0', m1', m2', m3'⟩ := (HC.out.below HI.out.i0.bel).blk hib
    rw [hnp] at m3'
    clear hb hbl
    go_upto_region 5 with fail
    clear m0' m1' m2' m3'
    have hq0 := alloc_new wr (.cells #[.bool b.m, .bool b.r, .int .i64 b.nx, .slice (some ⟨b.g, 0, none⟩) C.P C.P] 106)
    have HI2 := J (HI.out.keep (below_alloc wr (.cells #[.bool b.m, .bool b.r, .int .i64 b.nx, .slice (some ⟨b.g, 0, none⟩) C.P C.P] 106)))
    obtain ⟨qb, hqb⟩ : ∃ q, q = wr.heap.size := ⟨_, rfl⟩
    obtain ⟨t, ht⟩ : ∃ t, t = wr.alloc (.cells #[.bool b.m, .bool b.r, .int .i64 b.nx, .slice (some ⟨b.g, 0, none⟩) C.P C.P] 106) := ⟨_, rfl⟩
    rw [← ht, ← hqb] at hq0
    rw [← ht] at HI2 ⊢
    rw [← hqb]
    clear ht hqb HI
    obtain ⟨b0, b1, b2, b3⟩ := cells4 hq0
    obtain ⟨x0, x1, x2, x3, x4⟩ := cells5 HI2.out.box
    have mc := HI2.out.mcell hok.bl hlt
    have fzm := fun j => frozen_of_row t gm j _ 4 HI2.out.mks
    have nqm : gm ≠ qb := tag_ne HI2.out.mks hq0 (t := 4) (u := 106) rfl rfl (by decide)
    have nqm2 : qb ≠ gm := fun e => nqm e.symm
    clear hq0
    go_wp2
    clear b0 b1 b2 b3 x0 x1 x2 x3 x4 fzm mc
    have HI3 := J (HI2.out.mark hok.bl HBV.out)
    have em : b.v.m = b.m := rfl
    rw [em] at HI3
    generalize hT : World.setCell t ⟨gm, i, none⟩ _ = t3 at HI3 ⊢
    clear hT HI2 nqm nqm2 em
    go_loopw [56] (fun s56 wr => ∃ (k gc n cc : Nat), k ≤ C.P ∧ s56 = .int .i64 k ∧ Hid (IR w wr C gx gm gc n cc (preL C i k) (i + 1)) ∧ Hid (n = (i * C.P + k) * l0)) (fun s56 _ => C.P - (intOf s56).toNat)
    case atStart => exact ⟨0, gq, n, cc, Nat.zero_le _, rfl, HI3, by unfold Hid; rw [hn.out, Nat.add_zero, Nat.mul_assoc]⟩
    case round =>
     clear HI3 hn
     obtain ⟨k, gi, n, cc, hk, rfl, HI, hn⟩ := hrel
     by_cases hkt : k < C.P
     ·have dk : decide ((k : Int) < (C.P : Int)) = true := decide_eq_true (by omega)
      have hkq : b.ps[k]? = some b.ps[k] := List.getElem?_eq_getElem (by omega)
      obtain ⟨q, hq⟩ : ∃ q, b.ps[k] = q := ⟨_, rfl⟩
      rw [hq] at hkq
      clear hq
      obtain ⟨n1, hn1⟩ : ∃ n, n = 256 * C.S := ⟨_, rfl⟩
      obtain ⟨n2, hn2⟩ : ∃ n, n = 54 + 3 * C.S := ⟨_, rfl⟩
      have HN12 := J (And.intro hn1 hn2)
      have hn12 : n1 + n2 = l0 := by rw [HL0.out, hn1, hn2]; rfl
      have p1 : 0 < n1 := by omega
      have p2 : 0 < n2 := by omega
      clear hn1 hn2
      have hRD : Hid (readL C i k = flipsL q.bits (C.fl i k)) := J (readL_of (q := q.v) HBV.out (by show (b.ps.map Pc.v)[k]? = _; rw [List.getElem?_map, hkq]; rfl))
      go_upto_region 10 with (first | (go_at_call 58; refine (reads_any _ p F C x bs fe (HC.out.below HI.out.i0.bel) hok i k b q hib hkq).mono ?_; rintro e u2 ⟨d1, f1, d2, f2, D, Z, rfl, o1, o2, hne, hdz, b2⟩; rw [← HN12.out.1, ← HN12.out.2]; rw [← HN12.out.1] at o1; rw [← HN12.out.2] at o2; have HO1 := J o1; have HO2 := J o2; have HDZ := J hdz; have HI2 := J (HI.out.keep b2); have HB2 := J b2; clear o1 o2 hne hdz b2))
      have hB3 := below_alloc u2 (.cells #[.slice (some ⟨d1, 0, none⟩) n1 f1, .slice (some ⟨d2, 0, none⟩) n2 f2] 36)
      have hq0 := alloc_new u2 (.cells #[.slice (some ⟨d1, 0, none⟩) n1 f1, .slice (some ⟨d2, 0, none⟩) n2 f2] 36)
      have HI3 := J (HI2.out.keep hB3)
      have HO1t := J (HO1.out.below hB3)
      have HO2t := J (HO2.out.below hB3)
      have hgc : gi < wr.heap.size := HI.out.own.lt.2
      have hgx : gx < wr.heap.size := lt_of_block HI.out.box
      obtain ⟨qb, hqb⟩ : ∃ q, q = u2.heap.size := ⟨_, rfl⟩
      obtain ⟨t, ht⟩ : ∃ t, t = u2.alloc (.cells #[.slice (some ⟨d1, 0, none⟩) n1 f1, .slice (some ⟨d2, 0, none⟩) n2 f2] 36) := ⟨_, rfl⟩
      rw [← ht, ← hqb] at hq0
      rw [← ht] at HI3 HO1t HO2t ⊢
      rw [← hqb]
      clear ht hqb hB3 HO1 HO2 HI2 HB2
      obtain ⟨i0, hi0, hz0, hz1, hz2⟩ := info_parts info5
      have hbig : n + l0 ≤ 139329536 := by
       have h1 : (i * C.P + k + 1) ≤ C.B * C.P := by
        have h2 : i * C.P + C.P ≤ C.B * C.P := by rw [← Nat.succ_mul]; exact Nat.mul_le_mul_right _ hlt
        omega
       have h3 : C.B * C.P ≤ 65536 := by have := of_decide_eq_true hok.fits; omega
       have h4 : l0 ≤ 2126 := by rw [HL0.out]; exact pgB_le hS.2
       have h5 : n + l0 = (i * C.P + k + 1) * l0 := by rw [hn.out, Nat.succ_mul]
       rw [h5]
       exact Nat.le_trans (Nat.mul_le_mul (Nat.le_trans h1 h3) h4) (by decide)
      obtain ⟨y0, y1⟩ := cells2 hq0
      obtain ⟨x0, x1, x2, x3, x4⟩ := cells5 HI3.out.box
      have HQ0 := J hq0
      have hd1 := HO1t.out.lt.1
      have hd2 := HO2t.out.lt.1
      clear hq0 x0 x1 x2 x4
      go_upto_region 11 with (
       (at_builtin; refine wpList_append_own _ rfl _ _ 24 rfl (w.heap.size + 1) 5 i0 (.int .u8 0) 1 1 Try.underlying24 hi0 hz0 hz1 hz2 rfl (by decide) _ _ _ rfl HI3.out.own ⟨d1, 0, none⟩ n1 f1 (D.map (Value.int .u8)) rfl (by simp; exact HO1t.out.len) (own_news HO1t.out) (by simp [Value.oneCell']) (by simp only [maxLen]; omega) (by omega) HI3.out.i0.lt ?_; intro v1 w1 ow1 gr1 _; rw [← List.map_append] at ow1; obtain ⟨ga, ca, rfl, _⟩ := own_shape ow1 (by omega); have HA := J (HI3.out.app ow1 gr1); have hx1 := HI3.out.app1 gr1; have fx1 := fun j => frozen_of_row w1 gx j _ 27 hx1; obtain ⟨z0, z1, z2, z3, z4⟩ := cells5 hx1; clear ow1 gr1 hx1 z0 z1 z2 z4 y0 y1 x3))
      clear fx1 z3
      generalize hT : World.setCell w1 ⟨gx, 3, none⟩ _ = t4 at HA ⊢
      clear hT
      have HI4 := J HA.out.1
      have HO4 := J HA.out.2
      clear HA
      have hq4 := (HO4.out.block qb (lt_of_block HQ0.out) (fun e => by
       obtain ⟨cs', hc'⟩ := own_tag HI3.out.own (g := gi) rfl
       rcases e with e | e
       ·exact tag_ne HQ0.out hc' (t := 36) (u := 5) rfl rfl (by decide) e
       ·exact tag_ne HQ0.out HI3.out.box (t := 36) (u := 27) rfl rfl (by decide) e)).trans HQ0.out
      have HO2q : Hid (Own t4 wr.heap.size d2 n2 f2 Z) := owns_keep HO2t.out (fun g hg => by cases hg; exact HO4.out.block d2 HO2t.out.lt.2 (fun e => by rcases e with e | e <;> omega))
      obtain ⟨y0, y1⟩ := cells2 hq4
      obtain ⟨x0, x1, x2, x3, x4⟩ := cells5 HI4.out.box
      clear x0 x1 x2 x4 hq4
      go_upto_region 12 with (
       (at_builtin; refine wpList_append_own _ rfl _ _ 24 rfl (w.heap.size + 1) 5 i0 (.int .u8 0) 1 1 Try.underlying24 hi0 hz0 hz1 hz2 rfl (by decide) _ _ _ rfl HI4.out.own ⟨d2, 0, none⟩ n2 f2 (Z.map (Value.int .u8)) rfl (by simp; exact HO2q.out.len) (own_news HO2q.out) (by simp [Value.oneCell']) (by simp only [maxLen]; omega) (by omega) HI4.out.i0.lt ?_; intro v1 w1 ow1 gr1 _; rw [← List.map_append] at ow1; obtain ⟨gd, cd, rfl, _⟩ := own_shape ow1 (by omega); have HA := J (HI4.out.app ow1 gr1); have hx1 := HI4.out.app1 gr1; have fx1 := fun j => frozen_of_row w1 gx j _ 27 hx1; obtain ⟨z0, z1, z2, z3, z4⟩ := cells5 hx1; clear ow1 gr1 hx1 z0 z1 z2 z4 y0 y1 x3))
      clear fx1 z3
      generalize hT : World.setCell w1 ⟨gx, 3, none⟩ _ = t5 at HA ⊢
      clear hT
      have HI5 := J HA.out.1
      clear HA
      have HDD : Hid (preL C i k ++ D ++ Z = preL C i (k + 1)) := by unfold Hid; rw [preL_page, hRD.out, ← HDZ.out, List.append_assoc]
      rw [HDD.out] at HI5
      go_wp2
      go_roundw
      case rel => exact ⟨k + 1, gd, _, cd, hkt, by go_num, HI5, by unfold Hid; rw [hn.out, Nat.add_assoc, hn12, ← Nat.add_assoc, Nat.succ_mul]⟩
      case measure => simp [intOf]; omega
     ·have dk : decide ((k : Int) < (C.P : Int)) = false := decide_eq_false (by omega)
      have ek : k = C.P := by omega
      subst ek
      rw [preL_block] at HI
      go_wp2
      go_roundw
      case rel => exact ⟨i + 1, gi, n, cc, hlt, by go_num, HI, by unfold Hid; rw [hn.out, ← Nat.succ_mul, Nat.mul_assoc]⟩
      case measure => simp [intOf]; omega
   ·have dm : decide ((i : Int) < (C.B : Int)) = false := decide_eq_false (by omega)
    have ei : i = C.B := by omega
    subst ei
    obtain ⟨x0, x1, x2, x3, x4⟩ := cells5 HI.out.box
    obtain ⟨z0, z1, z2, z3, z4⟩ := cells5 HI.out.i0.bx
    have fzr := fun j => frozen_of_row wr w.heap.size j _ 27 HI.out.i0.bx
    have hgx := HI.out.hx
    go_wp2
    have hs := set50 HI.out.i0.bx (.int .i64 (C.B : Int)) (.int .i64 (C.P : Int)) (.int .i64 (C.S : Int)) (.slice (some ⟨gq, 0, none⟩) n cc) (.slice (some ⟨gm, 0, none⟩) C.B C.B)
    have ho := only50 wr w.heap.size (.int .i64 (C.B : Int)) (.int .i64 (C.P : Int)) (.int .i64 (C.S : Int)) (.slice (some ⟨gq, 0, none⟩) n cc) (.slice (some ⟨gm, 0, none⟩) C.B C.B)
    generalize hT : World.setCell _ ⟨w.heap.size, 4, none⟩ _ = v9 at hs ho ⊢
    obtain ⟨y0, y1, y2, y3, y4⟩ := cells5 hs
    refine bodyPost_ret (v := .agg #[.int .i64 (C.B : Int), .int .i64 (C.P : Int), .int .i64 (C.S : Int), .slice (some ⟨gq, 0, none⟩) n cc, .slice (some ⟨gm, 0, none⟩) C.B C.B]) (by simp [results, Try.results15, go_sem, y0, y1, y2, y3, y4]) rfl ?_
    have hn0 : n = C.B * C.P * pgB C.S := by rw [hn.out, HL0.out, Nat.mul_assoc]
    have hm1 := HI.out.hm
    refine ⟨⟨gq, cc, gm, by rw [← hn0], ?_, ?_, by omega⟩, ?_⟩
    ·rw [← hn0, ← preL_all]
     exact owns_keep HI.out.own (fun g hg => by cases hg; exact ho.block gq HI.out.own.lt.2 (by have := HI.out.own.lt.1; omega))
    ·refine (ho.block gm (lt_of_block HI.out.mks) (by omega)).trans (HI.out.mks.trans ?_)
     rw [Nat.sub_self, List.take_of_length_le (by rw [hok.bl]; exact Nat.le_refl _)]
     simp
    ·exact HI.out.i0.bel.trans (ho.below (fun j hj => by omega) HI.out.i0.bel.size)
 clear hK0
 refine wp_region_held_drew (S := (fun u => u.cell? ⟨p, 0, none⟩ = some (.int .i64 (C.B : Int)) ∧ u.cell? ⟨p, 1, none⟩ = some (.int .i64 (C.P : Int)) ∧ u.cell? ⟨p, 2, none⟩ = some (.int .i64 (C.S : Int)))) (by kernel_rfl) (HC.out.is H0.out) fun O => ?_
 refine tk 0 ?_
 refine tk 1 ?_
 refine tk 2 ?_
 refine tk 3 ?_
 refine tk 4 ?_
 refine tk 5 ?_
 refine tk 6 ?_
 refine tk 7 ?_
 refine tk 8 ?_
 refine tk 9 ?_
 refine tk 10 ?_
 refine tk 11 ?_
 refine tk 12 ?_
 refine tk 13 ?_
 refine tk 14 ?_
 rw [HM0.out]
 refine tk 15 ?_
 refine tk 16 ?_
 refine tk 17 ?_
 refine tk 18 ?_
 refine tk 22 ?_
 refine tk 23 ?_
 refine tk 24 ?_
 refine tk 25 ?_
 refine tk 26 ?_
 obtain ⟨U0, hU0⟩ : ∃ u, u = (w.alloc (.cells #[.int .i64 0, .int .i64 0, .int .i64 0, .slice none 0 0, .slice none 0 0] 27)).drew := ⟨_, rfl⟩
 rw [← hU0] at O H0 ⊢
 clear hU0
 have H : Eu w U0 n0 C.B none none none := ⟨H0.out, (fun _ e => by cases e), (fun _ e => by cases e), (fun _ e => by cases e)⟩
 clear H0
 refine rn3 19 27 29 (fun K N => ?x1a) (fun K N => ?x1b) (fun K N => ?x1c)
 case' x1a =>
  refine H.e19 hS HL0.out rfl fun V H => N.out _ _ (HC.out.is H.i0) fun O => ?_
  refine tk 20 ?_
  rw [HN0.out]
  refine rn3 21 27 29 (fun K N => ?x2a) (fun K N => ?x2b) (fun K N => ?x2c)
  case' x2a =>
   refine H.e21 hn0 rfl fun gc V H => N.out _ _ (HC.out.is H.i0) fun O => ?_
   refine rn2 27 29 (fun K N => ?x3a) (fun K N => ?x3b)
   case' x3a =>
    refine H.e27 hB4 rfl fun gm V H => N.out _ _ (HC.out.is H.i0) fun O => ?_
    refine tk 28 ?_
   case' x3b =>
    refine H.e29 fun gx V H => N.out _ _ (HC.out.is H.i0) fun O => ?_
  case' x2b =>
   refine H.e27 hB4 rfl fun gm V H => N.out _ _ (HC.out.is H.i0) fun O => ?_
   refine rn2 21 29 (fun K N => ?x4a) (fun K N => ?x4b)
   case' x4a =>
    refine H.e21 hn0 rfl fun gc V H => N.out _ _ (HC.out.is H.i0) fun O => ?_
    refine tk 28 ?_
   case' x4b =>
    refine H.e29 fun gx V H => N.out _ _ (HC.out.is H.i0) fun O => ?_
  case' x2c =>
   refine H.e29 fun gx V H => N.out _ _ (HC.out.is H.i0) fun O => ?_
   refine rn2 21 27 (fun K N => ?x5a) (fun K N => ?x5b)
   case' x5a =>
    refine H.e21 hn0 rfl fun gc V H => N.out _ _ (HC.out.is H.i0) fun O => ?_
   case' x5b =>
    refine H.e27 hB4 rfl fun gm V H => N.out _ _ (HC.out.is H.i0) fun O => ?_
 case' x1b =>
  refine H.e27 hB4 rfl fun gm V H => N.out _ _ (HC.out.is H.i0) fun O => ?_
  refine rn2 19 29 (fun K N => ?x6a) (fun K N => ?x6b)
  case' x6a =>
   refine H.e19 hS HL0.out rfl fun V H => N.out _ _ (HC.out.is H.i0) fun O => ?_
   refine tk 20 ?_
   rw [HN0.out]
   refine rn2 21 29 (fun K N => ?x7a) (fun K N => ?x7b)
   case' x7a =>
    refine H.e21 hn0 rfl fun gc V H => N.out _ _ (HC.out.is H.i0) fun O => ?_
    refine tk 28 ?_
   case' x7b =>
    refine H.e29 fun gx V H => N.out _ _ (HC.out.is H.i0) fun O => ?_
  case' x6b =>
   refine H.e29 fun gx V H => N.out _ _ (HC.out.is H.i0) fun O => ?_
   refine rn1 19 fun K N => ?_
   refine H.e19 hS HL0.out rfl fun V H => N.out _ _ (HC.out.is H.i0) fun O => ?_
   refine tk 20 ?_
   rw [HN0.out]
 case' x1c =>
  refine H.e29 fun gx V H => N.out _ _ (HC.out.is H.i0) fun O => ?_
  refine rn2 19 27 (fun K N => ?x8a) (fun K N => ?x8b)
  case' x8a =>
   refine H.e19 hS HL0.out rfl fun V H => N.out _ _ (HC.out.is H.i0) fun O => ?_
   refine tk 20 ?_
   rw [HN0.out]
   refine rn2 21 27 (fun K N => ?x9a) (fun K N => ?x9b)
   case' x9a =>
    refine H.e21 hn0 rfl fun gc V H => N.out _ _ (HC.out.is H.i0) fun O => ?_
   case' x9b =>
    refine H.e27 hB4 rfl fun gm V H => N.out _ _ (HC.out.is H.i0) fun O => ?_
  case' x8b =>
   refine H.e27 hB4 rfl fun gm V H => N.out _ _ (HC.out.is H.i0) fun O => ?_
   refine rn1 19 fun K N => ?_
   refine H.e19 hS HL0.out rfl fun V H => N.out _ _ (HC.out.is H.i0) fun O => ?_
   refine tk 20 ?_
   rw [HN0.out]
 case x3a | x4a | x7a =>
  refine rn1 29 fun K N => ?_
  refine H.e29 fun gx V H => N.out _ _ (HC.out.is H.i0) fun O => ?_
  obtain ⟨x0, x1, x2, x3, x4⟩ := cells5 (H.x _ rfl).1
  have fx := fun j => frozen_of_row _ gx j _ 27 (H.x _ rfl).1
  refine rn1 30 fun K N => ?_
  go_simp
  go_wp2_with fail
  have hZ := HSK.out gx V H.i0 (H.x _ rfl) (.int .i64 (C.B : Int)) (.int .i64 (C.P : Int)) (.int .i64 (C.S : Int)) (.slice (some ⟨gc, 0, none⟩) 0 n0) (.slice (some ⟨gm, 0, none⟩) C.B C.B)
  refine N.out _ _ hZ fun O => ?_
  refine td ?_
  exact hrest gc gm gx V H.i0 (H.l _ rfl) (H.m _ rfl) (H.x _ rfl)
 case x3b | x5a | x9a =>
  refine rn1 27 fun K N => ?_
  refine H.e27 hB4 rfl fun gm V H => N.out _ _ (HC.out.is H.i0) fun O => ?_
  refine tk 28 ?_
  obtain ⟨x0, x1, x2, x3, x4⟩ := cells5 (H.x _ rfl).1
  have fx := fun j => frozen_of_row _ gx j _ 27 (H.x _ rfl).1
  refine rn1 30 fun K N => ?_
  go_simp
  go_wp2_with fail
  have hZ := HSK.out gx V H.i0 (H.x _ rfl) (.int .i64 (C.B : Int)) (.int .i64 (C.P : Int)) (.int .i64 (C.S : Int)) (.slice (some ⟨gc, 0, none⟩) 0 n0) (.slice (some ⟨gm, 0, none⟩) C.B C.B)
  refine N.out _ _ hZ fun O => ?_
  refine td ?_
  exact hrest gc gm gx V H.i0 (H.l _ rfl) (H.m _ rfl) (H.x _ rfl)
 case x4b | x5b | x7b | x6b | x9b | x8b =>
  refine rn1 21 fun K N => ?_
  refine H.e21 hn0 rfl fun gc V H => N.out _ _ (HC.out.is H.i0) fun O => ?_
  refine tk 28 ?_
  obtain ⟨x0, x1, x2, x3, x4⟩ := cells5 (H.x _ rfl).1
  have fx := fun j => frozen_of_row _ gx j _ 27 (H.x _ rfl).1
  refine rn1 30 fun K N => ?_
  go_simp
  go_wp2_with fail
  have hZ := HSK.out gx V H.i0 (H.x _ rfl) (.int .i64 (C.B : Int)) (.int .i64 (C.P : Int)) (.int .i64 (C.S : Int)) (.slice (some ⟨gc, 0, none⟩) 0 n0) (.slice (some ⟨gm, 0, none⟩) C.B C.B)
  refine N.out _ _ hZ fun O => ?_
  refine td ?_
  exact hrest gc gm gx V H.i0 (H.l _ rfl) (H.m _ rfl) (H.x _ rfl)
def kb (b1 b4 : Nat) : List (Nat × Obj) := [(b1, (.cells #[.int .i64 8, .int .i64 4, .int .i64 1] 23 (0, 0))), (b4, (.cells #[.int .i64 0, .int .i64 1] 41 (0, 0)))]
def HS (b1 b4 : Nat) (u : World) : Prop := u.cell? ⟨b1, 0, none⟩ = some (.int .i64 8) ∧ u.cell? ⟨b1, 1, none⟩ = some (.int .i64 4) ∧ u.cell? ⟨b1, 2, none⟩ = some (.int .i64 1) ∧ u.cell? ⟨b4, 0, none⟩ = some (.int .i64 0) ∧ u.cell? ⟨b4, 1, none⟩ = some (.int .i64 1)
theorem HD.s {p : Nat} (h : HD w u p F K C) (h1 : (b1, (.cells #[.int .i64 8, .int .i64 4, .int .i64 1] 23 (0, 0))) ∈ K) (h4 : (b4, (.cells #[.int .i64 0, .int .i64 1] 41 (0, 0))) ∈ K) : HS b1 b4 u := by
 obtain ⟨x0, x1, x2⟩ := cells3 (h.blk h1)
 obtain ⟨y0, y1⟩ := cells2 (h.blk h4)
 exact ⟨x0, x1, x2, y0, y1⟩
theorem HD.sk {p : Nat} (h : HD w u p F (kb b1 b4) C) : HS b1 b4 u := h.s (by simp [kb]) (by simp [kb])
theorem HD.sk6 {p : Nat} {o : Obj} (h : HD w u p F ((b6, o) :: kb b1 b4) C) : HS b1 b4 u := h.s (by simp [kb]) (by simp [kb])
theorem readsF_nil (w : World) : ReadsF w none 0 [] := ⟨rfl, (fun _ h => by cases h), fun _ => rfl, fun _ h => by cases h⟩
theorem readsI_two (w : World) : ReadsI (w.alloc (.cells #[.int .i64 2] 3)) (some ⟨w.heap.size, 0, none⟩) 1 [2] :=
 ⟨rfl, (fun z hz => by simp at hz; omega), (fun h => by cases h), fun x hx i hi => by
  cases hx
  have : i = 0 := by omega
  subst this
  exact cells1 (alloc_new w _)⟩
theorem app_split {D Z Y : List Int} (h : D ++ Z = X ++ Y) (hl : D.length = X.length) : D = X ∧ Z = Y := List.append_inj h hl
structure Rd3 (w u u' : World) (p : Nat) (F : Nat → Prop) (K : List (Nat × Obj)) (C : Ch) (X Y : List Int) (e : Ending) : Prop where
 ex : ∃ g1 c1 g2 c2, e = .returned (.tuple #[.agg #[.slice (some ⟨g1, 0, none⟩) 256 c1, .slice (some ⟨g2, 0, none⟩) 57 c2], .int .i64 0]) ∧ Own u' u.heap.size g1 256 c1 X ∧ Own u' u.heap.size g2 57 c2 Y
 hd : HD w u' p F K C
 bel : Below u.heap.size u u'
theorem hd_read {p : Nat} (h : HD w u p F K C) (hok : C.Ok) (hS : C.S = 1) (X Y : List Int) (hX : X.length = 256) (hr : ReadE C 0 1 = 0 ∧ readL C 0 1 = X ++ Y) :
  Calls Try.prog 13 #[.pointer (some ⟨p, 0, none⟩), .agg #[.int .i64 0, .int .i64 1]] u fun e u' => Rd3 w u u' p F K C X Y e := by
 refine (Read_any u p F C h.ch hok 0 1).mono ?_
 rintro e v ⟨⟨a1, m1, c1, a2, m2, c2, D, Z, rfl, o1, o2, hne, hif⟩, hb⟩
 rw [hr.1] at hif
 rw [if_pos rfl, hS] at hif
 obtain ⟨e1, e2, e3⟩ := hif
 have e3' : D ++ Z = X ++ Y := e3.trans hr.2
 subst e1 e2
 have hDl : D.length = 256 := by have := o1.1; simpa using this
 obtain ⟨rfl, rfl⟩ := app_split e3' (by rw [hX, hDl])
 obtain ⟨g1, c1', q1, _⟩ := own_shape o1 (by omega)
 obtain ⟨g2, c2', q2, _⟩ := own_shape o2 (by omega)
 cases q1
 cases q2
 rw [hr.1]
 exact ⟨⟨g1, c1, g2, c2, rfl, o1, o2⟩, h.below hb, hb⟩
theorem hc_S : hc4.S = 1 ∧ hc9.S = 1 ∧ hc10.S = 1 := ⟨by kernel_rfl, by kernel_rfl, by kernel_rfl⟩
theorem fl4 : FlN hc4 0 := by
 have h3 : hc3.fl = hc2.fl := ProgramC_fl hc2 0 1 256 57 zer
 have h4 : hc4.fl = hc3.fl := ProgramC_fl hc3 0 0 256 57 zer
 have h2 : hc2.fl = hc1.fl := MarkC_fl hc1 8
 have h1 : FlN hc1 0 := EraseC_fl (C := hc0) (newC_fl 8 4 1 [2] []) 2
 intro b p
 rw [h4, h3, h2]
 exact h1 b p
theorem flAll : FlN hc4 9 ∧ FlN hc5 9 ∧ FlN hc6 9 ∧ FlN hc7 9 ∧ FlN hc8 9 := by
 have h4 := fl4
 have h5 : FlN hc5 1 := FlipC_fl (C := hc4) h4 0 1 5
 have h6 : FlN hc6 2 := FlipC_fl (C := hc5) h5 0 1 2047
 have h7 : FlN hc7 3 := FlipC_fl (C := hc6) h6 0 1 2048
 have h8 : FlN hc8 4 := FlipC_fl (C := hc7) h7 0 1 2500
 exact ⟨h4.mono (by omega), h5.mono (by omega), h6.mono (by omega), h7.mono (by omega), h8.mono (by omega)⟩
theorem own_repl {v : Int} (h : Own w B g n c (List.replicate n v)) (hv : 0 ≤ v ∧ v ≤ 255) : Reads w (some ⟨g, 0, none⟩) n (List.replicate n v) := by
 have h1 := h.reads (fun x hx => by rw [(List.mem_replicate.1 hx).2]; exact hv) n (Nat.le_refl _)
 rw [List.take_of_length_le (by simp)] at h1
 exact h1
theorem q1 : (EraseC hc0 2).2 = hc1 := rfl
theorem q2 : (MarkC hc1 8).2 = hc2 := rfl
theorem q3 : (ProgramC hc2 0 1 (256 * 1) (54 + 3 * 1) (List.replicate (256 * 1) 0 ++ List.replicate (54 + 3 * 1) 0)).2 = hc3 := rfl
theorem q4 : (ProgramC hc3 0 0 (256 * 1) (54 + 3 * 1) (List.replicate (256 * 1) 0 ++ List.replicate (54 + 3 * 1) 0)).2 = hc4 := rfl
theorem q5 : (FlipC hc4 0 1 5).2 = hc5 := rfl
theorem q6 : (FlipC hc5 0 1 2047).2 = hc6 := rfl
theorem q7 : (FlipC hc6 0 1 2048).2 = hc7 := rfl
theorem q8 : (FlipC hc7 0 1 2500).2 = hc8 := rfl
theorem q9 : (FlipC hc8 0 0 1).2 = hc9 := rfl
theorem q10 : (EraseC hc9 0).2 = hc10 := rfl
theorem he3' : (ProgramC hc2 0 1 (256 * 1) (54 + 3 * 1) (List.replicate (256 * 1) 0 ++ List.replicate (54 + 3 * 1) 0)).1 = 0 := he3
theorem he4' : (ProgramC hc3 0 0 (256 * 1) (54 + 3 * 1) (List.replicate (256 * 1) 0 ++ List.replicate (54 + 3 * 1) 0)).1 = 43 := he4
theorem hr4' : ReadE hc4 0 1 = 0 ∧ readL hc4 0 1 = List.replicate 256 0 ++ List.replicate 57 0 := hr4
theorem hd_new (u : World) (g : Nat) (hg : g = u.heap.size) : Calls Try.prog 21 #[.agg #[.int .i64 8, .int .i64 4, .int .i64 1], .slice (some ⟨g, 0, none⟩) 1 1, .slice none 0 0] (u.alloc (.cells #[.int .i64 2] 3)) fun e u' => ∃ p, e = .returned (.tuple #[.pointer (some ⟨p, 0, none⟩), .int .i64 0]) ∧ ChipAt u' p (fun k => u.heap.size + 1 ≤ k ∧ k < u'.heap.size) hc0 ∧ Below (u.heap.size + 1) (u.alloc (.cells #[.int .i64 2] 3)) u' := by
 subst hg
 refine (New_any _ 8 4 1 _ 1 1 [2] (readsI_two u) (by omega) none 0 0 [] (readsF_nil _) (by omega)).mono ?_
 rintro e u2 hnew
 obtain ⟨p, hE, hch⟩ := hnew.yes (by decide)
 have hb := hnew.bel
 rw [alloc_size] at hch hb
 exact ⟨p, hE, hch, hb⟩
theorem HD.sx {p : Nat} (h : HD w u p F ((b6, .cells #[v0, v1] 36 (0, 0)) :: kb b1 b4) C) : u.cell? ⟨b1, 0, none⟩ = some (.int .i64 8) ∧ u.cell? ⟨b1, 1, none⟩ = some (.int .i64 4) ∧ u.cell? ⟨b1, 2, none⟩ = some (.int .i64 1) ∧ u.cell? ⟨b4, 0, none⟩ = some (.int .i64 0) ∧ u.cell? ⟨b4, 1, none⟩ = some (.int .i64 1) ∧ u.cell? ⟨b6, 0, none⟩ = some v0 ∧ u.cell? ⟨b6, 1, none⟩ = some v1 := by
 obtain ⟨a, b, c, d, e⟩ := h.sk6
 obtain ⟨f, g⟩ := cells2 (h.blk (List.mem_cons_self))
 exact ⟨a, b, c, d, e, f, g⟩
theorem kb_ne {p : Nat} (h : HD w u p F ((b6, .cells #[v0, v1] 36 (0, 0)) :: kb b1 b4) C) : ∀ x ∈ kb b1 b4, x.1 ≠ b6 := fun x hx => by
 have h6 := h.blk (List.mem_cons_self)
 have hx' := (h.kp x (List.mem_cons_of_mem _ hx)).1
 simp [kb] at hx
 rcases hx with rfl | rfl
 ·exact tag_ne hx' h6 (t := 23) (u := 36) rfl rfl (by decide)
 ·exact tag_ne hx' h6 (t := 41) (u := 36) rfl rfl (by decide)
theorem hd_page {p : Nat} (h : HD w u p F ((b6, .cells #[v0, v1] 36 (0, 0)) :: kb b1 b4) C) : HD w ((u.setCell ⟨b6, 0, none⟩ x0).setCell ⟨b6, 1, none⟩ x1) p F ((b6, .cells #[x0, x1] 36 (0, 0)) :: kb b1 b4) C :=
 h.over ((Only.setCell (· = b6) u b6 0 x0 rfl).trans' (Only.setCell _ _ b6 1 x1 rfl)) (heap_setCell_same _ b6 1 #[x0, v1] 36 x1 (heap_setCell_same u b6 0 #[v0, v1] 36 x0 (h.blk (List.mem_cons_self)))) (kb_ne h)
theorem own_page (hb : u.heap[b6]? = some (.cells #[v0, v1] 36 (0, 0))) (h : Own u B g n c X) : Own ((u.setCell ⟨b6, 0, none⟩ x0).setCell ⟨b6, 1, none⟩ x1) B g n c X :=
 owns_keep h (fun k hk => by
  obtain ⟨cs, hc⟩ := own_tag h hk
  exact ((Only.setCell (· = b6) u b6 0 x0 rfl).trans' (Only.setCell _ _ b6 1 x1 rfl)).block k (lt_of_block hc) (tag_ne hc hb (t := 5) (u := 36) rfl rfl (by decide)))
end Go.Proofs.Ytadlkikjfonkgaa
