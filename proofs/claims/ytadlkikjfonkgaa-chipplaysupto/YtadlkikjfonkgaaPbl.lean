/-
  SEAT Ytadlkikjfonkgaa: Vc.
-/
import Derived.Test.YtadlkikjfonkgaaPx
namespace Go.Proofs.Ytadlkikjfonkgaa
open Go.RowKit Go.Conc
set_option linter.unusedVariables false
structure ImB (w w' : World) (C : Ch) (e : Ending) : Prop where
 ex : ∃ gc cc gm, e = .returned (.agg #[.int .i64 (C.B : Int), .int .i64 (C.P : Int), .int .i64 (C.S : Int), .slice (some ⟨gc, 0, none⟩) (C.B * C.P * pgB C.S) cc, .slice (some ⟨gm, 0, none⟩) C.B C.B]) ∧ Own w' (w.heap.size + 1) gc (C.B * C.P * pgB C.S) cc (imgL C) ∧ w'.heap[gm]? = some (.cells (C.bl.map (fun b => Value.bool b.m)).toArray 4 (0, 0)) ∧ w.heap.size ≤ gm
 bel : Below w.heap.size w w'
set_option maxHeartbeats 4000000 in
set_option maxRecDepth 100000 in
theorem ImageB_any (w : World) (p : Nat) (F : Nat → Prop) (C : Ch) (h : ChipAt w p F C) (hok : C.Ok) :
  Calls Try.prog 15 #[.pointer (some ⟨p, 0, none⟩)] w fun e w' => ImB w w' C e := by
 obtain ⟨x, bs, fe, hc⟩ := h
 have hS := hok.s
 have hB4 := hok.b.2
 have hP4 := hok.p.2
 obtain ⟨n0, hn0e⟩ : ∃ n, n = C.B * C.P * pgB C.S := ⟨_, rfl⟩
 have hn0 : n0 ≤ 1000000000 := by rw [hn0e]; exact img_le hok
 obtain ⟨m0, hm0e⟩ : ∃ m, m = C.B * C.P := ⟨_, rfl⟩
 obtain ⟨l0, hl0e⟩ : ∃ m, m = pgB C.S := ⟨_, rfl⟩
 have hm0 : m0 ≤ 65536 := by rw [hm0e]; have := of_decide_eq_true hok.fits; omega
 have HM0 : Hid (IntKind.i64.wrap ((C.B : Int) * (C.P : Int)) = (m0 : Int)) := by unfold Hid; rw [hm0e] at *; rw [← Int.natCast_mul]; simp only [IntKind.wrap_i64]; omega
 have HN0 : Hid (IntKind.i64.wrap ((m0 : Int) * (l0 : Int)) = (n0 : Int)) := by unfold Hid; rw [← Int.natCast_mul, hn0e, ← hm0e, ← hl0e]; rw [← hm0e, ← hl0e] at hn0e; simp only [IntKind.wrap_i64]; omega
 have HL0 := hide hl0e
 have HNE := hide hn0e
 have hmk := fun w => mk24 w n0 hn0
 have hmk2 := fun w => mk25 w C.B hB4
 have HC := hide hc
 clear hc hn0e hm0e hl0e
 have H0 : Hid (I0 w (w.alloc (.cells #[.int .i64 0, .int .i64 0, .int .i64 0, .slice none 0 0, .slice none 0 0] 27)).drew) := ⟨below_trans (below_alloc _ _) (drew_below _), alloc_new _ _⟩
 have HSK : Hid (∀ (gx : Nat) (U : World), I0 w U → IX w U gx → ∀ v0 v1 v2 v3 v4 : Value, IS p C (((((U.setCell ⟨gx, 0, none⟩ v0).setCell ⟨gx, 1, none⟩ v1).setCell ⟨gx, 2, none⟩ v2).setCell ⟨gx, 3, none⟩ v3).setCell ⟨gx, 4, none⟩ v4)) := fun gx U h0 hx v0 v1 v2 v3 v4 => HC.out.is (i0_set h0 hx v0 v1 v2 v3 v4)
 go_enter Try.func15, Try.ntmps15
 go_wp2
 rename_i K0 hK0
 have hrest : ∀ (gc gm gx : Nat) (U : World), I0 w U → IC w U gc n0 → IM w U gm C.B → IX w U gx → K0 { tmps := #[.pointer (some ⟨p, 0, none⟩), undef, .pointer (some ⟨w.heap.size, 0, none⟩), .pointer (some ⟨gx, 0, none⟩), undef, undef, undef, undef, .pointer (some ⟨p, 0, none⟩), .pointer (some ⟨p, 0, none⟩), .pointer (some ⟨p, 0, none⟩), .agg #[.int .i64 (C.B : Int), .int .i64 (C.P : Int), .int .i64 (C.S : Int)], .pointer (some ⟨p, 0, none⟩), .pointer (some ⟨p, 0, none⟩), .pointer (some ⟨p, 0, none⟩), .pointer (some ⟨p, 0, none⟩), .int .i64 (C.B : Int), .pointer (some ⟨p, 0, none⟩), .pointer (some ⟨p, 0, none⟩), .pointer (some ⟨p, 0, none⟩), .pointer (some ⟨p, 1, none⟩), .int .i64 (C.P : Int), .int .i64 (m0 : Int), .pointer (some ⟨p, 0, none⟩), .pointer (some ⟨p, 0, none⟩), .pointer (some ⟨p, 0, none⟩), .agg #[.int .i64 (C.B : Int), .int .i64 (C.P : Int), .int .i64 (C.S : Int)], .int .i64 (l0 : Int), .int .i64 (n0 : Int), .slice (some ⟨gc, 0, none⟩) 0 n0, .pointer (some ⟨p, 0, none⟩), .pointer (some ⟨p, 0, none⟩), .pointer (some ⟨p, 0, none⟩), .pointer (some ⟨p, 0, none⟩), .int .i64 (C.B : Int), .slice (some ⟨gm, 0, none⟩) C.B C.B, .agg #[.int .i64 (C.B : Int), .int .i64 (C.P : Int), .int .i64 (C.S : Int), .slice (some ⟨gc, 0, none⟩) 0 n0, .slice (some ⟨gm, 0, none⟩) C.B C.B], undef, undef, undef, undef, undef, undef, undef, undef, undef, undef, undef, undef, undef, undef, undef, undef, undef, undef, undef, undef, undef, undef, undef, undef, undef, undef, undef, undef, undef, undef, undef, undef, undef, undef, undef, undef, undef, undef, undef, undef, undef, undef], defers := [] } (((((U.setCell ⟨gx, 0, none⟩ (.int .i64 (C.B : Int))).setCell ⟨gx, 1, none⟩ (.int .i64 (C.P : Int))).setCell ⟨gx, 2, none⟩ (.int .i64 (C.S : Int))).setCell ⟨gx, 3, none⟩ (.slice (some ⟨gc, 0, none⟩) 0 n0)).setCell ⟨gx, 4, none⟩ (.slice (some ⟨gm, 0, none⟩) C.B C.B)) := by
  intro gc gm gx U h0 hl hm hx
  have HL := hide (IR.start h0 hl hm hx _ _ _ _ _ rfl rfl rfl rfl rfl)
  refine hK0 _ _ ?_
  clear hK0
  generalize hV : World.setCell _ ⟨gx, 4, none⟩ _ = V at HL ⊢
  clear hV h0 hl hm hx
  have c3 := (HC.out.below HL.out.i0.bel).box.c3
  have hnb : x.nb = C.B := by rw [HC.out.nb, HC.out.len, hok.bl]
  rw [hnb] at c3
  go_wp2
  clear c3
  go_loopw [42] (fun s42 wr => ∃ (i gc n cc : Nat), i ≤ C.B ∧ s42 = .int .i64 i ∧ Hid (IR w wr C gx gm gc n cc (preL C i 0) i) ∧ Hid (n = i * (C.P * l0))) (fun s42 _ => C.B - (intOf s42).toNat)
  case atStart => exact ⟨0, gc, 0, n0, Nat.zero_le _, rfl, HL, by unfold Hid; simp⟩
  case round =>
   clear HL
   obtain ⟨i, gq, n, cc, hi, rfl, HI, hn⟩ := hrel
   by_cases hlt : i < C.B
   ·have dm : decide ((i : Int) < (C.B : Int)) = true := decide_eq_true (by omega)
    have i1 : (i : Int) < (C.B : Int) := by omega
    have hbl : i < bs.length := by rw [HC.out.len, hok.bl]; exact hlt
    have hib : bs[i]? = some bs[i] := List.getElem?_eq_getElem hbl
    obtain ⟨b, hb⟩ : ∃ b, bs[i] = b := ⟨_, rfl⟩
    rw [hb] at hib
    have hnp : b.ps.length = C.P := (HC.out.bok b (List.mem_of_getElem? hib)).np
    have HBV : Hid (C.bl[i]? = some b.v) := by unfold Hid; rw [← HC.out.bl, List.getElem?_map, hib]; rfl
    obtain ⟨m0', m1', m2', m3'⟩ := (HC.out.below HI.out.i0.bel).blk hib
    rw [hnp] at m3'
    clear hb hbl
    go_upto_region 5 with fail
    clear m0' m1' m2' m3'
    have hq0 := alloc_new wr (.cells #[.bool b.m, .bool b.r, .int .i64 b.nx, .slice (some ⟨b.g, 0, none⟩) C.P C.P] 106)
    have HI2 := hide (HI.out.keep (below_alloc wr (.cells #[.bool b.m, .bool b.r, .int .i64 b.nx, .slice (some ⟨b.g, 0, none⟩) C.P C.P] 106)))
    obtain ⟨qb, hqb⟩ : ∃ q, q = wr.heap.size := ⟨_, rfl⟩
    obtain ⟨t, ht⟩ : ∃ t, t = wr.alloc (.cells #[.bool b.m, .bool b.r, .int .i64 b.nx, .slice (some ⟨b.g, 0, none⟩) C.P C.P] 106) := ⟨_, rfl⟩
    rw [← ht, ← hqb] at hq0
    rw [← ht] at HI2 ⊢
    rw [← hqb]
    clear ht hqb HI
    obtain ⟨b0, b1, b2, b3⟩ := cells4 hq0
    obtain ⟨x0, x1, x2, x3, x4⟩ := cells5 HI2.out.box
    have mc := HI2.out.mcell hok.bl hlt
    have fzm := fun j => frozen_of_row t gm j _ 4 HI2.out.mks
    have nqm : gm ≠ qb := tag_ne HI2.out.mks hq0 (t := 4) (u := 106) rfl rfl (by decide)
    have nqm2 : qb ≠ gm := fun e => nqm e.symm
    clear hq0
    go_wp2
    clear b0 b1 b2 b3 x0 x1 x2 x3 x4 fzm mc
    have HI3 := hide (HI2.out.mark hok.bl HBV.out)
    have em : b.v.m = b.m := rfl
    rw [em] at HI3
    generalize hT : World.setCell t ⟨gm, i, none⟩ _ = t3 at HI3 ⊢
    clear hT HI2 nqm nqm2 em
    go_loopw [56] (fun s56 wr => ∃ (k gc n cc : Nat), k ≤ C.P ∧ s56 = .int .i64 k ∧ Hid (IR w wr C gx gm gc n cc (preL C i k) (i + 1)) ∧ Hid (n = (i * C.P + k) * l0)) (fun s56 _ => C.P - (intOf s56).toNat)
    case atStart => exact ⟨0, gq, n, cc, Nat.zero_le _, rfl, HI3, by unfold Hid; rw [hn.out, Nat.add_zero, Nat.mul_assoc]⟩
    case round =>
     clear HI3 hn
     obtain ⟨k, gi, n, cc, hk, rfl, HI, hn⟩ := hrel
     by_cases hkt : k < C.P
     ·have dk : decide ((k : Int) < (C.P : Int)) = true := decide_eq_true (by omega)
      have hkq : b.ps[k]? = some b.ps[k] := List.getElem?_eq_getElem (by omega)
      obtain ⟨q, hq⟩ : ∃ q, b.ps[k] = q := ⟨_, rfl⟩
      rw [hq] at hkq
      clear hq
      obtain ⟨n1, hn1⟩ : ∃ n, n = 256 * C.S := ⟨_, rfl⟩
      obtain ⟨n2, hn2⟩ : ∃ n, n = 54 + 3 * C.S := ⟨_, rfl⟩
      have HN12 := hide (And.intro hn1 hn2)
      have hn12 : n1 + n2 = l0 := by rw [HL0.out, hn1, hn2]; rfl
      have p1 : 0 < n1 := by omega
      have p2 : 0 < n2 := by omega
      clear hn1 hn2
      have hRD : Hid (readL C i k = flipsL q.bits (C.fl i k)) := hide (readL_of (q := q.v) HBV.out (by show (b.ps.map Pc.v)[k]? = _; rw [List.getElem?_map, hkq]; rfl))
      go_upto_region 10 with (first | (go_at_call 58; refine (reads_any _ p F C x bs fe (HC.out.below HI.out.i0.bel) hok i k b q hib hkq).mono ?_; rintro e u2 ⟨d1, f1, d2, f2, D, Z, rfl, o1, o2, hne, hdz, b2⟩; rw [← HN12.out.1, ← HN12.out.2]; rw [← HN12.out.1] at o1; rw [← HN12.out.2] at o2; have HO1 := hide o1; have HO2 := hide o2; have HDZ := hide hdz; have HI2 := hide (HI.out.keep b2); have HB2 := hide b2; clear o1 o2 hne hdz b2))
      have hB3 := below_alloc u2 (.cells #[.slice (some ⟨d1, 0, none⟩) n1 f1, .slice (some ⟨d2, 0, none⟩) n2 f2] 36)
      have hq0 := alloc_new u2 (.cells #[.slice (some ⟨d1, 0, none⟩) n1 f1, .slice (some ⟨d2, 0, none⟩) n2 f2] 36)
      have HI3 := hide (HI2.out.keep hB3)
      have HO1t := hide (HO1.out.below hB3)
      have HO2t := hide (HO2.out.below hB3)
      have hgc : gi < wr.heap.size := HI.out.own.lt.2
      have hgx : gx < wr.heap.size := lt_of_block HI.out.box
      obtain ⟨qb, hqb⟩ : ∃ q, q = u2.heap.size := ⟨_, rfl⟩
      obtain ⟨t, ht⟩ : ∃ t, t = u2.alloc (.cells #[.slice (some ⟨d1, 0, none⟩) n1 f1, .slice (some ⟨d2, 0, none⟩) n2 f2] 36) := ⟨_, rfl⟩
      rw [← ht, ← hqb] at hq0
      rw [← ht] at HI3 HO1t HO2t ⊢
      rw [← hqb]
      clear ht hqb hB3 HO1 HO2 HI2 HB2
      obtain ⟨i0, hi0, hz0, hz1, hz2⟩ := info_parts info5
      have hbig : n + l0 ≤ 139329536 := by
       have h1 : (i * C.P + k + 1) ≤ C.B * C.P := by
        have h2 : i * C.P + C.P ≤ C.B * C.P := by rw [← Nat.succ_mul]; exact Nat.mul_le_mul_right _ hlt
        omega
       have h3 : C.B * C.P ≤ 65536 := by have := of_decide_eq_true hok.fits; omega
       have h4 : l0 ≤ 2126 := by rw [HL0.out]; exact pgB_le hS.2
       have h5 : n + l0 = (i * C.P + k + 1) * l0 := by rw [hn.out, Nat.succ_mul]
       rw [h5]
       exact Nat.le_trans (Nat.mul_le_mul (Nat.le_trans h1 h3) h4) (by decide)
      obtain ⟨y0, y1⟩ := cells2 hq0
      obtain ⟨x0, x1, x2, x3, x4⟩ := cells5 HI3.out.box
      have HQ0 := hide hq0
      have hd1 := HO1t.out.lt.1
      have hd2 := HO2t.out.lt.1
      clear hq0 x0 x1 x2 x4
      go_upto_region 11 with (
       (at_builtin; refine wpList_append_own _ rfl _ _ 24 rfl (w.heap.size + 1) 5 i0 (.int .u8 0) 1 1 Try.underlying24 hi0 hz0 hz1 hz2 rfl (by decide) _ _ _ rfl HI3.out.own ⟨d1, 0, none⟩ n1 f1 (D.map (Value.int .u8)) rfl (by simp; exact HO1t.out.len) (own_news HO1t.out) (by simp [Value.oneCell']) (by simp only [maxLen]; omega) (by omega) HI3.out.i0.lt ?_; intro v1 w1 ow1 gr1 _; rw [← List.map_append] at ow1; obtain ⟨ga, ca, rfl, _⟩ := own_shape ow1 (by omega); have HA := hide (HI3.out.app ow1 gr1); have hx1 := HI3.out.app1 gr1; have fx1 := fun j => frozen_of_row w1 gx j _ 27 hx1; obtain ⟨z0, z1, z2, z3, z4⟩ := cells5 hx1; clear ow1 gr1 hx1 z0 z1 z2 z4 y0 y1 x3))
      clear fx1 z3
      generalize hT : World.setCell w1 ⟨gx, 3, none⟩ _ = t4 at HA ⊢
      clear hT
      have HI4 := hide HA.out.1
      have HO4 := hide HA.out.2
      clear HA
      have hq4 := (HO4.out.block qb (lt_of_block HQ0.out) (fun e => by
       obtain ⟨cs', hc'⟩ := own_tag HI3.out.own (g := gi) rfl
       rcases e with e | e
       ·exact tag_ne HQ0.out hc' (t := 36) (u := 5) rfl rfl (by decide) e
       ·exact tag_ne HQ0.out HI3.out.box (t := 36) (u := 27) rfl rfl (by decide) e)).trans HQ0.out
      have HO2q : Hid (Own t4 wr.heap.size d2 n2 f2 Z) := owns_keep HO2t.out (fun g hg => by cases hg; exact HO4.out.block d2 HO2t.out.lt.2 (fun e => by rcases e with e | e <;> omega))
      obtain ⟨y0, y1⟩ := cells2 hq4
      obtain ⟨x0, x1, x2, x3, x4⟩ := cells5 HI4.out.box
      clear x0 x1 x2 x4 hq4
      go_upto_region 12 with (
       (at_builtin; refine wpList_append_own _ rfl _ _ 24 rfl (w.heap.size + 1) 5 i0 (.int .u8 0) 1 1 Try.underlying24 hi0 hz0 hz1 hz2 rfl (by decide) _ _ _ rfl HI4.out.own ⟨d2, 0, none⟩ n2 f2 (Z.map (Value.int .u8)) rfl (by simp; exact HO2q.out.len) (own_news HO2q.out) (by simp [Value.oneCell']) (by simp only [maxLen]; omega) (by omega) HI4.out.i0.lt ?_; intro v1 w1 ow1 gr1 _; rw [← List.map_append] at ow1; obtain ⟨gd, cd, rfl, _⟩ := own_shape ow1 (by omega); have HA := hide (HI4.out.app ow1 gr1); have hx1 := HI4.out.app1 gr1; have fx1 := fun j => frozen_of_row w1 gx j _ 27 hx1; obtain ⟨z0, z1, z2, z3, z4⟩ := cells5 hx1; clear ow1 gr1 hx1 z0 z1 z2 z4 y0 y1 x3))
      clear fx1 z3
      generalize hT : World.setCell w1 ⟨gx, 3, none⟩ _ = t5 at HA ⊢
      clear hT
      have HI5 := hide HA.out.1
      clear HA
      have HDD : Hid (preL C i k ++ D ++ Z = preL C i (k + 1)) := by unfold Hid; rw [preL_page, hRD.out, ← HDZ.out, List.append_assoc]
      rw [HDD.out] at HI5
      go_wp2
      go_roundw
      case rel => exact ⟨k + 1, gd, _, cd, hkt, by go_num, HI5, by unfold Hid; rw [hn.out, Nat.add_assoc, hn12, ← Nat.add_assoc, Nat.succ_mul]⟩
      case measure => simp [intOf]; omega
     ·have dk : decide ((k : Int) < (C.P : Int)) = false := decide_eq_false (by omega)
      have ek : k = C.P := by omega
      subst ek
      rw [preL_block] at HI
      go_wp2
      go_roundw
      case rel => exact ⟨i + 1, gi, n, cc, hlt, by go_num, HI, by unfold Hid; rw [hn.out, ← Nat.succ_mul, Nat.mul_assoc]⟩
      case measure => simp [intOf]; omega
   ·have dm : decide ((i : Int) < (C.B : Int)) = false := decide_eq_false (by omega)
    have ei : i = C.B := by omega
    subst ei
    obtain ⟨x0, x1, x2, x3, x4⟩ := cells5 HI.out.box
    obtain ⟨z0, z1, z2, z3, z4⟩ := cells5 HI.out.i0.bx
    have fzr := fun j => frozen_of_row wr w.heap.size j _ 27 HI.out.i0.bx
    have hgx := HI.out.hx
    go_wp2
    have hs := set50 HI.out.i0.bx (.int .i64 (C.B : Int)) (.int .i64 (C.P : Int)) (.int .i64 (C.S : Int)) (.slice (some ⟨gq, 0, none⟩) n cc) (.slice (some ⟨gm, 0, none⟩) C.B C.B)
    have ho := only50 wr w.heap.size (.int .i64 (C.B : Int)) (.int .i64 (C.P : Int)) (.int .i64 (C.S : Int)) (.slice (some ⟨gq, 0, none⟩) n cc) (.slice (some ⟨gm, 0, none⟩) C.B C.B)
    generalize hT : World.setCell _ ⟨w.heap.size, 4, none⟩ _ = v9 at hs ho ⊢
    obtain ⟨y0, y1, y2, y3, y4⟩ := cells5 hs
    refine bodyPost_ret (v := .agg #[.int .i64 (C.B : Int), .int .i64 (C.P : Int), .int .i64 (C.S : Int), .slice (some ⟨gq, 0, none⟩) n cc, .slice (some ⟨gm, 0, none⟩) C.B C.B]) (by simp [results, Try.results15, go_sem, y0, y1, y2, y3, y4]) rfl ?_
    have hn0 : n = C.B * C.P * pgB C.S := by rw [hn.out, HL0.out, Nat.mul_assoc]
    have hm1 := HI.out.hm
    refine ⟨⟨gq, cc, gm, by rw [← hn0], ?_, ?_, by omega⟩, ?_⟩
    ·rw [← hn0, ← preL_all]
     exact owns_keep HI.out.own (fun g hg => by cases hg; exact ho.block gq HI.out.own.lt.2 (by have := HI.out.own.lt.1; omega))
    ·refine (ho.block gm (lt_of_block HI.out.mks) (by omega)).trans (HI.out.mks.trans ?_)
     rw [Nat.sub_self, List.take_of_length_le (by rw [hok.bl]; exact Nat.le_refl _)]
     simp
    ·exact HI.out.i0.bel.trans (ho.below (fun j hj => by omega) HI.out.i0.bel.size)
 clear hK0
 refine wp_region_held_drew (S := (fun u => u.cell? ⟨p, 0, none⟩ = some (.int .i64 (C.B : Int)) ∧ u.cell? ⟨p, 1, none⟩ = some (.int .i64 (C.P : Int)) ∧ u.cell? ⟨p, 2, none⟩ = some (.int .i64 (C.S : Int)))) (by kernel_rfl) (HC.out.is H0.out) (fun hHeld => ?_)
 refine tk 0 ?_
 refine tk 1 ?_
 refine tk 2 ?_
 refine tk 3 ?_
 refine tk 4 ?_
 refine tk 5 ?_
 refine tk 6 ?_
 refine tk 7 ?_
 refine tk 8 ?_
 refine tk 9 ?_
 refine tk 10 ?_
 refine tk 11 ?_
 refine tk 12 ?_
 refine tk 13 ?_
 refine tk 14 ?_
 rw [HM0.out]
 refine tk 15 ?_
 refine tk 16 ?_
 refine tk 17 ?_
 refine tk 18 ?_
 refine tk 22 ?_
 refine tk 23 ?_
 refine tk 24 ?_
 refine tk 25 ?_
 refine tk 26 ?_
 obtain ⟨U0, hU0⟩ : ∃ u, u = (w.alloc (.cells #[.int .i64 0, .int .i64 0, .int .i64 0, .slice none 0 0, .slice none 0 0] 27)).drew := ⟨_, rfl⟩
 rw [← hU0] at hHeld H0 ⊢
 clear hU0
 refine wpAnyH_ready (rs := [19, 27, 29]) (by kernel_rfl) (by simp) ?_
 refine AllReadyH.cons (o := { dst := some 27, op := Op.call { callee := Callee.value (Operand.func 46), args := #[Operand.tmp 26], argTypes := #[23] }, type := 3, pos := "chip.go:132", after := #[{ on := 18, ground := Ground.data }], guard := none }) rfl (fun K hK => ?_) (AllReadyH.cons (o := { dst := some 35, op := Op.makeSlice 25 (Operand.tmp 34) (Operand.tmp 34), type := 25, pos := "chip.go:130", after := #[{ on := 26, ground := Ground.data }, { on := 26, ground := Ground.data }], guard := none }) rfl (fun K hK => ?_) (AllReadyH.cons (o := { dst := some 3, op := Op.alloc 27, type := 0, pos := "chip.go:130", after := #[], guard := none }) rfl (fun K hK => ?_) AllReadyH.nil))
 ·go_simp
  go_at_call 46
  refine (pageB_any _ _ C.S _ hS.1 hS.2).mono ?_
  rintro e U1 ⟨rfl, hbk⟩
  rw [← HL0.out]
  go_wp2_with fail
  have H0k := hide (H0.out.keep hbk)
  have hSnew := HC.out.is H0k.out
  clear hbk
  clear H0
  refine hK.out _ _ hSnew (fun hHeld19 => ?_)
  clear hK K hSnew hHeld
  have hHeld := hHeld19
  clear hHeld19
  try simp only [Act.put, zSt, zS0, zS1]
  have H0 := H0k
  clear H0k
  refine tk 20 ?_
  rw [HN0.out]
  refine wpAnyH_ready (rs := [21, 27, 29]) (by kernel_rfl) (by simp) ?_
  refine AllReadyH.cons (o := { dst := some 29, op := Op.makeSlice 24 (Operand.const (Value.int IntKind.i64 0)) (Operand.tmp 28), type := 24, pos := "chip.go:130", after := #[{ on := 20, ground := Ground.data }], guard := none }) rfl (fun K hK => ?_) (AllReadyH.cons (o := { dst := some 35, op := Op.makeSlice 25 (Operand.tmp 34) (Operand.tmp 34), type := 25, pos := "chip.go:130", after := #[{ on := 26, ground := Ground.data }, { on := 26, ground := Ground.data }], guard := none }) rfl (fun K hK => ?_) (AllReadyH.cons (o := { dst := some 3, op := Op.alloc 27, type := 0, pos := "chip.go:130", after := #[], guard := none }) rfl (fun K hK => ?_) AllReadyH.nil))
  ·go_simp
   go_wp2_with fail
   change K _ ((U1).alloc (.cells (madeCells #[.int .u8 0] n0) 5))
   have hbk : Below (U1).heap.size (U1) ((U1).alloc (.cells (madeCells #[.int .u8 0] n0) 5)) := below_alloc _ _
   have HLk : Hid (IC w ((U1).alloc (.cells (madeCells #[.int .u8 0] n0) 5)) (U1).heap.size n0) := ic_new _ _ _ hn0 H0.out.lt
   have H0k := hide (H0.out.keep hbk)
   have hSnew := HC.out.is H0k.out
   clear hbk
   clear H0
   refine hK.out _ _ hSnew (fun hHeld21 => ?_)
   clear hK K hSnew hHeld
   have hHeld := hHeld21
   clear hHeld21
   try simp only [Act.put, zSt, zS0, zS1]
   obtain ⟨gU2, hgU2⟩ : ∃ g, g = (U1).heap.size := ⟨_, rfl⟩
   obtain ⟨U2, hU2⟩ : ∃ u, u = ((U1).alloc (.cells (madeCells #[.int .u8 0] n0) 5)) := ⟨_, rfl⟩
   rw [← hgU2] at HLk ⊢
   rw [← hU2] at hHeld H0k HLk ⊢
   clear hU2 hgU2
   have H0 := H0k
   have HL := HLk
   clear H0k HLk
   refine wpAnyH_ready (rs := [27, 29]) (by kernel_rfl) (by simp) ?_
   refine AllReadyH.cons (o := { dst := some 35, op := Op.makeSlice 25 (Operand.tmp 34) (Operand.tmp 34), type := 25, pos := "chip.go:130", after := #[{ on := 26, ground := Ground.data }, { on := 26, ground := Ground.data }], guard := none }) rfl (fun K hK => ?_) (AllReadyH.cons (o := { dst := some 3, op := Op.alloc 27, type := 0, pos := "chip.go:130", after := #[], guard := none }) rfl (fun K hK => ?_) AllReadyH.nil)
   ·go_simp
    go_wp2_with fail
    change K _ ((U2).alloc (.cells (List.replicate C.B (.bool false)).toArray 4))
    have hbk : Below (U2).heap.size (U2) ((U2).alloc (.cells (List.replicate C.B (.bool false)).toArray 4)) := below_alloc _ _
    have HMk : Hid (IM w ((U2).alloc (.cells (List.replicate C.B (.bool false)).toArray 4)) (U2).heap.size C.B) := ⟨alloc_new _ _, H0.out.lt⟩
    have H0k := hide (H0.out.keep hbk)
    have HLk := hide (HL.out.keep hbk)
    have hSnew := HC.out.is H0k.out
    clear hbk
    clear H0 HL
    refine hK.out _ _ hSnew (fun hHeld27 => ?_)
    clear hK K hSnew hHeld
    have hHeld := hHeld27
    clear hHeld27
    try simp only [Act.put, zSt, zS0, zS1]
    obtain ⟨gU3, hgU3⟩ : ∃ g, g = (U2).heap.size := ⟨_, rfl⟩
    obtain ⟨U3, hU3⟩ : ∃ u, u = ((U2).alloc (.cells (List.replicate C.B (.bool false)).toArray 4)) := ⟨_, rfl⟩
    rw [← hgU3] at HMk ⊢
    rw [← hU3] at hHeld H0k HLk HMk ⊢
    clear hU3 hgU3
    have H0 := H0k
    have HL := HLk
    have HM := HMk
    clear H0k HLk HMk
    refine tk 28 ?_
    refine rd 29 (fun K hK => ?_)
    go_simp
    go_wp2_with fail
    change K _ ((U3).alloc (.cells #[.int .i64 0, .int .i64 0, .int .i64 0, .slice none 0 0, .slice none 0 0] 27))
    have hbk : Below (U3).heap.size (U3) ((U3).alloc (.cells #[.int .i64 0, .int .i64 0, .int .i64 0, .slice none 0 0, .slice none 0 0] 27)) := below_alloc _ _
    have HXk : Hid (IX w ((U3).alloc (.cells #[.int .i64 0, .int .i64 0, .int .i64 0, .slice none 0 0, .slice none 0 0] 27)) (U3).heap.size) := ⟨alloc_new _ _, H0.out.lt⟩
    have H0k := hide (H0.out.keep hbk)
    have HLk := hide (HL.out.keep hbk)
    have HMk := hide (HM.out.keep hbk)
    have hSnew := HC.out.is H0k.out
    clear hbk
    clear H0 HL HM
    refine hK.out _ _ hSnew (fun hHeld29 => ?_)
    clear hK K hSnew hHeld
    have hHeld := hHeld29
    clear hHeld29
    try simp only [Act.put, zSt, zS0, zS1]
    obtain ⟨gU4, hgU4⟩ : ∃ g, g = (U3).heap.size := ⟨_, rfl⟩
    obtain ⟨U4, hU4⟩ : ∃ u, u = ((U3).alloc (.cells #[.int .i64 0, .int .i64 0, .int .i64 0, .slice none 0 0, .slice none 0 0] 27)) := ⟨_, rfl⟩
    rw [← hgU4] at HXk ⊢
    rw [← hU4] at hHeld H0k HLk HMk HXk ⊢
    clear hU4 hgU4
    have H0 := H0k
    have HL := HLk
    have HM := HMk
    have HX := HXk
    clear H0k HLk HMk HXk
    refine rd 30 (fun K hK => ?_)
    obtain ⟨x0, x1, x2, x3, x4⟩ := cells5 HX.out.1
    have fx := fun j => frozen_of_row _ gU4 j _ 27 HX.out.1
    go_simp
    go_wp2_with fail
    have hSnew := HSK.out gU4 U4 H0.out HX.out (.int .i64 (C.B : Int)) (.int .i64 (C.P : Int)) (.int .i64 (C.S : Int)) (.slice (some ⟨gU2, 0, none⟩) 0 n0) (.slice (some ⟨gU3, 0, none⟩) C.B C.B)
    refine hK.out _ _ hSnew (fun hHeld30 => ?_)
    clear hK K hSnew hHeld
    have hHeld := hHeld30
    clear hHeld30
    try simp only [Act.put, zSt, zS0, zS1]
    refine wpAnyH_done (by kernel_rfl) ?_ _
    exact hrest gU2 gU3 gU4 U4 H0.out HL.out HM.out HX.out
   ·go_simp
    go_wp2_with fail
    change K _ ((U2).alloc (.cells #[.int .i64 0, .int .i64 0, .int .i64 0, .slice none 0 0, .slice none 0 0] 27))
    have hbk : Below (U2).heap.size (U2) ((U2).alloc (.cells #[.int .i64 0, .int .i64 0, .int .i64 0, .slice none 0 0, .slice none 0 0] 27)) := below_alloc _ _
    have HXk : Hid (IX w ((U2).alloc (.cells #[.int .i64 0, .int .i64 0, .int .i64 0, .slice none 0 0, .slice none 0 0] 27)) (U2).heap.size) := ⟨alloc_new _ _, H0.out.lt⟩
    have H0k := hide (H0.out.keep hbk)
    have HLk := hide (HL.out.keep hbk)
    have hSnew := HC.out.is H0k.out
    clear hbk
    clear H0 HL
    refine hK.out _ _ hSnew (fun hHeld29 => ?_)
    clear hK K hSnew hHeld
    have hHeld := hHeld29
    clear hHeld29
    try simp only [Act.put, zSt, zS0, zS1]
    obtain ⟨gU3, hgU3⟩ : ∃ g, g = (U2).heap.size := ⟨_, rfl⟩
    obtain ⟨U3, hU3⟩ : ∃ u, u = ((U2).alloc (.cells #[.int .i64 0, .int .i64 0, .int .i64 0, .slice none 0 0, .slice none 0 0] 27)) := ⟨_, rfl⟩
    rw [← hgU3] at HXk ⊢
    rw [← hU3] at hHeld H0k HLk HXk ⊢
    clear hU3 hgU3
    have H0 := H0k
    have HL := HLk
    have HX := HXk
    clear H0k HLk HXk
    refine rd 27 (fun K hK => ?_)
    go_simp
    go_wp2_with fail
    change K _ ((U3).alloc (.cells (List.replicate C.B (.bool false)).toArray 4))
    have hbk : Below (U3).heap.size (U3) ((U3).alloc (.cells (List.replicate C.B (.bool false)).toArray 4)) := below_alloc _ _
    have HMk : Hid (IM w ((U3).alloc (.cells (List.replicate C.B (.bool false)).toArray 4)) (U3).heap.size C.B) := ⟨alloc_new _ _, H0.out.lt⟩
    have H0k := hide (H0.out.keep hbk)
    have HLk := hide (HL.out.keep hbk)
    have HXk := hide (HX.out.keep hbk)
    have hSnew := HC.out.is H0k.out
    clear hbk
    clear H0 HL HX
    refine hK.out _ _ hSnew (fun hHeld27 => ?_)
    clear hK K hSnew hHeld
    have hHeld := hHeld27
    clear hHeld27
    try simp only [Act.put, zSt, zS0, zS1]
    obtain ⟨gU4, hgU4⟩ : ∃ g, g = (U3).heap.size := ⟨_, rfl⟩
    obtain ⟨U4, hU4⟩ : ∃ u, u = ((U3).alloc (.cells (List.replicate C.B (.bool false)).toArray 4)) := ⟨_, rfl⟩
    rw [← hgU4] at HMk ⊢
    rw [← hU4] at hHeld H0k HLk HXk HMk ⊢
    clear hU4 hgU4
    have H0 := H0k
    have HL := HLk
    have HX := HXk
    have HM := HMk
    clear H0k HLk HXk HMk
    refine tk 28 ?_
    refine rd 30 (fun K hK => ?_)
    obtain ⟨x0, x1, x2, x3, x4⟩ := cells5 HX.out.1
    have fx := fun j => frozen_of_row _ gU3 j _ 27 HX.out.1
    go_simp
    go_wp2_with fail
    have hSnew := HSK.out gU3 U4 H0.out HX.out (.int .i64 (C.B : Int)) (.int .i64 (C.P : Int)) (.int .i64 (C.S : Int)) (.slice (some ⟨gU2, 0, none⟩) 0 n0) (.slice (some ⟨gU4, 0, none⟩) C.B C.B)
    refine hK.out _ _ hSnew (fun hHeld30 => ?_)
    clear hK K hSnew hHeld
    have hHeld := hHeld30
    clear hHeld30
    try simp only [Act.put, zSt, zS0, zS1]
    refine wpAnyH_done (by kernel_rfl) ?_ _
    exact hrest gU2 gU4 gU3 U4 H0.out HL.out HM.out HX.out
  ·go_simp
   go_wp2_with fail
   change K _ ((U1).alloc (.cells (List.replicate C.B (.bool false)).toArray 4))
   have hbk : Below (U1).heap.size (U1) ((U1).alloc (.cells (List.replicate C.B (.bool false)).toArray 4)) := below_alloc _ _
   have HMk : Hid (IM w ((U1).alloc (.cells (List.replicate C.B (.bool false)).toArray 4)) (U1).heap.size C.B) := ⟨alloc_new _ _, H0.out.lt⟩
   have H0k := hide (H0.out.keep hbk)
   have hSnew := HC.out.is H0k.out
   clear hbk
   clear H0
   refine hK.out _ _ hSnew (fun hHeld27 => ?_)
   clear hK K hSnew hHeld
   have hHeld := hHeld27
   clear hHeld27
   try simp only [Act.put, zSt, zS0, zS1]
   obtain ⟨gU2, hgU2⟩ : ∃ g, g = (U1).heap.size := ⟨_, rfl⟩
   obtain ⟨U2, hU2⟩ : ∃ u, u = ((U1).alloc (.cells (List.replicate C.B (.bool false)).toArray 4)) := ⟨_, rfl⟩
   rw [← hgU2] at HMk ⊢
   rw [← hU2] at hHeld H0k HMk ⊢
   clear hU2 hgU2
   have H0 := H0k
   have HM := HMk
   clear H0k HMk
   refine wpAnyH_ready (rs := [21, 29]) (by kernel_rfl) (by simp) ?_
   refine AllReadyH.cons (o := { dst := some 29, op := Op.makeSlice 24 (Operand.const (Value.int IntKind.i64 0)) (Operand.tmp 28), type := 24, pos := "chip.go:130", after := #[{ on := 20, ground := Ground.data }], guard := none }) rfl (fun K hK => ?_) (AllReadyH.cons (o := { dst := some 3, op := Op.alloc 27, type := 0, pos := "chip.go:130", after := #[], guard := none }) rfl (fun K hK => ?_) AllReadyH.nil)
   ·go_simp
    go_wp2_with fail
    change K _ ((U2).alloc (.cells (madeCells #[.int .u8 0] n0) 5))
    have hbk : Below (U2).heap.size (U2) ((U2).alloc (.cells (madeCells #[.int .u8 0] n0) 5)) := below_alloc _ _
    have HLk : Hid (IC w ((U2).alloc (.cells (madeCells #[.int .u8 0] n0) 5)) (U2).heap.size n0) := ic_new _ _ _ hn0 H0.out.lt
    have H0k := hide (H0.out.keep hbk)
    have HMk := hide (HM.out.keep hbk)
    have hSnew := HC.out.is H0k.out
    clear hbk
    clear H0 HM
    refine hK.out _ _ hSnew (fun hHeld21 => ?_)
    clear hK K hSnew hHeld
    have hHeld := hHeld21
    clear hHeld21
    try simp only [Act.put, zSt, zS0, zS1]
    obtain ⟨gU3, hgU3⟩ : ∃ g, g = (U2).heap.size := ⟨_, rfl⟩
    obtain ⟨U3, hU3⟩ : ∃ u, u = ((U2).alloc (.cells (madeCells #[.int .u8 0] n0) 5)) := ⟨_, rfl⟩
    rw [← hgU3] at HLk ⊢
    rw [← hU3] at hHeld H0k HMk HLk ⊢
    clear hU3 hgU3
    have H0 := H0k
    have HM := HMk
    have HL := HLk
    clear H0k HMk HLk
    refine tk 28 ?_
    refine rd 29 (fun K hK => ?_)
    go_simp
    go_wp2_with fail
    change K _ ((U3).alloc (.cells #[.int .i64 0, .int .i64 0, .int .i64 0, .slice none 0 0, .slice none 0 0] 27))
    have hbk : Below (U3).heap.size (U3) ((U3).alloc (.cells #[.int .i64 0, .int .i64 0, .int .i64 0, .slice none 0 0, .slice none 0 0] 27)) := below_alloc _ _
    have HXk : Hid (IX w ((U3).alloc (.cells #[.int .i64 0, .int .i64 0, .int .i64 0, .slice none 0 0, .slice none 0 0] 27)) (U3).heap.size) := ⟨alloc_new _ _, H0.out.lt⟩
    have H0k := hide (H0.out.keep hbk)
    have HMk := hide (HM.out.keep hbk)
    have HLk := hide (HL.out.keep hbk)
    have hSnew := HC.out.is H0k.out
    clear hbk
    clear H0 HM HL
    refine hK.out _ _ hSnew (fun hHeld29 => ?_)
    clear hK K hSnew hHeld
    have hHeld := hHeld29
    clear hHeld29
    try simp only [Act.put, zSt, zS0, zS1]
    obtain ⟨gU4, hgU4⟩ : ∃ g, g = (U3).heap.size := ⟨_, rfl⟩
    obtain ⟨U4, hU4⟩ : ∃ u, u = ((U3).alloc (.cells #[.int .i64 0, .int .i64 0, .int .i64 0, .slice none 0 0, .slice none 0 0] 27)) := ⟨_, rfl⟩
    rw [← hgU4] at HXk ⊢
    rw [← hU4] at hHeld H0k HMk HLk HXk ⊢
    clear hU4 hgU4
    have H0 := H0k
    have HM := HMk
    have HL := HLk
    have HX := HXk
    clear H0k HMk HLk HXk
    refine rd 30 (fun K hK => ?_)
    obtain ⟨x0, x1, x2, x3, x4⟩ := cells5 HX.out.1
    have fx := fun j => frozen_of_row _ gU4 j _ 27 HX.out.1
    go_simp
    go_wp2_with fail
    have hSnew := HSK.out gU4 U4 H0.out HX.out (.int .i64 (C.B : Int)) (.int .i64 (C.P : Int)) (.int .i64 (C.S : Int)) (.slice (some ⟨gU3, 0, none⟩) 0 n0) (.slice (some ⟨gU2, 0, none⟩) C.B C.B)
    refine hK.out _ _ hSnew (fun hHeld30 => ?_)
    clear hK K hSnew hHeld
    have hHeld := hHeld30
    clear hHeld30
    try simp only [Act.put, zSt, zS0, zS1]
    refine wpAnyH_done (by kernel_rfl) ?_ _
    exact hrest gU3 gU2 gU4 U4 H0.out HL.out HM.out HX.out
   ·go_simp
    go_wp2_with fail
    change K _ ((U2).alloc (.cells #[.int .i64 0, .int .i64 0, .int .i64 0, .slice none 0 0, .slice none 0 0] 27))
    have hbk : Below (U2).heap.size (U2) ((U2).alloc (.cells #[.int .i64 0, .int .i64 0, .int .i64 0, .slice none 0 0, .slice none 0 0] 27)) := below_alloc _ _
    have HXk : Hid (IX w ((U2).alloc (.cells #[.int .i64 0, .int .i64 0, .int .i64 0, .slice none 0 0, .slice none 0 0] 27)) (U2).heap.size) := ⟨alloc_new _ _, H0.out.lt⟩
    have H0k := hide (H0.out.keep hbk)
    have HMk := hide (HM.out.keep hbk)
    have hSnew := HC.out.is H0k.out
    clear hbk
    clear H0 HM
    refine hK.out _ _ hSnew (fun hHeld29 => ?_)
    clear hK K hSnew hHeld
    have hHeld := hHeld29
    clear hHeld29
    try simp only [Act.put, zSt, zS0, zS1]
    obtain ⟨gU3, hgU3⟩ : ∃ g, g = (U2).heap.size := ⟨_, rfl⟩
    obtain ⟨U3, hU3⟩ : ∃ u, u = ((U2).alloc (.cells #[.int .i64 0, .int .i64 0, .int .i64 0, .slice none 0 0, .slice none 0 0] 27)) := ⟨_, rfl⟩
    rw [← hgU3] at HXk ⊢
    rw [← hU3] at hHeld H0k HMk HXk ⊢
    clear hU3 hgU3
    have H0 := H0k
    have HM := HMk
    have HX := HXk
    clear H0k HMk HXk
    refine rd 21 (fun K hK => ?_)
    go_simp
    go_wp2_with fail
    change K _ ((U3).alloc (.cells (madeCells #[.int .u8 0] n0) 5))
    have hbk : Below (U3).heap.size (U3) ((U3).alloc (.cells (madeCells #[.int .u8 0] n0) 5)) := below_alloc _ _
    have HLk : Hid (IC w ((U3).alloc (.cells (madeCells #[.int .u8 0] n0) 5)) (U3).heap.size n0) := ic_new _ _ _ hn0 H0.out.lt
    have H0k := hide (H0.out.keep hbk)
    have HMk := hide (HM.out.keep hbk)
    have HXk := hide (HX.out.keep hbk)
    have hSnew := HC.out.is H0k.out
    clear hbk
    clear H0 HM HX
    refine hK.out _ _ hSnew (fun hHeld21 => ?_)
    clear hK K hSnew hHeld
    have hHeld := hHeld21
    clear hHeld21
    try simp only [Act.put, zSt, zS0, zS1]
    obtain ⟨gU4, hgU4⟩ : ∃ g, g = (U3).heap.size := ⟨_, rfl⟩
    obtain ⟨U4, hU4⟩ : ∃ u, u = ((U3).alloc (.cells (madeCells #[.int .u8 0] n0) 5)) := ⟨_, rfl⟩
    rw [← hgU4] at HLk ⊢
    rw [← hU4] at hHeld H0k HMk HXk HLk ⊢
    clear hU4 hgU4
    have H0 := H0k
    have HM := HMk
    have HX := HXk
    have HL := HLk
    clear H0k HMk HXk HLk
    refine tk 28 ?_
    refine rd 30 (fun K hK => ?_)
    obtain ⟨x0, x1, x2, x3, x4⟩ := cells5 HX.out.1
    have fx := fun j => frozen_of_row _ gU3 j _ 27 HX.out.1
    go_simp
    go_wp2_with fail
    have hSnew := HSK.out gU3 U4 H0.out HX.out (.int .i64 (C.B : Int)) (.int .i64 (C.P : Int)) (.int .i64 (C.S : Int)) (.slice (some ⟨gU4, 0, none⟩) 0 n0) (.slice (some ⟨gU2, 0, none⟩) C.B C.B)
    refine hK.out _ _ hSnew (fun hHeld30 => ?_)
    clear hK K hSnew hHeld
    have hHeld := hHeld30
    clear hHeld30
    try simp only [Act.put, zSt, zS0, zS1]
    refine wpAnyH_done (by kernel_rfl) ?_ _
    exact hrest gU4 gU2 gU3 U4 H0.out HL.out HM.out HX.out
  ·go_simp
   go_wp2_with fail
   change K _ ((U1).alloc (.cells #[.int .i64 0, .int .i64 0, .int .i64 0, .slice none 0 0, .slice none 0 0] 27))
   have hbk : Below (U1).heap.size (U1) ((U1).alloc (.cells #[.int .i64 0, .int .i64 0, .int .i64 0, .slice none 0 0, .slice none 0 0] 27)) := below_alloc _ _
   have HXk : Hid (IX w ((U1).alloc (.cells #[.int .i64 0, .int .i64 0, .int .i64 0, .slice none 0 0, .slice none 0 0] 27)) (U1).heap.size) := ⟨alloc_new _ _, H0.out.lt⟩
   have H0k := hide (H0.out.keep hbk)
   have hSnew := HC.out.is H0k.out
   clear hbk
   clear H0
   refine hK.out _ _ hSnew (fun hHeld29 => ?_)
   clear hK K hSnew hHeld
   have hHeld := hHeld29
   clear hHeld29
   try simp only [Act.put, zSt, zS0, zS1]
   obtain ⟨gU2, hgU2⟩ : ∃ g, g = (U1).heap.size := ⟨_, rfl⟩
   obtain ⟨U2, hU2⟩ : ∃ u, u = ((U1).alloc (.cells #[.int .i64 0, .int .i64 0, .int .i64 0, .slice none 0 0, .slice none 0 0] 27)) := ⟨_, rfl⟩
   rw [← hgU2] at HXk ⊢
   rw [← hU2] at hHeld H0k HXk ⊢
   clear hU2 hgU2
   have H0 := H0k
   have HX := HXk
   clear H0k HXk
   refine wpAnyH_ready (rs := [21, 27]) (by kernel_rfl) (by simp) ?_
   refine AllReadyH.cons (o := { dst := some 29, op := Op.makeSlice 24 (Operand.const (Value.int IntKind.i64 0)) (Operand.tmp 28), type := 24, pos := "chip.go:130", after := #[{ on := 20, ground := Ground.data }], guard := none }) rfl (fun K hK => ?_) (AllReadyH.cons (o := { dst := some 35, op := Op.makeSlice 25 (Operand.tmp 34) (Operand.tmp 34), type := 25, pos := "chip.go:130", after := #[{ on := 26, ground := Ground.data }, { on := 26, ground := Ground.data }], guard := none }) rfl (fun K hK => ?_) AllReadyH.nil)
   ·go_simp
    go_wp2_with fail
    change K _ ((U2).alloc (.cells (madeCells #[.int .u8 0] n0) 5))
    have hbk : Below (U2).heap.size (U2) ((U2).alloc (.cells (madeCells #[.int .u8 0] n0) 5)) := below_alloc _ _
    have HLk : Hid (IC w ((U2).alloc (.cells (madeCells #[.int .u8 0] n0) 5)) (U2).heap.size n0) := ic_new _ _ _ hn0 H0.out.lt
    have H0k := hide (H0.out.keep hbk)
    have HXk := hide (HX.out.keep hbk)
    have hSnew := HC.out.is H0k.out
    clear hbk
    clear H0 HX
    refine hK.out _ _ hSnew (fun hHeld21 => ?_)
    clear hK K hSnew hHeld
    have hHeld := hHeld21
    clear hHeld21
    try simp only [Act.put, zSt, zS0, zS1]
    obtain ⟨gU3, hgU3⟩ : ∃ g, g = (U2).heap.size := ⟨_, rfl⟩
    obtain ⟨U3, hU3⟩ : ∃ u, u = ((U2).alloc (.cells (madeCells #[.int .u8 0] n0) 5)) := ⟨_, rfl⟩
    rw [← hgU3] at HLk ⊢
    rw [← hU3] at hHeld H0k HXk HLk ⊢
    clear hU3 hgU3
    have H0 := H0k
    have HX := HXk
    have HL := HLk
    clear H0k HXk HLk
    refine rd 27 (fun K hK => ?_)
    go_simp
    go_wp2_with fail
    change K _ ((U3).alloc (.cells (List.replicate C.B (.bool false)).toArray 4))
    have hbk : Below (U3).heap.size (U3) ((U3).alloc (.cells (List.replicate C.B (.bool false)).toArray 4)) := below_alloc _ _
    have HMk : Hid (IM w ((U3).alloc (.cells (List.replicate C.B (.bool false)).toArray 4)) (U3).heap.size C.B) := ⟨alloc_new _ _, H0.out.lt⟩
    have H0k := hide (H0.out.keep hbk)
    have HXk := hide (HX.out.keep hbk)
    have HLk := hide (HL.out.keep hbk)
    have hSnew := HC.out.is H0k.out
    clear hbk
    clear H0 HX HL
    refine hK.out _ _ hSnew (fun hHeld27 => ?_)
    clear hK K hSnew hHeld
    have hHeld := hHeld27
    clear hHeld27
    try simp only [Act.put, zSt, zS0, zS1]
    obtain ⟨gU4, hgU4⟩ : ∃ g, g = (U3).heap.size := ⟨_, rfl⟩
    obtain ⟨U4, hU4⟩ : ∃ u, u = ((U3).alloc (.cells (List.replicate C.B (.bool false)).toArray 4)) := ⟨_, rfl⟩
    rw [← hgU4] at HMk ⊢
    rw [← hU4] at hHeld H0k HXk HLk HMk ⊢
    clear hU4 hgU4
    have H0 := H0k
    have HX := HXk
    have HL := HLk
    have HM := HMk
    clear H0k HXk HLk HMk
    refine tk 28 ?_
    refine rd 30 (fun K hK => ?_)
    obtain ⟨x0, x1, x2, x3, x4⟩ := cells5 HX.out.1
    have fx := fun j => frozen_of_row _ gU2 j _ 27 HX.out.1
    go_simp
    go_wp2_with fail
    have hSnew := HSK.out gU2 U4 H0.out HX.out (.int .i64 (C.B : Int)) (.int .i64 (C.P : Int)) (.int .i64 (C.S : Int)) (.slice (some ⟨gU3, 0, none⟩) 0 n0) (.slice (some ⟨gU4, 0, none⟩) C.B C.B)
    refine hK.out _ _ hSnew (fun hHeld30 => ?_)
    clear hK K hSnew hHeld
    have hHeld := hHeld30
    clear hHeld30
    try simp only [Act.put, zSt, zS0, zS1]
    refine wpAnyH_done (by kernel_rfl) ?_ _
    exact hrest gU3 gU4 gU2 U4 H0.out HL.out HM.out HX.out
   ·go_simp
    go_wp2_with fail
    change K _ ((U2).alloc (.cells (List.replicate C.B (.bool false)).toArray 4))
    have hbk : Below (U2).heap.size (U2) ((U2).alloc (.cells (List.replicate C.B (.bool false)).toArray 4)) := below_alloc _ _
    have HMk : Hid (IM w ((U2).alloc (.cells (List.replicate C.B (.bool false)).toArray 4)) (U2).heap.size C.B) := ⟨alloc_new _ _, H0.out.lt⟩
    have H0k := hide (H0.out.keep hbk)
    have HXk := hide (HX.out.keep hbk)
    have hSnew := HC.out.is H0k.out
    clear hbk
    clear H0 HX
    refine hK.out _ _ hSnew (fun hHeld27 => ?_)
    clear hK K hSnew hHeld
    have hHeld := hHeld27
    clear hHeld27
    try simp only [Act.put, zSt, zS0, zS1]
    obtain ⟨gU3, hgU3⟩ : ∃ g, g = (U2).heap.size := ⟨_, rfl⟩
    obtain ⟨U3, hU3⟩ : ∃ u, u = ((U2).alloc (.cells (List.replicate C.B (.bool false)).toArray 4)) := ⟨_, rfl⟩
    rw [← hgU3] at HMk ⊢
    rw [← hU3] at hHeld H0k HXk HMk ⊢
    clear hU3 hgU3
    have H0 := H0k
    have HX := HXk
    have HM := HMk
    clear H0k HXk HMk
    refine rd 21 (fun K hK => ?_)
    go_simp
    go_wp2_with fail
    change K _ ((U3).alloc (.cells (madeCells #[.int .u8 0] n0) 5))
    have hbk : Below (U3).heap.size (U3) ((U3).alloc (.cells (madeCells #[.int .u8 0] n0) 5)) := below_alloc _ _
    have HLk : Hid (IC w ((U3).alloc (.cells (madeCells #[.int .u8 0] n0) 5)) (U3).heap.size n0) := ic_new _ _ _ hn0 H0.out.lt
    have H0k := hide (H0.out.keep hbk)
    have HXk := hide (HX.out.keep hbk)
    have HMk := hide (HM.out.keep hbk)
    have hSnew := HC.out.is H0k.out
    clear hbk
    clear H0 HX HM
    refine hK.out _ _ hSnew (fun hHeld21 => ?_)
    clear hK K hSnew hHeld
    have hHeld := hHeld21
    clear hHeld21
    try simp only [Act.put, zSt, zS0, zS1]
    obtain ⟨gU4, hgU4⟩ : ∃ g, g = (U3).heap.size := ⟨_, rfl⟩
    obtain ⟨U4, hU4⟩ : ∃ u, u = ((U3).alloc (.cells (madeCells #[.int .u8 0] n0) 5)) := ⟨_, rfl⟩
    rw [← hgU4] at HLk ⊢
    rw [← hU4] at hHeld H0k HXk HMk HLk ⊢
    clear hU4 hgU4
    have H0 := H0k
    have HX := HXk
    have HM := HMk
    have HL := HLk
    clear H0k HXk HMk HLk
    refine tk 28 ?_
    refine rd 30 (fun K hK => ?_)
    obtain ⟨x0, x1, x2, x3, x4⟩ := cells5 HX.out.1
    have fx := fun j => frozen_of_row _ gU2 j _ 27 HX.out.1
    go_simp
    go_wp2_with fail
    have hSnew := HSK.out gU2 U4 H0.out HX.out (.int .i64 (C.B : Int)) (.int .i64 (C.P : Int)) (.int .i64 (C.S : Int)) (.slice (some ⟨gU4, 0, none⟩) 0 n0) (.slice (some ⟨gU3, 0, none⟩) C.B C.B)
    refine hK.out _ _ hSnew (fun hHeld30 => ?_)
    clear hK K hSnew hHeld
    have hHeld := hHeld30
    clear hHeld30
    try simp only [Act.put, zSt, zS0, zS1]
    refine wpAnyH_done (by kernel_rfl) ?_ _
    exact hrest gU4 gU3 gU2 U4 H0.out HL.out HM.out HX.out
 ·go_simp
  go_wp2_with fail
  change K _ ((U0).alloc (.cells (List.replicate C.B (.bool false)).toArray 4))
  have hbk : Below (U0).heap.size (U0) ((U0).alloc (.cells (List.replicate C.B (.bool false)).toArray 4)) := below_alloc _ _
  have HMk : Hid (IM w ((U0).alloc (.cells (List.replicate C.B (.bool false)).toArray 4)) (U0).heap.size C.B) := ⟨alloc_new _ _, H0.out.lt⟩
  have H0k := hide (H0.out.keep hbk)
  have hSnew := HC.out.is H0k.out
  clear hbk
  clear H0
  refine hK.out _ _ hSnew (fun hHeld27 => ?_)
  clear hK K hSnew hHeld
  have hHeld := hHeld27
  clear hHeld27
  try simp only [Act.put, zSt, zS0, zS1]
  obtain ⟨gU1, hgU1⟩ : ∃ g, g = (U0).heap.size := ⟨_, rfl⟩
  obtain ⟨U1, hU1⟩ : ∃ u, u = ((U0).alloc (.cells (List.replicate C.B (.bool false)).toArray 4)) := ⟨_, rfl⟩
  rw [← hgU1] at HMk ⊢
  rw [← hU1] at hHeld H0k HMk ⊢
  clear hU1 hgU1
  have H0 := H0k
  have HM := HMk
  clear H0k HMk
  refine wpAnyH_ready (rs := [19, 29]) (by kernel_rfl) (by simp) ?_
  refine AllReadyH.cons (o := { dst := some 27, op := Op.call { callee := Callee.value (Operand.func 46), args := #[Operand.tmp 26], argTypes := #[23] }, type := 3, pos := "chip.go:132", after := #[{ on := 18, ground := Ground.data }], guard := none }) rfl (fun K hK => ?_) (AllReadyH.cons (o := { dst := some 3, op := Op.alloc 27, type := 0, pos := "chip.go:130", after := #[], guard := none }) rfl (fun K hK => ?_) AllReadyH.nil)
  ·go_simp
   go_at_call 46
   refine (pageB_any _ _ C.S _ hS.1 hS.2).mono ?_
   rintro e U2 ⟨rfl, hbk⟩
   rw [← HL0.out]
   go_wp2_with fail
   have H0k := hide (H0.out.keep hbk)
   have HMk := hide (HM.out.keep hbk)
   have hSnew := HC.out.is H0k.out
   clear hbk
   clear H0 HM
   refine hK.out _ _ hSnew (fun hHeld19 => ?_)
   clear hK K hSnew hHeld
   have hHeld := hHeld19
   clear hHeld19
   try simp only [Act.put, zSt, zS0, zS1]
   have H0 := H0k
   have HM := HMk
   clear H0k HMk
   refine tk 20 ?_
   rw [HN0.out]
   refine wpAnyH_ready (rs := [21, 29]) (by kernel_rfl) (by simp) ?_
   refine AllReadyH.cons (o := { dst := some 29, op := Op.makeSlice 24 (Operand.const (Value.int IntKind.i64 0)) (Operand.tmp 28), type := 24, pos := "chip.go:130", after := #[{ on := 20, ground := Ground.data }], guard := none }) rfl (fun K hK => ?_) (AllReadyH.cons (o := { dst := some 3, op := Op.alloc 27, type := 0, pos := "chip.go:130", after := #[], guard := none }) rfl (fun K hK => ?_) AllReadyH.nil)
   ·go_simp
    go_wp2_with fail
    change K _ ((U2).alloc (.cells (madeCells #[.int .u8 0] n0) 5))
    have hbk : Below (U2).heap.size (U2) ((U2).alloc (.cells (madeCells #[.int .u8 0] n0) 5)) := below_alloc _ _
    have HLk : Hid (IC w ((U2).alloc (.cells (madeCells #[.int .u8 0] n0) 5)) (U2).heap.size n0) := ic_new _ _ _ hn0 H0.out.lt
    have H0k := hide (H0.out.keep hbk)
    have HMk := hide (HM.out.keep hbk)
    have hSnew := HC.out.is H0k.out
    clear hbk
    clear H0 HM
    refine hK.out _ _ hSnew (fun hHeld21 => ?_)
    clear hK K hSnew hHeld
    have hHeld := hHeld21
    clear hHeld21
    try simp only [Act.put, zSt, zS0, zS1]
    obtain ⟨gU3, hgU3⟩ : ∃ g, g = (U2).heap.size := ⟨_, rfl⟩
    obtain ⟨U3, hU3⟩ : ∃ u, u = ((U2).alloc (.cells (madeCells #[.int .u8 0] n0) 5)) := ⟨_, rfl⟩
    rw [← hgU3] at HLk ⊢
    rw [← hU3] at hHeld H0k HMk HLk ⊢
    clear hU3 hgU3
    have H0 := H0k
    have HM := HMk
    have HL := HLk
    clear H0k HMk HLk
    refine tk 28 ?_
    refine rd 29 (fun K hK => ?_)
    go_simp
    go_wp2_with fail
    change K _ ((U3).alloc (.cells #[.int .i64 0, .int .i64 0, .int .i64 0, .slice none 0 0, .slice none 0 0] 27))
    have hbk : Below (U3).heap.size (U3) ((U3).alloc (.cells #[.int .i64 0, .int .i64 0, .int .i64 0, .slice none 0 0, .slice none 0 0] 27)) := below_alloc _ _
    have HXk : Hid (IX w ((U3).alloc (.cells #[.int .i64 0, .int .i64 0, .int .i64 0, .slice none 0 0, .slice none 0 0] 27)) (U3).heap.size) := ⟨alloc_new _ _, H0.out.lt⟩
    have H0k := hide (H0.out.keep hbk)
    have HMk := hide (HM.out.keep hbk)
    have HLk := hide (HL.out.keep hbk)
    have hSnew := HC.out.is H0k.out
    clear hbk
    clear H0 HM HL
    refine hK.out _ _ hSnew (fun hHeld29 => ?_)
    clear hK K hSnew hHeld
    have hHeld := hHeld29
    clear hHeld29
    try simp only [Act.put, zSt, zS0, zS1]
    obtain ⟨gU4, hgU4⟩ : ∃ g, g = (U3).heap.size := ⟨_, rfl⟩
    obtain ⟨U4, hU4⟩ : ∃ u, u = ((U3).alloc (.cells #[.int .i64 0, .int .i64 0, .int .i64 0, .slice none 0 0, .slice none 0 0] 27)) := ⟨_, rfl⟩
    rw [← hgU4] at HXk ⊢
    rw [← hU4] at hHeld H0k HMk HLk HXk ⊢
    clear hU4 hgU4
    have H0 := H0k
    have HM := HMk
    have HL := HLk
    have HX := HXk
    clear H0k HMk HLk HXk
    refine rd 30 (fun K hK => ?_)
    obtain ⟨x0, x1, x2, x3, x4⟩ := cells5 HX.out.1
    have fx := fun j => frozen_of_row _ gU4 j _ 27 HX.out.1
    go_simp
    go_wp2_with fail
    have hSnew := HSK.out gU4 U4 H0.out HX.out (.int .i64 (C.B : Int)) (.int .i64 (C.P : Int)) (.int .i64 (C.S : Int)) (.slice (some ⟨gU3, 0, none⟩) 0 n0) (.slice (some ⟨gU1, 0, none⟩) C.B C.B)
    refine hK.out _ _ hSnew (fun hHeld30 => ?_)
    clear hK K hSnew hHeld
    have hHeld := hHeld30
    clear hHeld30
    try simp only [Act.put, zSt, zS0, zS1]
    refine wpAnyH_done (by kernel_rfl) ?_ _
    exact hrest gU3 gU1 gU4 U4 H0.out HL.out HM.out HX.out
   ·go_simp
    go_wp2_with fail
    change K _ ((U2).alloc (.cells #[.int .i64 0, .int .i64 0, .int .i64 0, .slice none 0 0, .slice none 0 0] 27))
    have hbk : Below (U2).heap.size (U2) ((U2).alloc (.cells #[.int .i64 0, .int .i64 0, .int .i64 0, .slice none 0 0, .slice none 0 0] 27)) := below_alloc _ _
    have HXk : Hid (IX w ((U2).alloc (.cells #[.int .i64 0, .int .i64 0, .int .i64 0, .slice none 0 0, .slice none 0 0] 27)) (U2).heap.size) := ⟨alloc_new _ _, H0.out.lt⟩
    have H0k := hide (H0.out.keep hbk)
    have HMk := hide (HM.out.keep hbk)
    have hSnew := HC.out.is H0k.out
    clear hbk
    clear H0 HM
    refine hK.out _ _ hSnew (fun hHeld29 => ?_)
    clear hK K hSnew hHeld
    have hHeld := hHeld29
    clear hHeld29
    try simp only [Act.put, zSt, zS0, zS1]
    obtain ⟨gU3, hgU3⟩ : ∃ g, g = (U2).heap.size := ⟨_, rfl⟩
    obtain ⟨U3, hU3⟩ : ∃ u, u = ((U2).alloc (.cells #[.int .i64 0, .int .i64 0, .int .i64 0, .slice none 0 0, .slice none 0 0] 27)) := ⟨_, rfl⟩
    rw [← hgU3] at HXk ⊢
    rw [← hU3] at hHeld H0k HMk HXk ⊢
    clear hU3 hgU3
    have H0 := H0k
    have HM := HMk
    have HX := HXk
    clear H0k HMk HXk
    refine rd 21 (fun K hK => ?_)
    go_simp
    go_wp2_with fail
    change K _ ((U3).alloc (.cells (madeCells #[.int .u8 0] n0) 5))
    have hbk : Below (U3).heap.size (U3) ((U3).alloc (.cells (madeCells #[.int .u8 0] n0) 5)) := below_alloc _ _
    have HLk : Hid (IC w ((U3).alloc (.cells (madeCells #[.int .u8 0] n0) 5)) (U3).heap.size n0) := ic_new _ _ _ hn0 H0.out.lt
    have H0k := hide (H0.out.keep hbk)
    have HMk := hide (HM.out.keep hbk)
    have HXk := hide (HX.out.keep hbk)
    have hSnew := HC.out.is H0k.out
    clear hbk
    clear H0 HM HX
    refine hK.out _ _ hSnew (fun hHeld21 => ?_)
    clear hK K hSnew hHeld
    have hHeld := hHeld21
    clear hHeld21
    try simp only [Act.put, zSt, zS0, zS1]
    obtain ⟨gU4, hgU4⟩ : ∃ g, g = (U3).heap.size := ⟨_, rfl⟩
    obtain ⟨U4, hU4⟩ : ∃ u, u = ((U3).alloc (.cells (madeCells #[.int .u8 0] n0) 5)) := ⟨_, rfl⟩
    rw [← hgU4] at HLk ⊢
    rw [← hU4] at hHeld H0k HMk HXk HLk ⊢
    clear hU4 hgU4
    have H0 := H0k
    have HM := HMk
    have HX := HXk
    have HL := HLk
    clear H0k HMk HXk HLk
    refine tk 28 ?_
    refine rd 30 (fun K hK => ?_)
    obtain ⟨x0, x1, x2, x3, x4⟩ := cells5 HX.out.1
    have fx := fun j => frozen_of_row _ gU3 j _ 27 HX.out.1
    go_simp
    go_wp2_with fail
    have hSnew := HSK.out gU3 U4 H0.out HX.out (.int .i64 (C.B : Int)) (.int .i64 (C.P : Int)) (.int .i64 (C.S : Int)) (.slice (some ⟨gU4, 0, none⟩) 0 n0) (.slice (some ⟨gU1, 0, none⟩) C.B C.B)
    refine hK.out _ _ hSnew (fun hHeld30 => ?_)
    clear hK K hSnew hHeld
    have hHeld := hHeld30
    clear hHeld30
    try simp only [Act.put, zSt, zS0, zS1]
    refine wpAnyH_done (by kernel_rfl) ?_ _
    exact hrest gU4 gU1 gU3 U4 H0.out HL.out HM.out HX.out
  ·go_simp
   go_wp2_with fail
   change K _ ((U1).alloc (.cells #[.int .i64 0, .int .i64 0, .int .i64 0, .slice none 0 0, .slice none 0 0] 27))
   have hbk : Below (U1).heap.size (U1) ((U1).alloc (.cells #[.int .i64 0, .int .i64 0, .int .i64 0, .slice none 0 0, .slice none 0 0] 27)) := below_alloc _ _
   have HXk : Hid (IX w ((U1).alloc (.cells #[.int .i64 0, .int .i64 0, .int .i64 0, .slice none 0 0, .slice none 0 0] 27)) (U1).heap.size) := ⟨alloc_new _ _, H0.out.lt⟩
   have H0k := hide (H0.out.keep hbk)
   have HMk := hide (HM.out.keep hbk)
   have hSnew := HC.out.is H0k.out
   clear hbk
   clear H0 HM
   refine hK.out _ _ hSnew (fun hHeld29 => ?_)
   clear hK K hSnew hHeld
   have hHeld := hHeld29
   clear hHeld29
   try simp only [Act.put, zSt, zS0, zS1]
   obtain ⟨gU2, hgU2⟩ : ∃ g, g = (U1).heap.size := ⟨_, rfl⟩
   obtain ⟨U2, hU2⟩ : ∃ u, u = ((U1).alloc (.cells #[.int .i64 0, .int .i64 0, .int .i64 0, .slice none 0 0, .slice none 0 0] 27)) := ⟨_, rfl⟩
   rw [← hgU2] at HXk ⊢
   rw [← hU2] at hHeld H0k HMk HXk ⊢
   clear hU2 hgU2
   have H0 := H0k
   have HM := HMk
   have HX := HXk
   clear H0k HMk HXk
   refine rd 19 (fun K hK => ?_)
   go_simp
   go_at_call 46
   refine (pageB_any _ _ C.S _ hS.1 hS.2).mono ?_
   rintro e U3 ⟨rfl, hbk⟩
   rw [← HL0.out]
   go_wp2_with fail
   have H0k := hide (H0.out.keep hbk)
   have HMk := hide (HM.out.keep hbk)
   have HXk := hide (HX.out.keep hbk)
   have hSnew := HC.out.is H0k.out
   clear hbk
   clear H0 HM HX
   refine hK.out _ _ hSnew (fun hHeld19 => ?_)
   clear hK K hSnew hHeld
   have hHeld := hHeld19
   clear hHeld19
   try simp only [Act.put, zSt, zS0, zS1]
   have H0 := H0k
   have HM := HMk
   have HX := HXk
   clear H0k HMk HXk
   refine tk 20 ?_
   rw [HN0.out]
   refine rd 21 (fun K hK => ?_)
   go_simp
   go_wp2_with fail
   change K _ ((U3).alloc (.cells (madeCells #[.int .u8 0] n0) 5))
   have hbk : Below (U3).heap.size (U3) ((U3).alloc (.cells (madeCells #[.int .u8 0] n0) 5)) := below_alloc _ _
   have HLk : Hid (IC w ((U3).alloc (.cells (madeCells #[.int .u8 0] n0) 5)) (U3).heap.size n0) := ic_new _ _ _ hn0 H0.out.lt
   have H0k := hide (H0.out.keep hbk)
   have HMk := hide (HM.out.keep hbk)
   have HXk := hide (HX.out.keep hbk)
   have hSnew := HC.out.is H0k.out
   clear hbk
   clear H0 HM HX
   refine hK.out _ _ hSnew (fun hHeld21 => ?_)
   clear hK K hSnew hHeld
   have hHeld := hHeld21
   clear hHeld21
   try simp only [Act.put, zSt, zS0, zS1]
   obtain ⟨gU4, hgU4⟩ : ∃ g, g = (U3).heap.size := ⟨_, rfl⟩
   obtain ⟨U4, hU4⟩ : ∃ u, u = ((U3).alloc (.cells (madeCells #[.int .u8 0] n0) 5)) := ⟨_, rfl⟩
   rw [← hgU4] at HLk ⊢
   rw [← hU4] at hHeld H0k HMk HXk HLk ⊢
   clear hU4 hgU4
   have H0 := H0k
   have HM := HMk
   have HX := HXk
   have HL := HLk
   clear H0k HMk HXk HLk
   refine tk 28 ?_
   refine rd 30 (fun K hK => ?_)
   obtain ⟨x0, x1, x2, x3, x4⟩ := cells5 HX.out.1
   have fx := fun j => frozen_of_row _ gU2 j _ 27 HX.out.1
   go_simp
   go_wp2_with fail
   have hSnew := HSK.out gU2 U4 H0.out HX.out (.int .i64 (C.B : Int)) (.int .i64 (C.P : Int)) (.int .i64 (C.S : Int)) (.slice (some ⟨gU4, 0, none⟩) 0 n0) (.slice (some ⟨gU1, 0, none⟩) C.B C.B)
   refine hK.out _ _ hSnew (fun hHeld30 => ?_)
   clear hK K hSnew hHeld
   have hHeld := hHeld30
   clear hHeld30
   try simp only [Act.put, zSt, zS0, zS1]
   refine wpAnyH_done (by kernel_rfl) ?_ _
   exact hrest gU4 gU1 gU2 U4 H0.out HL.out HM.out HX.out
 ·go_simp
  go_wp2_with fail
  change K _ ((U0).alloc (.cells #[.int .i64 0, .int .i64 0, .int .i64 0, .slice none 0 0, .slice none 0 0] 27))
  have hbk : Below (U0).heap.size (U0) ((U0).alloc (.cells #[.int .i64 0, .int .i64 0, .int .i64 0, .slice none 0 0, .slice none 0 0] 27)) := below_alloc _ _
  have HXk : Hid (IX w ((U0).alloc (.cells #[.int .i64 0, .int .i64 0, .int .i64 0, .slice none 0 0, .slice none 0 0] 27)) (U0).heap.size) := ⟨alloc_new _ _, H0.out.lt⟩
  have H0k := hide (H0.out.keep hbk)
  have hSnew := HC.out.is H0k.out
  clear hbk
  clear H0
  refine hK.out _ _ hSnew (fun hHeld29 => ?_)
  clear hK K hSnew hHeld
  have hHeld := hHeld29
  clear hHeld29
  try simp only [Act.put, zSt, zS0, zS1]
  obtain ⟨gU1, hgU1⟩ : ∃ g, g = (U0).heap.size := ⟨_, rfl⟩
  obtain ⟨U1, hU1⟩ : ∃ u, u = ((U0).alloc (.cells #[.int .i64 0, .int .i64 0, .int .i64 0, .slice none 0 0, .slice none 0 0] 27)) := ⟨_, rfl⟩
  rw [← hgU1] at HXk ⊢
  rw [← hU1] at hHeld H0k HXk ⊢
  clear hU1 hgU1
  have H0 := H0k
  have HX := HXk
  clear H0k HXk
  refine wpAnyH_ready (rs := [19, 27]) (by kernel_rfl) (by simp) ?_
  refine AllReadyH.cons (o := { dst := some 27, op := Op.call { callee := Callee.value (Operand.func 46), args := #[Operand.tmp 26], argTypes := #[23] }, type := 3, pos := "chip.go:132", after := #[{ on := 18, ground := Ground.data }], guard := none }) rfl (fun K hK => ?_) (AllReadyH.cons (o := { dst := some 35, op := Op.makeSlice 25 (Operand.tmp 34) (Operand.tmp 34), type := 25, pos := "chip.go:130", after := #[{ on := 26, ground := Ground.data }, { on := 26, ground := Ground.data }], guard := none }) rfl (fun K hK => ?_) AllReadyH.nil)
  ·go_simp
   go_at_call 46
   refine (pageB_any _ _ C.S _ hS.1 hS.2).mono ?_
   rintro e U2 ⟨rfl, hbk⟩
   rw [← HL0.out]
   go_wp2_with fail
   have H0k := hide (H0.out.keep hbk)
   have HXk := hide (HX.out.keep hbk)
   have hSnew := HC.out.is H0k.out
   clear hbk
   clear H0 HX
   refine hK.out _ _ hSnew (fun hHeld19 => ?_)
   clear hK K hSnew hHeld
   have hHeld := hHeld19
   clear hHeld19
   try simp only [Act.put, zSt, zS0, zS1]
   have H0 := H0k
   have HX := HXk
   clear H0k HXk
   refine tk 20 ?_
   rw [HN0.out]
   refine wpAnyH_ready (rs := [21, 27]) (by kernel_rfl) (by simp) ?_
   refine AllReadyH.cons (o := { dst := some 29, op := Op.makeSlice 24 (Operand.const (Value.int IntKind.i64 0)) (Operand.tmp 28), type := 24, pos := "chip.go:130", after := #[{ on := 20, ground := Ground.data }], guard := none }) rfl (fun K hK => ?_) (AllReadyH.cons (o := { dst := some 35, op := Op.makeSlice 25 (Operand.tmp 34) (Operand.tmp 34), type := 25, pos := "chip.go:130", after := #[{ on := 26, ground := Ground.data }, { on := 26, ground := Ground.data }], guard := none }) rfl (fun K hK => ?_) AllReadyH.nil)
   ·go_simp
    go_wp2_with fail
    change K _ ((U2).alloc (.cells (madeCells #[.int .u8 0] n0) 5))
    have hbk : Below (U2).heap.size (U2) ((U2).alloc (.cells (madeCells #[.int .u8 0] n0) 5)) := below_alloc _ _
    have HLk : Hid (IC w ((U2).alloc (.cells (madeCells #[.int .u8 0] n0) 5)) (U2).heap.size n0) := ic_new _ _ _ hn0 H0.out.lt
    have H0k := hide (H0.out.keep hbk)
    have HXk := hide (HX.out.keep hbk)
    have hSnew := HC.out.is H0k.out
    clear hbk
    clear H0 HX
    refine hK.out _ _ hSnew (fun hHeld21 => ?_)
    clear hK K hSnew hHeld
    have hHeld := hHeld21
    clear hHeld21
    try simp only [Act.put, zSt, zS0, zS1]
    obtain ⟨gU3, hgU3⟩ : ∃ g, g = (U2).heap.size := ⟨_, rfl⟩
    obtain ⟨U3, hU3⟩ : ∃ u, u = ((U2).alloc (.cells (madeCells #[.int .u8 0] n0) 5)) := ⟨_, rfl⟩
    rw [← hgU3] at HLk ⊢
    rw [← hU3] at hHeld H0k HXk HLk ⊢
    clear hU3 hgU3
    have H0 := H0k
    have HX := HXk
    have HL := HLk
    clear H0k HXk HLk
    refine rd 27 (fun K hK => ?_)
    go_simp
    go_wp2_with fail
    change K _ ((U3).alloc (.cells (List.replicate C.B (.bool false)).toArray 4))
    have hbk : Below (U3).heap.size (U3) ((U3).alloc (.cells (List.replicate C.B (.bool false)).toArray 4)) := below_alloc _ _
    have HMk : Hid (IM w ((U3).alloc (.cells (List.replicate C.B (.bool false)).toArray 4)) (U3).heap.size C.B) := ⟨alloc_new _ _, H0.out.lt⟩
    have H0k := hide (H0.out.keep hbk)
    have HXk := hide (HX.out.keep hbk)
    have HLk := hide (HL.out.keep hbk)
    have hSnew := HC.out.is H0k.out
    clear hbk
    clear H0 HX HL
    refine hK.out _ _ hSnew (fun hHeld27 => ?_)
    clear hK K hSnew hHeld
    have hHeld := hHeld27
    clear hHeld27
    try simp only [Act.put, zSt, zS0, zS1]
    obtain ⟨gU4, hgU4⟩ : ∃ g, g = (U3).heap.size := ⟨_, rfl⟩
    obtain ⟨U4, hU4⟩ : ∃ u, u = ((U3).alloc (.cells (List.replicate C.B (.bool false)).toArray 4)) := ⟨_, rfl⟩
    rw [← hgU4] at HMk ⊢
    rw [← hU4] at hHeld H0k HXk HLk HMk ⊢
    clear hU4 hgU4
    have H0 := H0k
    have HX := HXk
    have HL := HLk
    have HM := HMk
    clear H0k HXk HLk HMk
    refine tk 28 ?_
    refine rd 30 (fun K hK => ?_)
    obtain ⟨x0, x1, x2, x3, x4⟩ := cells5 HX.out.1
    have fx := fun j => frozen_of_row _ gU1 j _ 27 HX.out.1
    go_simp
    go_wp2_with fail
    have hSnew := HSK.out gU1 U4 H0.out HX.out (.int .i64 (C.B : Int)) (.int .i64 (C.P : Int)) (.int .i64 (C.S : Int)) (.slice (some ⟨gU3, 0, none⟩) 0 n0) (.slice (some ⟨gU4, 0, none⟩) C.B C.B)
    refine hK.out _ _ hSnew (fun hHeld30 => ?_)
    clear hK K hSnew hHeld
    have hHeld := hHeld30
    clear hHeld30
    try simp only [Act.put, zSt, zS0, zS1]
    refine wpAnyH_done (by kernel_rfl) ?_ _
    exact hrest gU3 gU4 gU1 U4 H0.out HL.out HM.out HX.out
   ·go_simp
    go_wp2_with fail
    change K _ ((U2).alloc (.cells (List.replicate C.B (.bool false)).toArray 4))
    have hbk : Below (U2).heap.size (U2) ((U2).alloc (.cells (List.replicate C.B (.bool false)).toArray 4)) := below_alloc _ _
    have HMk : Hid (IM w ((U2).alloc (.cells (List.replicate C.B (.bool false)).toArray 4)) (U2).heap.size C.B) := ⟨alloc_new _ _, H0.out.lt⟩
    have H0k := hide (H0.out.keep hbk)
    have HXk := hide (HX.out.keep hbk)
    have hSnew := HC.out.is H0k.out
    clear hbk
    clear H0 HX
    refine hK.out _ _ hSnew (fun hHeld27 => ?_)
    clear hK K hSnew hHeld
    have hHeld := hHeld27
    clear hHeld27
    try simp only [Act.put, zSt, zS0, zS1]
    obtain ⟨gU3, hgU3⟩ : ∃ g, g = (U2).heap.size := ⟨_, rfl⟩
    obtain ⟨U3, hU3⟩ : ∃ u, u = ((U2).alloc (.cells (List.replicate C.B (.bool false)).toArray 4)) := ⟨_, rfl⟩
    rw [← hgU3] at HMk ⊢
    rw [← hU3] at hHeld H0k HXk HMk ⊢
    clear hU3 hgU3
    have H0 := H0k
    have HX := HXk
    have HM := HMk
    clear H0k HXk HMk
    refine rd 21 (fun K hK => ?_)
    go_simp
    go_wp2_with fail
    change K _ ((U3).alloc (.cells (madeCells #[.int .u8 0] n0) 5))
    have hbk : Below (U3).heap.size (U3) ((U3).alloc (.cells (madeCells #[.int .u8 0] n0) 5)) := below_alloc _ _
    have HLk : Hid (IC w ((U3).alloc (.cells (madeCells #[.int .u8 0] n0) 5)) (U3).heap.size n0) := ic_new _ _ _ hn0 H0.out.lt
    have H0k := hide (H0.out.keep hbk)
    have HXk := hide (HX.out.keep hbk)
    have HMk := hide (HM.out.keep hbk)
    have hSnew := HC.out.is H0k.out
    clear hbk
    clear H0 HX HM
    refine hK.out _ _ hSnew (fun hHeld21 => ?_)
    clear hK K hSnew hHeld
    have hHeld := hHeld21
    clear hHeld21
    try simp only [Act.put, zSt, zS0, zS1]
    obtain ⟨gU4, hgU4⟩ : ∃ g, g = (U3).heap.size := ⟨_, rfl⟩
    obtain ⟨U4, hU4⟩ : ∃ u, u = ((U3).alloc (.cells (madeCells #[.int .u8 0] n0) 5)) := ⟨_, rfl⟩
    rw [← hgU4] at HLk ⊢
    rw [← hU4] at hHeld H0k HXk HMk HLk ⊢
    clear hU4 hgU4
    have H0 := H0k
    have HX := HXk
    have HM := HMk
    have HL := HLk
    clear H0k HXk HMk HLk
    refine tk 28 ?_
    refine rd 30 (fun K hK => ?_)
    obtain ⟨x0, x1, x2, x3, x4⟩ := cells5 HX.out.1
    have fx := fun j => frozen_of_row _ gU1 j _ 27 HX.out.1
    go_simp
    go_wp2_with fail
    have hSnew := HSK.out gU1 U4 H0.out HX.out (.int .i64 (C.B : Int)) (.int .i64 (C.P : Int)) (.int .i64 (C.S : Int)) (.slice (some ⟨gU4, 0, none⟩) 0 n0) (.slice (some ⟨gU3, 0, none⟩) C.B C.B)
    refine hK.out _ _ hSnew (fun hHeld30 => ?_)
    clear hK K hSnew hHeld
    have hHeld := hHeld30
    clear hHeld30
    try simp only [Act.put, zSt, zS0, zS1]
    refine wpAnyH_done (by kernel_rfl) ?_ _
    exact hrest gU4 gU3 gU1 U4 H0.out HL.out HM.out HX.out
  ·go_simp
   go_wp2_with fail
   change K _ ((U1).alloc (.cells (List.replicate C.B (.bool false)).toArray 4))
   have hbk : Below (U1).heap.size (U1) ((U1).alloc (.cells (List.replicate C.B (.bool false)).toArray 4)) := below_alloc _ _
   have HMk : Hid (IM w ((U1).alloc (.cells (List.replicate C.B (.bool false)).toArray 4)) (U1).heap.size C.B) := ⟨alloc_new _ _, H0.out.lt⟩
   have H0k := hide (H0.out.keep hbk)
   have HXk := hide (HX.out.keep hbk)
   have hSnew := HC.out.is H0k.out
   clear hbk
   clear H0 HX
   refine hK.out _ _ hSnew (fun hHeld27 => ?_)
   clear hK K hSnew hHeld
   have hHeld := hHeld27
   clear hHeld27
   try simp only [Act.put, zSt, zS0, zS1]
   obtain ⟨gU2, hgU2⟩ : ∃ g, g = (U1).heap.size := ⟨_, rfl⟩
   obtain ⟨U2, hU2⟩ : ∃ u, u = ((U1).alloc (.cells (List.replicate C.B (.bool false)).toArray 4)) := ⟨_, rfl⟩
   rw [← hgU2] at HMk ⊢
   rw [← hU2] at hHeld H0k HXk HMk ⊢
   clear hU2 hgU2
   have H0 := H0k
   have HX := HXk
   have HM := HMk
   clear H0k HXk HMk
   refine rd 19 (fun K hK => ?_)
   go_simp
   go_at_call 46
   refine (pageB_any _ _ C.S _ hS.1 hS.2).mono ?_
   rintro e U3 ⟨rfl, hbk⟩
   rw [← HL0.out]
   go_wp2_with fail
   have H0k := hide (H0.out.keep hbk)
   have HXk := hide (HX.out.keep hbk)
   have HMk := hide (HM.out.keep hbk)
   have hSnew := HC.out.is H0k.out
   clear hbk
   clear H0 HX HM
   refine hK.out _ _ hSnew (fun hHeld19 => ?_)
   clear hK K hSnew hHeld
   have hHeld := hHeld19
   clear hHeld19
   try simp only [Act.put, zSt, zS0, zS1]
   have H0 := H0k
   have HX := HXk
   have HM := HMk
   clear H0k HXk HMk
   refine tk 20 ?_
   rw [HN0.out]
   refine rd 21 (fun K hK => ?_)
   go_simp
   go_wp2_with fail
   change K _ ((U3).alloc (.cells (madeCells #[.int .u8 0] n0) 5))
   have hbk : Below (U3).heap.size (U3) ((U3).alloc (.cells (madeCells #[.int .u8 0] n0) 5)) := below_alloc _ _
   have HLk : Hid (IC w ((U3).alloc (.cells (madeCells #[.int .u8 0] n0) 5)) (U3).heap.size n0) := ic_new _ _ _ hn0 H0.out.lt
   have H0k := hide (H0.out.keep hbk)
   have HXk := hide (HX.out.keep hbk)
   have HMk := hide (HM.out.keep hbk)
   have hSnew := HC.out.is H0k.out
   clear hbk
   clear H0 HX HM
   refine hK.out _ _ hSnew (fun hHeld21 => ?_)
   clear hK K hSnew hHeld
   have hHeld := hHeld21
   clear hHeld21
   try simp only [Act.put, zSt, zS0, zS1]
   obtain ⟨gU4, hgU4⟩ : ∃ g, g = (U3).heap.size := ⟨_, rfl⟩
   obtain ⟨U4, hU4⟩ : ∃ u, u = ((U3).alloc (.cells (madeCells #[.int .u8 0] n0) 5)) := ⟨_, rfl⟩
   rw [← hgU4] at HLk ⊢
   rw [← hU4] at hHeld H0k HXk HMk HLk ⊢
   clear hU4 hgU4
   have H0 := H0k
   have HX := HXk
   have HM := HMk
   have HL := HLk
   clear H0k HXk HMk HLk
   refine tk 28 ?_
   refine rd 30 (fun K hK => ?_)
   obtain ⟨x0, x1, x2, x3, x4⟩ := cells5 HX.out.1
   have fx := fun j => frozen_of_row _ gU1 j _ 27 HX.out.1
   go_simp
   go_wp2_with fail
   have hSnew := HSK.out gU1 U4 H0.out HX.out (.int .i64 (C.B : Int)) (.int .i64 (C.P : Int)) (.int .i64 (C.S : Int)) (.slice (some ⟨gU4, 0, none⟩) 0 n0) (.slice (some ⟨gU2, 0, none⟩) C.B C.B)
   refine hK.out _ _ hSnew (fun hHeld30 => ?_)
   clear hK K hSnew hHeld
   have hHeld := hHeld30
   clear hHeld30
   try simp only [Act.put, zSt, zS0, zS1]
   refine wpAnyH_done (by kernel_rfl) ?_ _
   exact hrest gU4 gU2 gU1 U4 H0.out HL.out HM.out HX.out
end Go.Proofs.Ytadlkikjfonkgaa
