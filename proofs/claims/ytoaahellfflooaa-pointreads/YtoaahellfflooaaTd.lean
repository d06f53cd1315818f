/-
  SEAT Ytoaahellfflooaa: the reference's objects.
-/
import Derived.Test.YtoaahellfflooaaTc
import Derived.Deep.Cut
namespace Go.Proofs.Ytoaahellfflooaa
open Go.RowKit
set_option linter.unusedVariables false
theorem Lp.head {w u : World} {B q A : Nat} {zs : List Int} {st : Option (List Int)} {C : Nat} {v : Value} {k : Nat} {cs : List Value} {z0 z1 z2 z3 z4 z5 z6 z7 z8 z9 z10 z11 z12 : Value} (v2 v3 v4 v5 v6 v7 v8 v9 : Value) (h : Lp w u B q A #[z0, z1, z2, z3, z4, z5, z6, z7, z8, z9, z10, z11, z12] zs st C v k cs) : Lp w ((((((((u.setCell ⟨A, 2, none⟩ v2).setCell ⟨A, 3, none⟩ v3).setCell ⟨A, 4, none⟩ v4).setCell ⟨A, 5, none⟩ v5).setCell ⟨A, 6, none⟩ v6).setCell ⟨A, 7, none⟩ v7).setCell ⟨A, 8, none⟩ v8).setCell ⟨A, 9, none⟩ v9) B q A #[z0, z1, v2, v3, v4, v5, v6, v7, v8, v9, z10, z11, z12] zs st C v k cs := by
  have g0 : Lp w _ B q A #[z0, z1, v2, z3, z4, z5, z6, z7, z8, z9, z10, z11, z12] zs st C v k cs := h.store 2 v2
  have g1 : Lp w _ B q A #[z0, z1, v2, v3, z4, z5, z6, z7, z8, z9, z10, z11, z12] zs st C v k cs := g0.store 3 v3
  have g2 : Lp w _ B q A #[z0, z1, v2, v3, v4, z5, z6, z7, z8, z9, z10, z11, z12] zs st C v k cs := g1.store 4 v4
  have g3 : Lp w _ B q A #[z0, z1, v2, v3, v4, v5, z6, z7, z8, z9, z10, z11, z12] zs st C v k cs := g2.store 5 v5
  have g4 : Lp w _ B q A #[z0, z1, v2, v3, v4, v5, v6, z7, z8, z9, z10, z11, z12] zs st C v k cs := g3.store 6 v6
  have g5 : Lp w _ B q A #[z0, z1, v2, v3, v4, v5, v6, v7, z8, z9, z10, z11, z12] zs st C v k cs := g4.store 7 v7
  have g6 : Lp w _ B q A #[z0, z1, v2, v3, v4, v5, v6, v7, v8, z9, z10, z11, z12] zs st C v k cs := g5.store 8 v8
  have g7 : Lp w _ B q A #[z0, z1, v2, v3, v4, v5, v6, v7, v8, v9, z10, z11, z12] zs st C v k cs := g6.store 9 v9
  exact g7

set_option maxHeartbeats 4000000 in
set_option maxRecDepth 100000 in
theorem robj_t (B q : Nat) (zs : List Int) (stI : Option (List Int)) (w : World) (hR : RwAt w B q zs stI) (hl : zs.length ≤ 140737488355000) (hz : zs ≠ []) (id hv : Int) (s1 s2 : Option (List Int)) (h1 : numQ 4 1048575 stI = (id, s1)) (h2 : numQ 1 1 s1 = (hv, s2)) (hh : hv = 1) :
    Calls Try.prog 15 #[.pointer (some ⟨q, 0, none⟩)] w (ObQ w B q zs (objQ stI)) := by
  subst hh
  have HOB0 := hide (show objQ stI = tailQ id true (headQ s2) by unfold objQ; rw [h1]; simp only; rw [h2]; rfl)
  have hv1 : ((1 : Int) == 1) = true := rfl
  have HCd := hide (fun u (h : RwAt u B q zs s2) => rnum_any B q 1 255 zs s2 u h (by omega) (by omega) hl (by omega) (by omega))
  have hbs := fun u (h : RwAt u B q zs s2) => numQ_ge (n := 1) (m := 255) (by omega) h.bytR
  obtain ⟨⟨nv, s3⟩, hs3⟩ : ∃ x, numQ 1 255 s2 = x := ⟨_, rfl⟩
  rw [hs3] at HCd
  rw [hs3] at hbs
  simp only at HCd hbs
  have HBS := hide hbs
  obtain ⟨⟨bb, s4⟩, hs4⟩ : ∃ x, takeQ nv.toNat s3 = x := ⟨_, rfl⟩
  obtain ⟨⟨⟨xk, xp, xN, xz, xm, xs, xh, xT⟩, E⟩, hnd⟩ : ∃ x, nodeR bb = x := ⟨_, rfl⟩
  have HCg := hide (fun u (h : RwAt u B q zs (okQ E s4)) => rplace_any B q zs (okQ E s4) u h hl)
  obtain ⟨⟨⟨pa, pb⟩, s6⟩, hs6⟩ : ∃ x, placeQ (okQ E s4) = x := ⟨_, rfl⟩
  rw [hs6] at HCg
  simp only at HCg
  have HHQ := hide (show headQ s2 = ((⟨xk, xp, xN, xz, xm, xs, xh, xT⟩, (pa, pb)), s6) by unfold headQ; rw [hs3]; simp only; rw [hs4]; simp only; rw [hnd]; simp only; rw [hs6])
  have HOB := hide (show objQ stI = tailQ id true ((⟨xk, xp, xN, xz, xm, xs, xh, xT⟩, (pa, pb)), s6) by rw [HOB0.out, HHQ.out])
  have HTQ := hide (fun (n : Nat) (hn : nv = (n : Int)) (hn2 : n ≤ 255) u (h : RwAt u B q zs s3) => show Calls Try.prog 30 #[.pointer (some ⟨q, 0, none⟩), .int .i64 nv] u (TkV u B q zs bb s4) by
    have h9 := take_any B q n zs s3 u h hn2 hl (Or.inr hz)
    have e9 : takeQ n s3 = (bb, s4) := by rw [← hs4, hn]; simp
    rw [e9] at h9
    rw [hn]; exact h9)
  have HNR := hide (fun (hby : Byt bb) (hln : bb.length ≤ 140737488351300) => show Nr bb bb.length xk xp xN xz xm xs xh xT E by have h9 := node_nr bb hby hln; rw [hnd] at h9; exact h9)
  have HBL := hide (show bb.length ≤ nv.toNat by
    have h9 := congrArg Prod.fst hs4
    simp only at h9
    rw [← h9]
    cases s3 with
    | none => exact Nat.zero_le _
    | some r =>
      by_cases hq : nv.toNat ≤ r.length
      · rw [show takeQ nv.toNat (some r) = (r.take nv.toNat, some (r.drop nv.toNat)) from if_pos hq]; simp only [List.length_take]; omega
      · rw [show takeQ nv.toNat (some r) = ([], none) from if_neg hq]; exact Nat.zero_le _)
  clear hs3 hs4 hnd hs6 hbs HOB0 HHQ
  have HC1 := hide (fun u (h : RwAt u B q zs stI) => rnum_any B q 4 1048575 zs stI u h (by omega) (by omega) hl (by omega) (by omega))
  have HC2 := hide (fun u (h : RwAt u B q zs s1) => rnum_any B q 1 1 zs s1 u h (by omega) (by omega) hl (by omega) (by omega))
  have HC8 := hide (fun u (h : RwAt u B q zs s6) => rnum_any B q 4 65536 zs s6 u h (by omega) (by omega) hl (by omega) (by omega))
  have hbn := fun u (h : RwAt u B q zs s6) => numQ_ge (n := 4) (m := 65536) (by omega) h.bytR
  obtain ⟨⟨nn, s7'⟩, hs7⟩ : ∃ x, numQ 4 65536 s6 = x := ⟨_, rfl⟩
  rw [h1] at HC1
  rw [h2] at HC2
  rw [hs7] at HC8 hbn
  simp only at HC1 HC2 HC8 hbn
  have HNM0 := hide hs7
  have HBN := hide hbn
  have HZL := hide hl
  have HRS := hide (heap_alloc_new w (.cells #[.int .i64 0, .bool false, .int .i64 0, .int .i64 0, .string ⟨#[]⟩, .int .i64 0, .int .i64 0, .int .u64 0, .int .i64 0, .string ⟨#[]⟩, .int .i64 0, .int .i64 0, .slice none 0 0] 55))
  have HRA := hide (hR.below (below_alloc w (.cells #[.int .i64 0, .bool false, .int .i64 0, .int .i64 0, .string ⟨#[]⟩, .int .i64 0, .int .i64 0, .int .u64 0, .int .i64 0, .string ⟨#[]⟩, .int .i64 0, .int .i64 0, .slice none 0 0] 55)))
  have HQQ := hide hR.lt
  have HGA := hide (grown_of (below_alloc w (.cells #[.int .i64 0, .bool false, .int .i64 0, .int .i64 0, .string ⟨#[]⟩, .int .i64 0, .int .i64 0, .int .u64 0, .int .i64 0, .string ⟨#[]⟩, .int .i64 0, .int .i64 0, .slice none 0 0] 55)) (some q))
  obtain ⟨i0, hi0, hz0, hz1, hz2⟩ := info_parts info71
  have HI : Hid (Try.prog.info? 71 = some i0 ∧ i0.zero = some (.agg #[.int .i64 0, .int .i64 0, .int .i64 0, .int .i64 0]) ∧ i0.size = 4 ∧ i0.bytes = 32) := ⟨hi0, hz0, hz1, hz2⟩
  clear hR hl hz h1 h2 hs7 hbn hi0 hz0 hz1 hz2
  go_enter Try.func15, Try.ntmps15
  go_upto_region 5 with (first
    | (have h9 := HC1; clear h9; go_at_call 14; refine (HC1.out _ HRA.out).mono ?_; rintro e u1 ⟨rfl, rd, g⟩
       have hq := HQQ.out
       have hrs := (g.block _ (lt_of_block HRS.out) (fun e => by have := Option.some.inj e; omega)).trans HRS.out
       have hsz := lt_of_block hrs
       have hb : Lp w (u1.alloc (.cells #[.int .i64 id, .bool false, .int .i64 0, .int .i64 0, .string ⟨#[]⟩, .int .i64 0, .int .i64 0, .int .u64 0, .int .i64 0, .string ⟨#[]⟩, .int .i64 0, .int .i64 0, .slice none 0 0] 55)) B q u1.heap.size #[.int .i64 id, .bool false, .int .i64 0, .int .i64 0, .string ⟨#[]⟩, .int .i64 0, .int .i64 0, .int .u64 0, .int .i64 0, .string ⟨#[]⟩, .int .i64 0, .int .i64 0, .slice none 0 0] zs s1 (u1.heap.size + 1) (.slice none 0 0) 0 [] := ⟨rd.below (below_alloc u1 _), by rw [Below.heap_alloc _ _ _ hsz]; exact hrs, heap_alloc_new _ _, World.ownsRow_nil _ _ _ _, grownBy_trans (grownBy_trans HGA.out g) (grown_of (below_alloc u1 _) _), hq.1, hq.2, hsz, Nat.lt_succ_self _, by simp⟩
       have HS1 := hide hb
       clear rd g hq hrs hsz hb HC1 HRA HRS HGA)
    | (have h9 := HS1; clear h9; go_at_call 14; refine (HC2.out _ HS1.out.rd).mono ?_; rintro e u2 ⟨rfl, rd, g⟩
       have hb := HS1.out.call g rd
       have x2 : u2.cell? ⟨u1.heap.size, 1, none⟩ = some (.bool false) := blk_cell hb.box 1 rfl
       have y2 : u2.frozen? ⟨u1.heap.size, 1, none⟩ = false := blk_free hb.box 1
       have HS2 : Hid (Lp w (u2.setCell ⟨u1.heap.size, 1, none⟩ (.bool true)) B q u1.heap.size #[.int .i64 id, .bool true, .int .i64 0, .int .i64 0, .string ⟨#[]⟩, .int .i64 0, .int .i64 0, .int .u64 0, .int .i64 0, .string ⟨#[]⟩, .int .i64 0, .int .i64 0, .slice none 0 0] zs s2 (u1.heap.size + 1) (.slice none 0 0) 0 []) := hb.store 1 _
       clear HS1 rd g hb HC2)
    | (have h9 := HS2; clear h9; go_at_call 14; refine (HCd.out _ HS2.out.rd).mono ?_; rintro e u3 ⟨rfl, rd, g⟩
       have hnv := HBS.out _ HS2.out.rd
       obtain ⟨nw, hnw⟩ : ∃ nw : Nat, nv = nw := ⟨nv.toNat, by omega⟩
       have HNW := hide hnw
       have HNV := hide hnv
       have HS3 := hide (HS2.out.call g rd)
       clear HS2 rd g HCd hnv hnw)
    | (have h9 := HS3; clear h9; go_at_call 30; refine (HTQ.out nw HNW.out (by have := HNW.out; have := HNV.out; omega) _ HS3.out.rd).mono ?_; rintro e u4 ⟨⟨ta, tc, rfl, rr, hc1, hc2, hc3⟩, rd, g⟩
       have HRR := hide rr
       have HC1 := hide hc1
       have HC2 := hide hc2
       have HS4 := hide (HS3.out.call g rd)
       clear HS3 rd g rr hc1 hc2 hc3)
    | (have h9 := HS4; clear h9; go_at_call 31; refine ((HNR.out HRR.out.2.1 (by have := HBL.out; have := HNV.out; omega)).c12 _ _ _ HRR.out HC1.out HC2.out).mono ?_; rintro e u5 ⟨rfl, b5⟩
       have hb := HS4.out.below b5
       have hba := hb.alloc (.cells #[.int .i64 xk, .int .i64 xp, .string xN, .int .i64 xz, .int .i64 xm, .int .u64 xs, .int .i64 xh, .string xT] 50)
       have x5_2 : (u5.alloc (.cells #[.int .i64 xk, .int .i64 xp, .string xN, .int .i64 xz, .int .i64 xm, .int .u64 xs, .int .i64 xh, .string xT] 50)).cell? ⟨u1.heap.size, 2, none⟩ = some (.int .i64 0) := blk_cell hba.box 2 rfl
       have y5_2 : (u5.alloc (.cells #[.int .i64 xk, .int .i64 xp, .string xN, .int .i64 xz, .int .i64 xm, .int .u64 xs, .int .i64 xh, .string xT] 50)).frozen? ⟨u1.heap.size, 2, none⟩ = false := blk_free hba.box 2
       have x5_3 : (u5.alloc (.cells #[.int .i64 xk, .int .i64 xp, .string xN, .int .i64 xz, .int .i64 xm, .int .u64 xs, .int .i64 xh, .string xT] 50)).cell? ⟨u1.heap.size, 3, none⟩ = some (.int .i64 0) := blk_cell hba.box 3 rfl
       have y5_3 : (u5.alloc (.cells #[.int .i64 xk, .int .i64 xp, .string xN, .int .i64 xz, .int .i64 xm, .int .u64 xs, .int .i64 xh, .string xT] 50)).frozen? ⟨u1.heap.size, 3, none⟩ = false := blk_free hba.box 3
       have x5_4 : (u5.alloc (.cells #[.int .i64 xk, .int .i64 xp, .string xN, .int .i64 xz, .int .i64 xm, .int .u64 xs, .int .i64 xh, .string xT] 50)).cell? ⟨u1.heap.size, 4, none⟩ = some (.string ⟨#[]⟩) := blk_cell hba.box 4 rfl
       have y5_4 : (u5.alloc (.cells #[.int .i64 xk, .int .i64 xp, .string xN, .int .i64 xz, .int .i64 xm, .int .u64 xs, .int .i64 xh, .string xT] 50)).frozen? ⟨u1.heap.size, 4, none⟩ = false := blk_free hba.box 4
       have x5_5 : (u5.alloc (.cells #[.int .i64 xk, .int .i64 xp, .string xN, .int .i64 xz, .int .i64 xm, .int .u64 xs, .int .i64 xh, .string xT] 50)).cell? ⟨u1.heap.size, 5, none⟩ = some (.int .i64 0) := blk_cell hba.box 5 rfl
       have y5_5 : (u5.alloc (.cells #[.int .i64 xk, .int .i64 xp, .string xN, .int .i64 xz, .int .i64 xm, .int .u64 xs, .int .i64 xh, .string xT] 50)).frozen? ⟨u1.heap.size, 5, none⟩ = false := blk_free hba.box 5
       have x5_6 : (u5.alloc (.cells #[.int .i64 xk, .int .i64 xp, .string xN, .int .i64 xz, .int .i64 xm, .int .u64 xs, .int .i64 xh, .string xT] 50)).cell? ⟨u1.heap.size, 6, none⟩ = some (.int .i64 0) := blk_cell hba.box 6 rfl
       have y5_6 : (u5.alloc (.cells #[.int .i64 xk, .int .i64 xp, .string xN, .int .i64 xz, .int .i64 xm, .int .u64 xs, .int .i64 xh, .string xT] 50)).frozen? ⟨u1.heap.size, 6, none⟩ = false := blk_free hba.box 6
       have x5_7 : (u5.alloc (.cells #[.int .i64 xk, .int .i64 xp, .string xN, .int .i64 xz, .int .i64 xm, .int .u64 xs, .int .i64 xh, .string xT] 50)).cell? ⟨u1.heap.size, 7, none⟩ = some (.int .u64 0) := blk_cell hba.box 7 rfl
       have y5_7 : (u5.alloc (.cells #[.int .i64 xk, .int .i64 xp, .string xN, .int .i64 xz, .int .i64 xm, .int .u64 xs, .int .i64 xh, .string xT] 50)).frozen? ⟨u1.heap.size, 7, none⟩ = false := blk_free hba.box 7
       have x5_8 : (u5.alloc (.cells #[.int .i64 xk, .int .i64 xp, .string xN, .int .i64 xz, .int .i64 xm, .int .u64 xs, .int .i64 xh, .string xT] 50)).cell? ⟨u1.heap.size, 8, none⟩ = some (.int .i64 0) := blk_cell hba.box 8 rfl
       have y5_8 : (u5.alloc (.cells #[.int .i64 xk, .int .i64 xp, .string xN, .int .i64 xz, .int .i64 xm, .int .u64 xs, .int .i64 xh, .string xT] 50)).frozen? ⟨u1.heap.size, 8, none⟩ = false := blk_free hba.box 8
       have x5_9 : (u5.alloc (.cells #[.int .i64 xk, .int .i64 xp, .string xN, .int .i64 xz, .int .i64 xm, .int .u64 xs, .int .i64 xh, .string xT] 50)).cell? ⟨u1.heap.size, 9, none⟩ = some (.string ⟨#[]⟩) := blk_cell hba.box 9 rfl
       have y5_9 : (u5.alloc (.cells #[.int .i64 xk, .int .i64 xp, .string xN, .int .i64 xz, .int .i64 xm, .int .u64 xs, .int .i64 xh, .string xT] 50)).frozen? ⟨u1.heap.size, 9, none⟩ = false := blk_free hba.box 9
       have HS5 := hide hba
       have HN5 := hide (heap_alloc_new u5 (.cells #[.int .i64 xk, .int .i64 xp, .string xN, .int .i64 xz, .int .i64 xm, .int .u64 xs, .int .i64 xh, .string xT] 50))
       have n5 : ¬ u5.heap.size = u1.heap.size := by have := lt_of_block hb.box; omega
       have n6 : ¬ u1.heap.size = u5.heap.size := by have := lt_of_block hb.box; omega
       have hq := hb.lt
       have n7 : ¬ q = u5.heap.size := by have := lt_of_block hb.res; omega
       have n8 : ¬ q = u1.heap.size := by omega
       clear HS4 b5 hb hba hq))
  have HOKS : Hid (∃ W : World, W = (u5.alloc (.cells #[.int .i64 xk, .int .i64 xp, .string xN, .int .i64 xz, .int .i64 xm, .int .u64 xs, .int .i64 xh, .string xT] 50))) := ⟨_, rfl⟩
  obtain ⟨x9, c9, t9, ok9, h0, h1, h2, h3, h4, h5, h6, h7⟩ := HS5.out.rd
  have hk2 : (u5.alloc (.cells #[.int .i64 xk, .int .i64 xp, .string xN, .int .i64 xz, .int .i64 xm, .int .u64 xs, .int .i64 xh, .string xT] 50)).cell? ⟨q, 2, none⟩ = some (.bool ok9) := blk_cell h0 2 rfl
  have hk3 : (u5.alloc (.cells #[.int .i64 xk, .int .i64 xp, .string xN, .int .i64 xz, .int .i64 xm, .int .u64 xs, .int .i64 xh, .string xT] 50)).frozen? ⟨q, 2, none⟩ = false := blk_free h0 2
  have hok : ∀ b2, (b2 = (ok9 && (E == 0))) → Lp w ((u5.alloc (.cells #[.int .i64 xk, .int .i64 xp, .string xN, .int .i64 xz, .int .i64 xm, .int .u64 xs, .int .i64 xh, .string xT] 50)).setCell ⟨q, 2, none⟩ (.bool b2)) B q u1.heap.size #[.int .i64 id, .bool true, .int .i64 0, .int .i64 0, .string ⟨#[]⟩, .int .i64 0, .int .i64 0, .int .u64 0, .int .i64 0, .string ⟨#[]⟩, .int .i64 0, .int .i64 0, .slice none 0 0] zs (okQ E s4) (u1.heap.size + 1) (.slice none 0 0) 0 [] := by
    intro b2 hb2
    have g := set_grown (u5.alloc (.cells #[.int .i64 xk, .int .i64 xp, .string xN, .int .i64 xz, .int .i64 xm, .int .u64 xs, .int .i64 xh, .string xT] 50)) q 2 (.bool b2)
    have hq := HS5.out.lt
    refine HS5.out.call g ⟨x9, c9, t9, b2, blk3_set h0 _, h1.lowP h4 ((Below.refl B _).grown g (by omega) (fun k hk => by cases hk; exact h5)), h2, h3, h4, h5, h6, ?_⟩
    cases s4 with
    | none =>
      simp only at h7
      subst h7
      exact hb2
    | some r4 =>
      obtain ⟨h7, h8⟩ := h7
      subst h7
      by_cases hE : E = 0
      · rw [show okQ E (some r4) = some r4 from if_pos hE]
        exact ⟨by rw [hb2, hE]; rfl, h8⟩
      · rw [show okQ E (some r4) = none from if_neg hE]
        show b2 = false
        rw [hb2]; simpa using hE
  have HOK := hide hok
  have c5 : (u5.alloc (.cells #[.int .i64 xk, .int .i64 xp, .string xN, .int .i64 xz, .int .i64 xm, .int .u64 xs, .int .i64 xh, .string xT] 50)).heap[u5.heap.size]? = some (.cells #[.int .i64 xk, .int .i64 xp, .string xN, .int .i64 xz, .int .i64 xm, .int .u64 xs, .int .i64 xh, .string xT] 50 (0, 0)) := HN5.out
  clear h0 h1 h2 h3 h4 h5 h6 h7 hok
  have key : ∀ b2, (b2 = (ok9 && (E == 0))) → ∃ U, U = (u5.alloc (.cells #[.int .i64 xk, .int .i64 xp, .string xN, .int .i64 xz, .int .i64 xm, .int .u64 xs, .int .i64 xh, .string xT] 50)).setCell ⟨q, 2, none⟩ (.bool b2) ∧ Lp w U B q u1.heap.size #[.int .i64 id, .bool true, .int .i64 0, .int .i64 0, .string ⟨#[]⟩, .int .i64 0, .int .i64 0, .int .u64 0, .int .i64 0, .string ⟨#[]⟩, .int .i64 0, .int .i64 0, .slice none 0 0] zs (okQ E s4) (u1.heap.size + 1) (.slice none 0 0) 0 [] := fun b2 hb2 => ⟨_, rfl, HOK.out b2 hb2⟩
  clear key HOKS
  cases ok9 with
  | false =>
    have hb := HOK.out false (by simp)
    go_upto_region 6 with fail
    have c6 : ((u5.alloc (.cells #[.int .i64 xk, .int .i64 xp, .string xN, .int .i64 xz, .int .i64 xm, .int .u64 xs, .int .i64 xh, .string xT] 50)).setCell ⟨q, 2, none⟩ (.bool false)).heap[u5.heap.size]? = some (.cells #[.int .i64 xk, .int .i64 xp, .string xN, .int .i64 xz, .int .i64 xm, .int .u64 xs, .int .i64 xh, .string xT] 50 (0, 0)) := ((set_grown _ q 2 _).block _ (lt_of_block c5) (fun e => n7 (Option.some.inj e).symm)).trans c5
    generalize ((u5.alloc (.cells #[.int .i64 xk, .int .i64 xp, .string xN, .int .i64 xz, .int .i64 xm, .int .u64 xs, .int .i64 xh, .string xT] 50)).setCell ⟨q, 2, none⟩ (.bool false)) = u6 at hb c6 ⊢
    have m0 : u6.cell? ⟨u5.heap.size, 0, none⟩ = some (.int .i64 xk) := blk_cell c6 0 rfl
    have m1 : u6.cell? ⟨u5.heap.size, 1, none⟩ = some (.int .i64 xp) := blk_cell c6 1 rfl
    have m2 : u6.cell? ⟨u5.heap.size, 2, none⟩ = some (.string xN) := blk_cell c6 2 rfl
    have m3 : u6.cell? ⟨u5.heap.size, 3, none⟩ = some (.int .i64 xz) := blk_cell c6 3 rfl
    have m4 : u6.cell? ⟨u5.heap.size, 4, none⟩ = some (.int .i64 xm) := blk_cell c6 4 rfl
    have m5 : u6.cell? ⟨u5.heap.size, 5, none⟩ = some (.int .u64 xs) := blk_cell c6 5 rfl
    have m6 : u6.cell? ⟨u5.heap.size, 6, none⟩ = some (.int .i64 xh) := blk_cell c6 6 rfl
    have m7 : u6.cell? ⟨u5.heap.size, 7, none⟩ = some (.string xT) := blk_cell c6 7 rfl
    have x6_2 : u6.cell? ⟨u1.heap.size, 2, none⟩ = some (.int .i64 0) := blk_cell hb.box 2 rfl
    have y6_2 : u6.frozen? ⟨u1.heap.size, 2, none⟩ = false := blk_free hb.box 2
    have x6_3 : u6.cell? ⟨u1.heap.size, 3, none⟩ = some (.int .i64 0) := blk_cell hb.box 3 rfl
    have y6_3 : u6.frozen? ⟨u1.heap.size, 3, none⟩ = false := blk_free hb.box 3
    have x6_4 : u6.cell? ⟨u1.heap.size, 4, none⟩ = some (.string ⟨#[]⟩) := blk_cell hb.box 4 rfl
    have y6_4 : u6.frozen? ⟨u1.heap.size, 4, none⟩ = false := blk_free hb.box 4
    have x6_5 : u6.cell? ⟨u1.heap.size, 5, none⟩ = some (.int .i64 0) := blk_cell hb.box 5 rfl
    have y6_5 : u6.frozen? ⟨u1.heap.size, 5, none⟩ = false := blk_free hb.box 5
    have x6_6 : u6.cell? ⟨u1.heap.size, 6, none⟩ = some (.int .i64 0) := blk_cell hb.box 6 rfl
    have y6_6 : u6.frozen? ⟨u1.heap.size, 6, none⟩ = false := blk_free hb.box 6
    have x6_7 : u6.cell? ⟨u1.heap.size, 7, none⟩ = some (.int .u64 0) := blk_cell hb.box 7 rfl
    have y6_7 : u6.frozen? ⟨u1.heap.size, 7, none⟩ = false := blk_free hb.box 7
    have x6_8 : u6.cell? ⟨u1.heap.size, 8, none⟩ = some (.int .i64 0) := blk_cell hb.box 8 rfl
    have y6_8 : u6.frozen? ⟨u1.heap.size, 8, none⟩ = false := blk_free hb.box 8
    have x6_9 : u6.cell? ⟨u1.heap.size, 9, none⟩ = some (.string ⟨#[]⟩) := blk_cell hb.box 9 rfl
    have y6_9 : u6.frozen? ⟨u1.heap.size, 9, none⟩ = false := blk_free hb.box 9
    have HS6 := hide (hb.head (.int .i64 xk) (.int .i64 xp) (.string xN) (.int .i64 xz) (.int .i64 xm) (.int .u64 xs) (.int .i64 xh) (.string xT))
    clear hb c6 c5 hk2 hk3 HOK HN5 HS5 x5_2 y5_2 x5_3 y5_3 x5_4 y5_4 x5_5 y5_5 x5_6 y5_6 x5_7 y5_7 x5_8 y5_8 x5_9 y5_9
    go_wp2_with (first
      | (have h9 := HS6; clear h9; go_at_call 32; refine (HCg.out _ HS6.out.rd).mono ?_; rintro e u7 ⟨rfl, rd, g⟩
         have hb := HS6.out.call g rd
         have x7_10 : u7.cell? ⟨u1.heap.size, 10, none⟩ = some (.int .i64 0) := blk_cell hb.box 10 rfl
         have y7_10 : u7.frozen? ⟨u1.heap.size, 10, none⟩ = false := blk_free hb.box 10
         have x7_11 : u7.cell? ⟨u1.heap.size, 11, none⟩ = some (.int .i64 0) := blk_cell hb.box 11 rfl
         have y7_11 : u7.frozen? ⟨u1.heap.size, 11, none⟩ = false := blk_free hb.box 11
         have HS7 : Hid (Lp w ((u7.setCell ⟨u1.heap.size, 10, none⟩ (.int .i64 pa)).setCell ⟨u1.heap.size, 11, none⟩ (.int .i64 pb)) B q u1.heap.size #[.int .i64 id, .bool true, .int .i64 xk, .int .i64 xp, .string xN, .int .i64 xz, .int .i64 xm, .int .u64 xs, .int .i64 xh, .string xT, .int .i64 pa, .int .i64 pb, .slice none 0 0] zs s6 (u1.heap.size + 1) (.slice none 0 0) 0 []) := (hb.store 10 _).store 11 _
         clear HS6 rd g hb)
      | (have h9 := HS7; clear h9; go_at_call 14; refine (HC8.out _ HS7.out.rd).mono ?_; rintro e u8 ⟨rfl, rd, g⟩
         have hnn := HBN.out _ HS7.out.rd
         obtain ⟨n, hn⟩ : ∃ n : Nat, nn = n := ⟨nn.toNat, by omega⟩
         have HNB := hide (show n ≤ 65536 by omega)
         have HN8 := hide hn
         have HS8 := hide (HS7.out.call g rd)
         clear HS7 rd g HC8 hnn hn))
    have hn := HN8.out
    subst hn
    have HNM := hide HNM0.out
    clear HNM0 HN8
    obtain ⟨A, hA⟩ : ∃ A, u1.heap.size = A := ⟨_, rfl⟩
    rw [hA] at HS8
    obtain ⟨C, hC⟩ : ∃ C, A + 1 = C := ⟨_, rfl⟩
    rw [hC] at HS8
    rw [hA]
    clear hA hC
    go_loopw [7] (fun s7 wr => ∃ (k : Nat) (l : List Chk) (st : Option (List Int)) (va : Option Addr) (vc : Nat), k ≤ n ∧ s7 = .int .i64 k ∧ Hid (l.length = k) ∧ Lp w wr B q A #[.int .i64 id, .bool true, .int .i64 xk, .int .i64 xp, .string xN, .int .i64 xz, .int .i64 xm, .int .u64 xs, .int .i64 xh, .string xT, .int .i64 pa, .int .i64 pb, .slice va k vc] zs st C (.slice va k vc) k (flatChk l) ∧ Hid (chsQ n [] s7' = chsQ (n - k) l st))
      (fun s7 _ => n - (intOf s7).toNat)
    case atStart => exact ⟨0, [], s7', none, 0, Nat.zero_le _, rfl, rfl, HS8.out, rfl⟩
    case round =>
      obtain ⟨k, l, st, va, vc, hk, rfl, HLK, hL, HQ⟩ := hrel
      obtain ⟨x9, c9, t9, ok9, h0, _, _, _, _, _, _, hst⟩ := hL.rd
      have co := blk_cell h0 2 rfl
      have HLp := hide hL
      clear h0 hL
      by_cases hlt : k < n
      · have e9 : (k : Int) < n := by omega
        cases st with
        | none =>
          simp only at hst
          subst hst
          have HE := hide (HQ.out.trans (chsQ_dead _ _))
          have hb := HLp.out.box
          have hr := HLp.out.res
          have b0 : wr.cell? ⟨A, 0, none⟩ = some (.int .i64 id) := blk_cell hb 0 rfl
          have b1 : wr.cell? ⟨A, 1, none⟩ = some (.bool true) := blk_cell hb 1 rfl
          have b2 : wr.cell? ⟨A, 2, none⟩ = some (.int .i64 xk) := blk_cell hb 2 rfl
          have b3 : wr.cell? ⟨A, 3, none⟩ = some (.int .i64 xp) := blk_cell hb 3 rfl
          have b4 : wr.cell? ⟨A, 4, none⟩ = some (.string xN) := blk_cell hb 4 rfl
          have b5 : wr.cell? ⟨A, 5, none⟩ = some (.int .i64 xz) := blk_cell hb 5 rfl
          have b6 : wr.cell? ⟨A, 6, none⟩ = some (.int .i64 xm) := blk_cell hb 6 rfl
          have b7 : wr.cell? ⟨A, 7, none⟩ = some (.int .u64 xs) := blk_cell hb 7 rfl
          have b8 : wr.cell? ⟨A, 8, none⟩ = some (.int .i64 xh) := blk_cell hb 8 rfl
          have b9 : wr.cell? ⟨A, 9, none⟩ = some (.string xT) := blk_cell hb 9 rfl
          have b10 : wr.cell? ⟨A, 10, none⟩ = some (.int .i64 pa) := blk_cell hb 10 rfl
          have b11 : wr.cell? ⟨A, 11, none⟩ = some (.int .i64 pb) := blk_cell hb 11 rfl
          have b12 : wr.cell? ⟨A, 12, none⟩ = some (.slice va k vc) := blk_cell hb 12 rfl
          have r0 : wr.frozen? ⟨w.heap.size, 0, none⟩ = false := blk_free hr 0
          have s0 : wr.cell? ⟨w.heap.size, 0, none⟩ = some (.int .i64 0) := blk_cell hr 0 rfl
          have r1 : wr.frozen? ⟨w.heap.size, 1, none⟩ = false := blk_free hr 1
          have s1 : wr.cell? ⟨w.heap.size, 1, none⟩ = some (.bool false) := blk_cell hr 1 rfl
          have r2 : wr.frozen? ⟨w.heap.size, 2, none⟩ = false := blk_free hr 2
          have s2 : wr.cell? ⟨w.heap.size, 2, none⟩ = some (.int .i64 0) := blk_cell hr 2 rfl
          have r3 : wr.frozen? ⟨w.heap.size, 3, none⟩ = false := blk_free hr 3
          have s3 : wr.cell? ⟨w.heap.size, 3, none⟩ = some (.int .i64 0) := blk_cell hr 3 rfl
          have r4 : wr.frozen? ⟨w.heap.size, 4, none⟩ = false := blk_free hr 4
          have s4 : wr.cell? ⟨w.heap.size, 4, none⟩ = some (.string ⟨#[]⟩) := blk_cell hr 4 rfl
          have r5 : wr.frozen? ⟨w.heap.size, 5, none⟩ = false := blk_free hr 5
          have s5 : wr.cell? ⟨w.heap.size, 5, none⟩ = some (.int .i64 0) := blk_cell hr 5 rfl
          have r6 : wr.frozen? ⟨w.heap.size, 6, none⟩ = false := blk_free hr 6
          have s6 : wr.cell? ⟨w.heap.size, 6, none⟩ = some (.int .i64 0) := blk_cell hr 6 rfl
          have r7 : wr.frozen? ⟨w.heap.size, 7, none⟩ = false := blk_free hr 7
          have s7 : wr.cell? ⟨w.heap.size, 7, none⟩ = some (.int .u64 0) := blk_cell hr 7 rfl
          have r8 : wr.frozen? ⟨w.heap.size, 8, none⟩ = false := blk_free hr 8
          have s8 : wr.cell? ⟨w.heap.size, 8, none⟩ = some (.int .i64 0) := blk_cell hr 8 rfl
          have r9 : wr.frozen? ⟨w.heap.size, 9, none⟩ = false := blk_free hr 9
          have s9 : wr.cell? ⟨w.heap.size, 9, none⟩ = some (.string ⟨#[]⟩) := blk_cell hr 9 rfl
          have r10 : wr.frozen? ⟨w.heap.size, 10, none⟩ = false := blk_free hr 10
          have s10 : wr.cell? ⟨w.heap.size, 10, none⟩ = some (.int .i64 0) := blk_cell hr 10 rfl
          have r11 : wr.frozen? ⟨w.heap.size, 11, none⟩ = false := blk_free hr 11
          have s11 : wr.cell? ⟨w.heap.size, 11, none⟩ = some (.int .i64 0) := blk_cell hr 11 rfl
          have r12 : wr.frozen? ⟨w.heap.size, 12, none⟩ = false := blk_free hr 12
          have s12 : wr.cell? ⟨w.heap.size, 12, none⟩ = some (.slice none 0 0) := blk_cell hr 12 rfl
          have n1 : ¬ A = w.heap.size := by have := HLp.out.lt; omega
          have n2 : ¬ w.heap.size = A := fun e => n1 e.symm
          clear hb hr
          go_wp2
          obtain ⟨k9, g9⟩ := over13 (.int .i64 id) (.bool true) (.int .i64 xk) (.int .i64 xp) (.string xN) (.int .i64 xz) (.int .i64 xm) (.int .u64 xs) (.int .i64 xh) (.string xT) (.int .i64 pa) (.int .i64 pb) (.slice va k vc) HLp.out.res
          refine bodyPost_ret (v := .agg #[.int .i64 id, .bool true, .int .i64 xk, .int .i64 xp, .string xN, .int .i64 xz, .int .i64 xm, .int .u64 xs, .int .i64 xh, .string xT, .int .i64 pa, .int .i64 pb, .slice va k vc]) (res15 k9 rfl) rfl ?_
          have hl := HLp.out.lt
          have HOE := hide (show objQ stI = (⟨id, true, ⟨xk, xp, xN, xz, xm, xs, xh, xT⟩, (pa, pb), l⟩, none) by rw [HOB.out]; unfold tailQ; simp only; rw [HNM.out]; simp only [Int.toNat_natCast]; rw [HE.out])
          rw [HOE.out]
          refine ⟨⟨va, vc, by simp only [HLK.out], ?_⟩, HLp.out.rd.other g9 (fun e => by have := Option.some.inj e; omega) (fun i hi => by cases hi; omega), grown_over HLp.out.gr g9 (Nat.le_refl _), by simp only [HLK.out]; have := HNB.out; omega⟩
          simp only [HLK.out]
          exact own_low (own_oth HLp.out.own g9 (oth_lt 71 (by omega : w.heap.size < C)) (Nat.le_refl _)) (by omega)
        | some bs =>
          obtain ⟨hst, _⟩ := hst
          subst hst
          have HTK := hide (show n - k = n - (k + 1) + 1 by omega)
          have hkb : k < 65536 := by have := HNB.out; omega
          have HCa := hide (fun u (h : RwAt u B q zs (some bs)) => rnum_any B q 4 1048575 zs (some bs) u h (by omega) (by omega) HZL.out (by omega) (by omega))
          obtain ⟨⟨no, t1⟩, ht1⟩ : ∃ x, numQ 4 1048575 (some bs) = x := ⟨_, rfl⟩
          have HCb := hide (fun u (h : RwAt u B q zs t1) => rplace_any B q zs t1 u h HZL.out)
          obtain ⟨⟨⟨p1, p2⟩, t2⟩, ht2⟩ : ∃ x, placeQ t1 = x := ⟨_, rfl⟩
          have HCc := hide (fun u (h : RwAt u B q zs t2) => rnum_any B q 2 2048 zs t2 u h (by omega) (by omega) HZL.out (by omega) (by omega))
          obtain ⟨⟨cn, t3⟩, ht3⟩ : ∃ x, numQ 2 2048 t2 = x := ⟨_, rfl⟩
          have HCK : Hid (chkQ (some bs) = (⟨no, (p1, p2), cn⟩, t3)) := by show _ = _; unfold chkQ; rw [ht1]; simp only; rw [ht2]; simp only; rw [ht3]
          rw [ht1] at HCa
          rw [ht2] at HCb
          rw [ht3] at HCc
          simp only at HCa HCb HCc
          clear ht1 ht2 ht3
          go_wp2_with (first
            | (have h9 := HCa; clear h9; go_at_call 14; refine (HCa.out _ HLp.out.rd).mono ?_; rintro e y1 ⟨rfl, rd, g⟩
               have hb := HLp.out.call g rd
               have HX1 := hide (heap_alloc_new y1 (.cells #[.int .i64 no, .int .i64 0, .int .i64 0, .int .i64 0] 71))
               have HFR := hide hb.fresh
               have HCX := hide hb.lt.2.2.2.2
               have HL1 := hide (hb.alloc (.cells #[.int .i64 no, .int .i64 0, .int .i64 0, .int .i64 0] 71))
               clear HCa rd g hb)
            | (have h9 := HL1; clear h9; go_at_call 32; refine (HCb.out _ HL1.out.rd).mono ?_; rintro e y2 ⟨rfl, rd, g⟩
               have hb := HL1.out.call g rd
               have hx := (g.block _ (lt_of_block HX1.out) (fun e => by have := Option.some.inj e; have := HL1.out.lt; have := HCX.out; omega)).trans HX1.out
               have w1 := blk_cell hx 1 rfl
               have w2 := blk_cell hx 2 rfl
               have z1 := blk_free hx 1
               have z2 := blk_free hx 2
               have HX2 := hide (blk3_set (j := 2) (blk3_set (j := 1) hx (.int .i64 p1)) (.int .i64 p2))
               have HL2 := hide ((hb.side y1.heap.size 1 (.int .i64 p1) HCX.out HFR.out).side y1.heap.size 2 (.int .i64 p2) HCX.out HFR.out)
               clear HL1 rd g hb hx)
            | (have h9 := HL2; clear h9; go_at_call 14; refine (HCc.out _ HL2.out.rd).mono ?_; rintro e y3 ⟨rfl, rd, g⟩
               have hb := HL2.out.call g rd
               have hx : y3.heap[y1.heap.size]? = some (.cells #[.int .i64 no, .int .i64 p1, .int .i64 p2, .int .i64 0] 71 (0, 0)) := (g.block _ (lt_of_block HX2.out) (fun e => by have := Option.some.inj e; have := HL2.out.lt; have := HCX.out; omega)).trans HX2.out
               have j0 : y3.cell? ⟨y1.heap.size, 0, none⟩ = some (.int .i64 no) := blk_cell hx 0 rfl
               have j1 : y3.cell? ⟨y1.heap.size, 1, none⟩ = some (.int .i64 p1) := blk_cell hx 1 rfl
               have j2 : y3.cell? ⟨y1.heap.size, 2, none⟩ = some (.int .i64 p2) := blk_cell hx 2 rfl
               have j3 : y3.cell? ⟨y1.heap.size, 3, none⟩ = some (.int .i64 0) := blk_cell hx 3 rfl
               have z3 := blk_free hx 3
               have b12 : y3.cell? ⟨A, 12, none⟩ = some (.slice va k vc) := blk_cell hb.box 12 rfl
               have n1 : ¬ A = y1.heap.size := by have := hb.lt; have := HCX.out; omega
               have n2 : ¬ y1.heap.size = A := fun e => n1 e.symm
               have HL3 := hide (hb.side y1.heap.size 3 (.int .i64 cn) HCX.out HFR.out)
               have HL4 := hide (HL3.out.alloc (.cells #[.int .i64 no, .int .i64 p1, .int .i64 p2, .int .i64 cn] 71))
               clear HL2 rd g hb hx)
            | (at_builtin; refine wpList_append_own ((y3.setCell ⟨y1.heap.size, 3, none⟩ (.int .i64 cn)).alloc (.cells #[.int .i64 no, .int .i64 p1, .int .i64 p2, .int .i64 cn] 71)) rfl (.tmp 67) (.tmp 69) 53 rfl C 71 i0 _ 4 32 Try.underlying53 HI.out.1 HI.out.2.1 HI.out.2.2.1 HI.out.2.2.2 rfl (by decide) (.slice va k vc) k (flatChk l) rfl HL4.out.own ⟨y3.heap.size, 0, none⟩ 1 1 [.int .i64 no, .int .i64 p1, .int .i64 p2, .int .i64 cn] rfl rfl (news4 _ _ _ _ _ _ _ (by simp)) (by simp [Value.oneCell']) (by simp only [maxLen]; omega) (by omega) HL4.out.lt.2.2.2.2 ?_; intro v8 t8 own8 grow8 _h8
               obtain ⟨ga, gc, rfl⟩ := own_slice own8
               have hb := HL4.out.push grow8 own8
               have b12n : t8.cell? ⟨A, 12, none⟩ = some (.slice va k vc) := blk_cell hb.box 12 rfl
               have f12 := blk_free hb.box 12
               have HL5 : Hid (Lp w (t8.setCell ⟨A, 12, none⟩ (.slice ga (k + 1) gc)) B q A #[.int .i64 id, .bool true, .int .i64 xk, .int .i64 xp, .string xN, .int .i64 xz, .int .i64 xm, .int .u64 xs, .int .i64 xh, .string xT, .int .i64 pa, .int .i64 pb, .slice ga (k + 1) gc] zs t3 C (.slice ga (k + 1) gc) (k + 1) (flatChk l ++ [.int .i64 no, .int .i64 p1, .int .i64 p2, .int .i64 cn])) := hb.store 12 _
               clear own8 grow8 _h8 hb))
          go_roundw
          case rel => exact ⟨k + 1, l ++ [⟨no, (p1, p2), cn⟩], t3, ga, gc, by omega, by go_num, by show _ = _; rw [List.length_append, HLK.out]; rfl, by rw [flatChk_add]; exact HL5.out, by show _ = _; rw [HQ.out, HTK.out, chsQ, HCK.out]⟩
          case measure => simp [intOf]; omega
      · have hkn : k = n := by omega
        subst hkn
        have d9 : decide ((k : Int) < k) = false := decide_eq_false (by omega)
        have HE := hide (show chsQ k [] s7' = (l, st) by rw [HQ.out, Nat.sub_self]; cases st <;> rfl)
        have hb := HLp.out.box
        have hr := HLp.out.res
        clear hst
        have b0 : wr.cell? ⟨A, 0, none⟩ = some (.int .i64 id) := blk_cell hb 0 rfl
        have b1 : wr.cell? ⟨A, 1, none⟩ = some (.bool true) := blk_cell hb 1 rfl
        have b2 : wr.cell? ⟨A, 2, none⟩ = some (.int .i64 xk) := blk_cell hb 2 rfl
        have b3 : wr.cell? ⟨A, 3, none⟩ = some (.int .i64 xp) := blk_cell hb 3 rfl
        have b4 : wr.cell? ⟨A, 4, none⟩ = some (.string xN) := blk_cell hb 4 rfl
        have b5 : wr.cell? ⟨A, 5, none⟩ = some (.int .i64 xz) := blk_cell hb 5 rfl
        have b6 : wr.cell? ⟨A, 6, none⟩ = some (.int .i64 xm) := blk_cell hb 6 rfl
        have b7 : wr.cell? ⟨A, 7, none⟩ = some (.int .u64 xs) := blk_cell hb 7 rfl
        have b8 : wr.cell? ⟨A, 8, none⟩ = some (.int .i64 xh) := blk_cell hb 8 rfl
        have b9 : wr.cell? ⟨A, 9, none⟩ = some (.string xT) := blk_cell hb 9 rfl
        have b10 : wr.cell? ⟨A, 10, none⟩ = some (.int .i64 pa) := blk_cell hb 10 rfl
        have b11 : wr.cell? ⟨A, 11, none⟩ = some (.int .i64 pb) := blk_cell hb 11 rfl
        have b12 : wr.cell? ⟨A, 12, none⟩ = some (.slice va k vc) := blk_cell hb 12 rfl
        have r0 : wr.frozen? ⟨w.heap.size, 0, none⟩ = false := blk_free hr 0
        have s0 : wr.cell? ⟨w.heap.size, 0, none⟩ = some (.int .i64 0) := blk_cell hr 0 rfl
        have r1 : wr.frozen? ⟨w.heap.size, 1, none⟩ = false := blk_free hr 1
        have s1 : wr.cell? ⟨w.heap.size, 1, none⟩ = some (.bool false) := blk_cell hr 1 rfl
        have r2 : wr.frozen? ⟨w.heap.size, 2, none⟩ = false := blk_free hr 2
        have s2 : wr.cell? ⟨w.heap.size, 2, none⟩ = some (.int .i64 0) := blk_cell hr 2 rfl
        have r3 : wr.frozen? ⟨w.heap.size, 3, none⟩ = false := blk_free hr 3
        have s3 : wr.cell? ⟨w.heap.size, 3, none⟩ = some (.int .i64 0) := blk_cell hr 3 rfl
        have r4 : wr.frozen? ⟨w.heap.size, 4, none⟩ = false := blk_free hr 4
        have s4 : wr.cell? ⟨w.heap.size, 4, none⟩ = some (.string ⟨#[]⟩) := blk_cell hr 4 rfl
        have r5 : wr.frozen? ⟨w.heap.size, 5, none⟩ = false := blk_free hr 5
        have s5 : wr.cell? ⟨w.heap.size, 5, none⟩ = some (.int .i64 0) := blk_cell hr 5 rfl
        have r6 : wr.frozen? ⟨w.heap.size, 6, none⟩ = false := blk_free hr 6
        have s6 : wr.cell? ⟨w.heap.size, 6, none⟩ = some (.int .i64 0) := blk_cell hr 6 rfl
        have r7 : wr.frozen? ⟨w.heap.size, 7, none⟩ = false := blk_free hr 7
        have s7 : wr.cell? ⟨w.heap.size, 7, none⟩ = some (.int .u64 0) := blk_cell hr 7 rfl
        have r8 : wr.frozen? ⟨w.heap.size, 8, none⟩ = false := blk_free hr 8
        have s8 : wr.cell? ⟨w.heap.size, 8, none⟩ = some (.int .i64 0) := blk_cell hr 8 rfl
        have r9 : wr.frozen? ⟨w.heap.size, 9, none⟩ = false := blk_free hr 9
        have s9 : wr.cell? ⟨w.heap.size, 9, none⟩ = some (.string ⟨#[]⟩) := blk_cell hr 9 rfl
        have r10 : wr.frozen? ⟨w.heap.size, 10, none⟩ = false := blk_free hr 10
        have s10 : wr.cell? ⟨w.heap.size, 10, none⟩ = some (.int .i64 0) := blk_cell hr 10 rfl
        have r11 : wr.frozen? ⟨w.heap.size, 11, none⟩ = false := blk_free hr 11
        have s11 : wr.cell? ⟨w.heap.size, 11, none⟩ = some (.int .i64 0) := blk_cell hr 11 rfl
        have r12 : wr.frozen? ⟨w.heap.size, 12, none⟩ = false := blk_free hr 12
        have s12 : wr.cell? ⟨w.heap.size, 12, none⟩ = some (.slice none 0 0) := blk_cell hr 12 rfl
        have n1 : ¬ A = w.heap.size := by have := HLp.out.lt; omega
        have n2 : ¬ w.heap.size = A := fun e => n1 e.symm
        clear hb hr
        go_wp2
        obtain ⟨k9, g9⟩ := over13 (.int .i64 id) (.bool true) (.int .i64 xk) (.int .i64 xp) (.string xN) (.int .i64 xz) (.int .i64 xm) (.int .u64 xs) (.int .i64 xh) (.string xT) (.int .i64 pa) (.int .i64 pb) (.slice va k vc) HLp.out.res
        refine bodyPost_ret (v := .agg #[.int .i64 id, .bool true, .int .i64 xk, .int .i64 xp, .string xN, .int .i64 xz, .int .i64 xm, .int .u64 xs, .int .i64 xh, .string xT, .int .i64 pa, .int .i64 pb, .slice va k vc]) (res15 k9 rfl) rfl ?_
        have hl := HLp.out.lt
        have HOE := hide (show objQ stI = (⟨id, true, ⟨xk, xp, xN, xz, xm, xs, xh, xT⟩, (pa, pb), l⟩, st) by rw [HOB.out]; unfold tailQ; simp only; rw [HNM.out]; simp only [Int.toNat_natCast]; rw [HE.out])
        rw [HOE.out]
        refine ⟨⟨va, vc, by simp only [HLK.out], ?_⟩, HLp.out.rd.other g9 (fun e => by have := Option.some.inj e; omega) (fun i hi => by cases hi; omega), grown_over HLp.out.gr g9 (Nat.le_refl _), by simp only [HLK.out]; have := HNB.out; omega⟩
        simp only [HLK.out]
        exact own_low (own_oth HLp.out.own g9 (oth_lt 71 (by omega : w.heap.size < C)) (Nat.le_refl _)) (by omega)
  | true =>
    have hb := HOK.out (E == 0) (by simp)
    go_upto_region 6 with fail
    have c6 : ((u5.alloc (.cells #[.int .i64 xk, .int .i64 xp, .string xN, .int .i64 xz, .int .i64 xm, .int .u64 xs, .int .i64 xh, .string xT] 50)).setCell ⟨q, 2, none⟩ (.bool (E == 0))).heap[u5.heap.size]? = some (.cells #[.int .i64 xk, .int .i64 xp, .string xN, .int .i64 xz, .int .i64 xm, .int .u64 xs, .int .i64 xh, .string xT] 50 (0, 0)) := ((set_grown _ q 2 _).block _ (lt_of_block c5) (fun e => n7 (Option.some.inj e).symm)).trans c5
    generalize ((u5.alloc (.cells #[.int .i64 xk, .int .i64 xp, .string xN, .int .i64 xz, .int .i64 xm, .int .u64 xs, .int .i64 xh, .string xT] 50)).setCell ⟨q, 2, none⟩ (.bool (E == 0))) = u6 at hb c6 ⊢
    have m0 : u6.cell? ⟨u5.heap.size, 0, none⟩ = some (.int .i64 xk) := blk_cell c6 0 rfl
    have m1 : u6.cell? ⟨u5.heap.size, 1, none⟩ = some (.int .i64 xp) := blk_cell c6 1 rfl
    have m2 : u6.cell? ⟨u5.heap.size, 2, none⟩ = some (.string xN) := blk_cell c6 2 rfl
    have m3 : u6.cell? ⟨u5.heap.size, 3, none⟩ = some (.int .i64 xz) := blk_cell c6 3 rfl
    have m4 : u6.cell? ⟨u5.heap.size, 4, none⟩ = some (.int .i64 xm) := blk_cell c6 4 rfl
    have m5 : u6.cell? ⟨u5.heap.size, 5, none⟩ = some (.int .u64 xs) := blk_cell c6 5 rfl
    have m6 : u6.cell? ⟨u5.heap.size, 6, none⟩ = some (.int .i64 xh) := blk_cell c6 6 rfl
    have m7 : u6.cell? ⟨u5.heap.size, 7, none⟩ = some (.string xT) := blk_cell c6 7 rfl
    have x6_2 : u6.cell? ⟨u1.heap.size, 2, none⟩ = some (.int .i64 0) := blk_cell hb.box 2 rfl
    have y6_2 : u6.frozen? ⟨u1.heap.size, 2, none⟩ = false := blk_free hb.box 2
    have x6_3 : u6.cell? ⟨u1.heap.size, 3, none⟩ = some (.int .i64 0) := blk_cell hb.box 3 rfl
    have y6_3 : u6.frozen? ⟨u1.heap.size, 3, none⟩ = false := blk_free hb.box 3
    have x6_4 : u6.cell? ⟨u1.heap.size, 4, none⟩ = some (.string ⟨#[]⟩) := blk_cell hb.box 4 rfl
    have y6_4 : u6.frozen? ⟨u1.heap.size, 4, none⟩ = false := blk_free hb.box 4
    have x6_5 : u6.cell? ⟨u1.heap.size, 5, none⟩ = some (.int .i64 0) := blk_cell hb.box 5 rfl
    have y6_5 : u6.frozen? ⟨u1.heap.size, 5, none⟩ = false := blk_free hb.box 5
    have x6_6 : u6.cell? ⟨u1.heap.size, 6, none⟩ = some (.int .i64 0) := blk_cell hb.box 6 rfl
    have y6_6 : u6.frozen? ⟨u1.heap.size, 6, none⟩ = false := blk_free hb.box 6
    have x6_7 : u6.cell? ⟨u1.heap.size, 7, none⟩ = some (.int .u64 0) := blk_cell hb.box 7 rfl
    have y6_7 : u6.frozen? ⟨u1.heap.size, 7, none⟩ = false := blk_free hb.box 7
    have x6_8 : u6.cell? ⟨u1.heap.size, 8, none⟩ = some (.int .i64 0) := blk_cell hb.box 8 rfl
    have y6_8 : u6.frozen? ⟨u1.heap.size, 8, none⟩ = false := blk_free hb.box 8
    have x6_9 : u6.cell? ⟨u1.heap.size, 9, none⟩ = some (.string ⟨#[]⟩) := blk_cell hb.box 9 rfl
    have y6_9 : u6.frozen? ⟨u1.heap.size, 9, none⟩ = false := blk_free hb.box 9
    have HS6 := hide (hb.head (.int .i64 xk) (.int .i64 xp) (.string xN) (.int .i64 xz) (.int .i64 xm) (.int .u64 xs) (.int .i64 xh) (.string xT))
    clear hb c6 c5 hk2 hk3 HOK HN5 HS5 x5_2 y5_2 x5_3 y5_3 x5_4 y5_4 x5_5 y5_5 x5_6 y5_6 x5_7 y5_7 x5_8 y5_8 x5_9 y5_9
    go_wp2_with (first
      | (have h9 := HS6; clear h9; go_at_call 32; refine (HCg.out _ HS6.out.rd).mono ?_; rintro e u7 ⟨rfl, rd, g⟩
         have hb := HS6.out.call g rd
         have x7_10 : u7.cell? ⟨u1.heap.size, 10, none⟩ = some (.int .i64 0) := blk_cell hb.box 10 rfl
         have y7_10 : u7.frozen? ⟨u1.heap.size, 10, none⟩ = false := blk_free hb.box 10
         have x7_11 : u7.cell? ⟨u1.heap.size, 11, none⟩ = some (.int .i64 0) := blk_cell hb.box 11 rfl
         have y7_11 : u7.frozen? ⟨u1.heap.size, 11, none⟩ = false := blk_free hb.box 11
         have HS7 : Hid (Lp w ((u7.setCell ⟨u1.heap.size, 10, none⟩ (.int .i64 pa)).setCell ⟨u1.heap.size, 11, none⟩ (.int .i64 pb)) B q u1.heap.size #[.int .i64 id, .bool true, .int .i64 xk, .int .i64 xp, .string xN, .int .i64 xz, .int .i64 xm, .int .u64 xs, .int .i64 xh, .string xT, .int .i64 pa, .int .i64 pb, .slice none 0 0] zs s6 (u1.heap.size + 1) (.slice none 0 0) 0 []) := (hb.store 10 _).store 11 _
         clear HS6 rd g hb)
      | (have h9 := HS7; clear h9; go_at_call 14; refine (HC8.out _ HS7.out.rd).mono ?_; rintro e u8 ⟨rfl, rd, g⟩
         have hnn := HBN.out _ HS7.out.rd
         obtain ⟨n, hn⟩ : ∃ n : Nat, nn = n := ⟨nn.toNat, by omega⟩
         have HNB := hide (show n ≤ 65536 by omega)
         have HN8 := hide hn
         have HS8 := hide (HS7.out.call g rd)
         clear HS7 rd g HC8 hnn hn))
    have hn := HN8.out
    subst hn
    have HNM := hide HNM0.out
    clear HNM0 HN8
    obtain ⟨A, hA⟩ : ∃ A, u1.heap.size = A := ⟨_, rfl⟩
    rw [hA] at HS8
    obtain ⟨C, hC⟩ : ∃ C, A + 1 = C := ⟨_, rfl⟩
    rw [hC] at HS8
    rw [hA]
    clear hA hC
    go_loopw [7] (fun s7 wr => ∃ (k : Nat) (l : List Chk) (st : Option (List Int)) (va : Option Addr) (vc : Nat), k ≤ n ∧ s7 = .int .i64 k ∧ Hid (l.length = k) ∧ Lp w wr B q A #[.int .i64 id, .bool true, .int .i64 xk, .int .i64 xp, .string xN, .int .i64 xz, .int .i64 xm, .int .u64 xs, .int .i64 xh, .string xT, .int .i64 pa, .int .i64 pb, .slice va k vc] zs st C (.slice va k vc) k (flatChk l) ∧ Hid (chsQ n [] s7' = chsQ (n - k) l st))
      (fun s7 _ => n - (intOf s7).toNat)
    case atStart => exact ⟨0, [], s7', none, 0, Nat.zero_le _, rfl, rfl, HS8.out, rfl⟩
    case round =>
      obtain ⟨k, l, st, va, vc, hk, rfl, HLK, hL, HQ⟩ := hrel
      obtain ⟨x9, c9, t9, ok9, h0, _, _, _, _, _, _, hst⟩ := hL.rd
      have co := blk_cell h0 2 rfl
      have HLp := hide hL
      clear h0 hL
      by_cases hlt : k < n
      · have e9 : (k : Int) < n := by omega
        cases st with
        | none =>
          simp only at hst
          subst hst
          have HE := hide (HQ.out.trans (chsQ_dead _ _))
          have hb := HLp.out.box
          have hr := HLp.out.res
          have b0 : wr.cell? ⟨A, 0, none⟩ = some (.int .i64 id) := blk_cell hb 0 rfl
          have b1 : wr.cell? ⟨A, 1, none⟩ = some (.bool true) := blk_cell hb 1 rfl
          have b2 : wr.cell? ⟨A, 2, none⟩ = some (.int .i64 xk) := blk_cell hb 2 rfl
          have b3 : wr.cell? ⟨A, 3, none⟩ = some (.int .i64 xp) := blk_cell hb 3 rfl
          have b4 : wr.cell? ⟨A, 4, none⟩ = some (.string xN) := blk_cell hb 4 rfl
          have b5 : wr.cell? ⟨A, 5, none⟩ = some (.int .i64 xz) := blk_cell hb 5 rfl
          have b6 : wr.cell? ⟨A, 6, none⟩ = some (.int .i64 xm) := blk_cell hb 6 rfl
          have b7 : wr.cell? ⟨A, 7, none⟩ = some (.int .u64 xs) := blk_cell hb 7 rfl
          have b8 : wr.cell? ⟨A, 8, none⟩ = some (.int .i64 xh) := blk_cell hb 8 rfl
          have b9 : wr.cell? ⟨A, 9, none⟩ = some (.string xT) := blk_cell hb 9 rfl
          have b10 : wr.cell? ⟨A, 10, none⟩ = some (.int .i64 pa) := blk_cell hb 10 rfl
          have b11 : wr.cell? ⟨A, 11, none⟩ = some (.int .i64 pb) := blk_cell hb 11 rfl
          have b12 : wr.cell? ⟨A, 12, none⟩ = some (.slice va k vc) := blk_cell hb 12 rfl
          have r0 : wr.frozen? ⟨w.heap.size, 0, none⟩ = false := blk_free hr 0
          have s0 : wr.cell? ⟨w.heap.size, 0, none⟩ = some (.int .i64 0) := blk_cell hr 0 rfl
          have r1 : wr.frozen? ⟨w.heap.size, 1, none⟩ = false := blk_free hr 1
          have s1 : wr.cell? ⟨w.heap.size, 1, none⟩ = some (.bool false) := blk_cell hr 1 rfl
          have r2 : wr.frozen? ⟨w.heap.size, 2, none⟩ = false := blk_free hr 2
          have s2 : wr.cell? ⟨w.heap.size, 2, none⟩ = some (.int .i64 0) := blk_cell hr 2 rfl
          have r3 : wr.frozen? ⟨w.heap.size, 3, none⟩ = false := blk_free hr 3
          have s3 : wr.cell? ⟨w.heap.size, 3, none⟩ = some (.int .i64 0) := blk_cell hr 3 rfl
          have r4 : wr.frozen? ⟨w.heap.size, 4, none⟩ = false := blk_free hr 4
          have s4 : wr.cell? ⟨w.heap.size, 4, none⟩ = some (.string ⟨#[]⟩) := blk_cell hr 4 rfl
          have r5 : wr.frozen? ⟨w.heap.size, 5, none⟩ = false := blk_free hr 5
          have s5 : wr.cell? ⟨w.heap.size, 5, none⟩ = some (.int .i64 0) := blk_cell hr 5 rfl
          have r6 : wr.frozen? ⟨w.heap.size, 6, none⟩ = false := blk_free hr 6
          have s6 : wr.cell? ⟨w.heap.size, 6, none⟩ = some (.int .i64 0) := blk_cell hr 6 rfl
          have r7 : wr.frozen? ⟨w.heap.size, 7, none⟩ = false := blk_free hr 7
          have s7 : wr.cell? ⟨w.heap.size, 7, none⟩ = some (.int .u64 0) := blk_cell hr 7 rfl
          have r8 : wr.frozen? ⟨w.heap.size, 8, none⟩ = false := blk_free hr 8
          have s8 : wr.cell? ⟨w.heap.size, 8, none⟩ = some (.int .i64 0) := blk_cell hr 8 rfl
          have r9 : wr.frozen? ⟨w.heap.size, 9, none⟩ = false := blk_free hr 9
          have s9 : wr.cell? ⟨w.heap.size, 9, none⟩ = some (.string ⟨#[]⟩) := blk_cell hr 9 rfl
          have r10 : wr.frozen? ⟨w.heap.size, 10, none⟩ = false := blk_free hr 10
          have s10 : wr.cell? ⟨w.heap.size, 10, none⟩ = some (.int .i64 0) := blk_cell hr 10 rfl
          have r11 : wr.frozen? ⟨w.heap.size, 11, none⟩ = false := blk_free hr 11
          have s11 : wr.cell? ⟨w.heap.size, 11, none⟩ = some (.int .i64 0) := blk_cell hr 11 rfl
          have r12 : wr.frozen? ⟨w.heap.size, 12, none⟩ = false := blk_free hr 12
          have s12 : wr.cell? ⟨w.heap.size, 12, none⟩ = some (.slice none 0 0) := blk_cell hr 12 rfl
          have n1 : ¬ A = w.heap.size := by have := HLp.out.lt; omega
          have n2 : ¬ w.heap.size = A := fun e => n1 e.symm
          clear hb hr
          go_wp2
          obtain ⟨k9, g9⟩ := over13 (.int .i64 id) (.bool true) (.int .i64 xk) (.int .i64 xp) (.string xN) (.int .i64 xz) (.int .i64 xm) (.int .u64 xs) (.int .i64 xh) (.string xT) (.int .i64 pa) (.int .i64 pb) (.slice va k vc) HLp.out.res
          refine bodyPost_ret (v := .agg #[.int .i64 id, .bool true, .int .i64 xk, .int .i64 xp, .string xN, .int .i64 xz, .int .i64 xm, .int .u64 xs, .int .i64 xh, .string xT, .int .i64 pa, .int .i64 pb, .slice va k vc]) (res15 k9 rfl) rfl ?_
          have hl := HLp.out.lt
          have HOE := hide (show objQ stI = (⟨id, true, ⟨xk, xp, xN, xz, xm, xs, xh, xT⟩, (pa, pb), l⟩, none) by rw [HOB.out]; unfold tailQ; simp only; rw [HNM.out]; simp only [Int.toNat_natCast]; rw [HE.out])
          rw [HOE.out]
          refine ⟨⟨va, vc, by simp only [HLK.out], ?_⟩, HLp.out.rd.other g9 (fun e => by have := Option.some.inj e; omega) (fun i hi => by cases hi; omega), grown_over HLp.out.gr g9 (Nat.le_refl _), by simp only [HLK.out]; have := HNB.out; omega⟩
          simp only [HLK.out]
          exact own_low (own_oth HLp.out.own g9 (oth_lt 71 (by omega : w.heap.size < C)) (Nat.le_refl _)) (by omega)
        | some bs =>
          obtain ⟨hst, _⟩ := hst
          subst hst
          have HTK := hide (show n - k = n - (k + 1) + 1 by omega)
          have hkb : k < 65536 := by have := HNB.out; omega
          have HCa := hide (fun u (h : RwAt u B q zs (some bs)) => rnum_any B q 4 1048575 zs (some bs) u h (by omega) (by omega) HZL.out (by omega) (by omega))
          obtain ⟨⟨no, t1⟩, ht1⟩ : ∃ x, numQ 4 1048575 (some bs) = x := ⟨_, rfl⟩
          have HCb := hide (fun u (h : RwAt u B q zs t1) => rplace_any B q zs t1 u h HZL.out)
          obtain ⟨⟨⟨p1, p2⟩, t2⟩, ht2⟩ : ∃ x, placeQ t1 = x := ⟨_, rfl⟩
          have HCc := hide (fun u (h : RwAt u B q zs t2) => rnum_any B q 2 2048 zs t2 u h (by omega) (by omega) HZL.out (by omega) (by omega))
          obtain ⟨⟨cn, t3⟩, ht3⟩ : ∃ x, numQ 2 2048 t2 = x := ⟨_, rfl⟩
          have HCK : Hid (chkQ (some bs) = (⟨no, (p1, p2), cn⟩, t3)) := by show _ = _; unfold chkQ; rw [ht1]; simp only; rw [ht2]; simp only; rw [ht3]
          rw [ht1] at HCa
          rw [ht2] at HCb
          rw [ht3] at HCc
          simp only at HCa HCb HCc
          clear ht1 ht2 ht3
          go_wp2_with (first
            | (have h9 := HCa; clear h9; go_at_call 14; refine (HCa.out _ HLp.out.rd).mono ?_; rintro e y1 ⟨rfl, rd, g⟩
               have hb := HLp.out.call g rd
               have HX1 := hide (heap_alloc_new y1 (.cells #[.int .i64 no, .int .i64 0, .int .i64 0, .int .i64 0] 71))
               have HFR := hide hb.fresh
               have HCX := hide hb.lt.2.2.2.2
               have HL1 := hide (hb.alloc (.cells #[.int .i64 no, .int .i64 0, .int .i64 0, .int .i64 0] 71))
               clear HCa rd g hb)
            | (have h9 := HL1; clear h9; go_at_call 32; refine (HCb.out _ HL1.out.rd).mono ?_; rintro e y2 ⟨rfl, rd, g⟩
               have hb := HL1.out.call g rd
               have hx := (g.block _ (lt_of_block HX1.out) (fun e => by have := Option.some.inj e; have := HL1.out.lt; have := HCX.out; omega)).trans HX1.out
               have w1 := blk_cell hx 1 rfl
               have w2 := blk_cell hx 2 rfl
               have z1 := blk_free hx 1
               have z2 := blk_free hx 2
               have HX2 := hide (blk3_set (j := 2) (blk3_set (j := 1) hx (.int .i64 p1)) (.int .i64 p2))
               have HL2 := hide ((hb.side y1.heap.size 1 (.int .i64 p1) HCX.out HFR.out).side y1.heap.size 2 (.int .i64 p2) HCX.out HFR.out)
               clear HL1 rd g hb hx)
            | (have h9 := HL2; clear h9; go_at_call 14; refine (HCc.out _ HL2.out.rd).mono ?_; rintro e y3 ⟨rfl, rd, g⟩
               have hb := HL2.out.call g rd
               have hx : y3.heap[y1.heap.size]? = some (.cells #[.int .i64 no, .int .i64 p1, .int .i64 p2, .int .i64 0] 71 (0, 0)) := (g.block _ (lt_of_block HX2.out) (fun e => by have := Option.some.inj e; have := HL2.out.lt; have := HCX.out; omega)).trans HX2.out
               have j0 : y3.cell? ⟨y1.heap.size, 0, none⟩ = some (.int .i64 no) := blk_cell hx 0 rfl
               have j1 : y3.cell? ⟨y1.heap.size, 1, none⟩ = some (.int .i64 p1) := blk_cell hx 1 rfl
               have j2 : y3.cell? ⟨y1.heap.size, 2, none⟩ = some (.int .i64 p2) := blk_cell hx 2 rfl
               have j3 : y3.cell? ⟨y1.heap.size, 3, none⟩ = some (.int .i64 0) := blk_cell hx 3 rfl
               have z3 := blk_free hx 3
               have b12 : y3.cell? ⟨A, 12, none⟩ = some (.slice va k vc) := blk_cell hb.box 12 rfl
               have n1 : ¬ A = y1.heap.size := by have := hb.lt; have := HCX.out; omega
               have n2 : ¬ y1.heap.size = A := fun e => n1 e.symm
               have HL3 := hide (hb.side y1.heap.size 3 (.int .i64 cn) HCX.out HFR.out)
               have HL4 := hide (HL3.out.alloc (.cells #[.int .i64 no, .int .i64 p1, .int .i64 p2, .int .i64 cn] 71))
               clear HL2 rd g hb hx)
            | (at_builtin; refine wpList_append_own ((y3.setCell ⟨y1.heap.size, 3, none⟩ (.int .i64 cn)).alloc (.cells #[.int .i64 no, .int .i64 p1, .int .i64 p2, .int .i64 cn] 71)) rfl (.tmp 67) (.tmp 69) 53 rfl C 71 i0 _ 4 32 Try.underlying53 HI.out.1 HI.out.2.1 HI.out.2.2.1 HI.out.2.2.2 rfl (by decide) (.slice va k vc) k (flatChk l) rfl HL4.out.own ⟨y3.heap.size, 0, none⟩ 1 1 [.int .i64 no, .int .i64 p1, .int .i64 p2, .int .i64 cn] rfl rfl (news4 _ _ _ _ _ _ _ (by simp)) (by simp [Value.oneCell']) (by simp only [maxLen]; omega) (by omega) HL4.out.lt.2.2.2.2 ?_; intro v8 t8 own8 grow8 _h8
               obtain ⟨ga, gc, rfl⟩ := own_slice own8
               have hb := HL4.out.push grow8 own8
               have b12n : t8.cell? ⟨A, 12, none⟩ = some (.slice va k vc) := blk_cell hb.box 12 rfl
               have f12 := blk_free hb.box 12
               have HL5 : Hid (Lp w (t8.setCell ⟨A, 12, none⟩ (.slice ga (k + 1) gc)) B q A #[.int .i64 id, .bool true, .int .i64 xk, .int .i64 xp, .string xN, .int .i64 xz, .int .i64 xm, .int .u64 xs, .int .i64 xh, .string xT, .int .i64 pa, .int .i64 pb, .slice ga (k + 1) gc] zs t3 C (.slice ga (k + 1) gc) (k + 1) (flatChk l ++ [.int .i64 no, .int .i64 p1, .int .i64 p2, .int .i64 cn])) := hb.store 12 _
               clear own8 grow8 _h8 hb))
          go_roundw
          case rel => exact ⟨k + 1, l ++ [⟨no, (p1, p2), cn⟩], t3, ga, gc, by omega, by go_num, by show _ = _; rw [List.length_append, HLK.out]; rfl, by rw [flatChk_add]; exact HL5.out, by show _ = _; rw [HQ.out, HTK.out, chsQ, HCK.out]⟩
          case measure => simp [intOf]; omega
      · have hkn : k = n := by omega
        subst hkn
        have d9 : decide ((k : Int) < k) = false := decide_eq_false (by omega)
        have HE := hide (show chsQ k [] s7' = (l, st) by rw [HQ.out, Nat.sub_self]; cases st <;> rfl)
        have hb := HLp.out.box
        have hr := HLp.out.res
        clear hst
        have b0 : wr.cell? ⟨A, 0, none⟩ = some (.int .i64 id) := blk_cell hb 0 rfl
        have b1 : wr.cell? ⟨A, 1, none⟩ = some (.bool true) := blk_cell hb 1 rfl
        have b2 : wr.cell? ⟨A, 2, none⟩ = some (.int .i64 xk) := blk_cell hb 2 rfl
        have b3 : wr.cell? ⟨A, 3, none⟩ = some (.int .i64 xp) := blk_cell hb 3 rfl
        have b4 : wr.cell? ⟨A, 4, none⟩ = some (.string xN) := blk_cell hb 4 rfl
        have b5 : wr.cell? ⟨A, 5, none⟩ = some (.int .i64 xz) := blk_cell hb 5 rfl
        have b6 : wr.cell? ⟨A, 6, none⟩ = some (.int .i64 xm) := blk_cell hb 6 rfl
        have b7 : wr.cell? ⟨A, 7, none⟩ = some (.int .u64 xs) := blk_cell hb 7 rfl
        have b8 : wr.cell? ⟨A, 8, none⟩ = some (.int .i64 xh) := blk_cell hb 8 rfl
        have b9 : wr.cell? ⟨A, 9, none⟩ = some (.string xT) := blk_cell hb 9 rfl
        have b10 : wr.cell? ⟨A, 10, none⟩ = some (.int .i64 pa) := blk_cell hb 10 rfl
        have b11 : wr.cell? ⟨A, 11, none⟩ = some (.int .i64 pb) := blk_cell hb 11 rfl
        have b12 : wr.cell? ⟨A, 12, none⟩ = some (.slice va k vc) := blk_cell hb 12 rfl
        have r0 : wr.frozen? ⟨w.heap.size, 0, none⟩ = false := blk_free hr 0
        have s0 : wr.cell? ⟨w.heap.size, 0, none⟩ = some (.int .i64 0) := blk_cell hr 0 rfl
        have r1 : wr.frozen? ⟨w.heap.size, 1, none⟩ = false := blk_free hr 1
        have s1 : wr.cell? ⟨w.heap.size, 1, none⟩ = some (.bool false) := blk_cell hr 1 rfl
        have r2 : wr.frozen? ⟨w.heap.size, 2, none⟩ = false := blk_free hr 2
        have s2 : wr.cell? ⟨w.heap.size, 2, none⟩ = some (.int .i64 0) := blk_cell hr 2 rfl
        have r3 : wr.frozen? ⟨w.heap.size, 3, none⟩ = false := blk_free hr 3
        have s3 : wr.cell? ⟨w.heap.size, 3, none⟩ = some (.int .i64 0) := blk_cell hr 3 rfl
        have r4 : wr.frozen? ⟨w.heap.size, 4, none⟩ = false := blk_free hr 4
        have s4 : wr.cell? ⟨w.heap.size, 4, none⟩ = some (.string ⟨#[]⟩) := blk_cell hr 4 rfl
        have r5 : wr.frozen? ⟨w.heap.size, 5, none⟩ = false := blk_free hr 5
        have s5 : wr.cell? ⟨w.heap.size, 5, none⟩ = some (.int .i64 0) := blk_cell hr 5 rfl
        have r6 : wr.frozen? ⟨w.heap.size, 6, none⟩ = false := blk_free hr 6
        have s6 : wr.cell? ⟨w.heap.size, 6, none⟩ = some (.int .i64 0) := blk_cell hr 6 rfl
        have r7 : wr.frozen? ⟨w.heap.size, 7, none⟩ = false := blk_free hr 7
        have s7 : wr.cell? ⟨w.heap.size, 7, none⟩ = some (.int .u64 0) := blk_cell hr 7 rfl
        have r8 : wr.frozen? ⟨w.heap.size, 8, none⟩ = false := blk_free hr 8
        have s8 : wr.cell? ⟨w.heap.size, 8, none⟩ = some (.int .i64 0) := blk_cell hr 8 rfl
        have r9 : wr.frozen? ⟨w.heap.size, 9, none⟩ = false := blk_free hr 9
        have s9 : wr.cell? ⟨w.heap.size, 9, none⟩ = some (.string ⟨#[]⟩) := blk_cell hr 9 rfl
        have r10 : wr.frozen? ⟨w.heap.size, 10, none⟩ = false := blk_free hr 10
        have s10 : wr.cell? ⟨w.heap.size, 10, none⟩ = some (.int .i64 0) := blk_cell hr 10 rfl
        have r11 : wr.frozen? ⟨w.heap.size, 11, none⟩ = false := blk_free hr 11
        have s11 : wr.cell? ⟨w.heap.size, 11, none⟩ = some (.int .i64 0) := blk_cell hr 11 rfl
        have r12 : wr.frozen? ⟨w.heap.size, 12, none⟩ = false := blk_free hr 12
        have s12 : wr.cell? ⟨w.heap.size, 12, none⟩ = some (.slice none 0 0) := blk_cell hr 12 rfl
        have n1 : ¬ A = w.heap.size := by have := HLp.out.lt; omega
        have n2 : ¬ w.heap.size = A := fun e => n1 e.symm
        clear hb hr
        go_wp2
        obtain ⟨k9, g9⟩ := over13 (.int .i64 id) (.bool true) (.int .i64 xk) (.int .i64 xp) (.string xN) (.int .i64 xz) (.int .i64 xm) (.int .u64 xs) (.int .i64 xh) (.string xT) (.int .i64 pa) (.int .i64 pb) (.slice va k vc) HLp.out.res
        refine bodyPost_ret (v := .agg #[.int .i64 id, .bool true, .int .i64 xk, .int .i64 xp, .string xN, .int .i64 xz, .int .i64 xm, .int .u64 xs, .int .i64 xh, .string xT, .int .i64 pa, .int .i64 pb, .slice va k vc]) (res15 k9 rfl) rfl ?_
        have hl := HLp.out.lt
        have HOE := hide (show objQ stI = (⟨id, true, ⟨xk, xp, xN, xz, xm, xs, xh, xT⟩, (pa, pb), l⟩, st) by rw [HOB.out]; unfold tailQ; simp only; rw [HNM.out]; simp only [Int.toNat_natCast]; rw [HE.out])
        rw [HOE.out]
        refine ⟨⟨va, vc, by simp only [HLK.out], ?_⟩, HLp.out.rd.other g9 (fun e => by have := Option.some.inj e; omega) (fun i hi => by cases hi; omega), grown_over HLp.out.gr g9 (Nat.le_refl _), by simp only [HLK.out]; have := HNB.out; omega⟩
        simp only [HLK.out]
        exact own_low (own_oth HLp.out.own g9 (oth_lt 71 (by omega : w.heap.size < C)) (Nat.le_refl _)) (by omega)
end Go.Proofs.Ytoaahellfflooaa
