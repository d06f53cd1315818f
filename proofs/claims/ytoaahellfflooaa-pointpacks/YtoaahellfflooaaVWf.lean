/-
  SEAT Ytoaahellfflooaa.
-/
import Derived.Test.YtoaahellfflooaaVWi
namespace Go.Proofs.Ytoaahellfflooaa
open Go.RowKit
set_option linter.unusedVariables false

set_option maxHeartbeats 4000000 in
set_option maxRecDepth 100000 in
theorem rspack_bad (s : St) (ba oa : Option Addr) (n m bc oc : Nat) (ls : List (Ob × Value)) (w : World) (hs : StOn w s ba oa n m ls) (hm : mayS s = false) : Calls Try.prog 10 #[.agg #[.int .u64 s.fl, .int .u64 s.nx, .int .i64 s.cu, .int .i64 s.la, .slice ba n bc, .slice oa m oc]] w (PkV s w) := by
  have hb := below_alloc w (.cells #[.int .u64 s.fl, .int .u64 s.nx, .int .i64 s.cu, .int .i64 s.la, .slice ba n bc, .slice oa m oc] 27)
  have HM := hide (rmay16 s ba oa n m bc oc ls _ (hs.below hb))
  rw [hm] at HM
  have HB := hide hb
  have HF := hide hm
  obtain ⟨fl, nx, cu, la, bs, os⟩ := s
  simp only at HM HB
  clear hb hs hm
  go_enter Try.func10, Try.ntmps10
  go_wp2_with (go_at_call 16; refine HM.out.mono ?_; rintro e u1 ⟨rfl, b1⟩; have HB1 := hide b1; clear b1)
  go_ret2
  refine ⟨?_, HB.out.trans (HB1.out.mono (by simp))⟩
  rw [HF.out]
  rfl

theorem byt_app2 {a b : List Int} (h : Byt a) (k : Byt b) : Byt (a ++ b) := fun x hx => (List.mem_append.1 hx).elim (h x) (k x)
theorem byt_flat {α : Type} {f : α → List Int} (hf : ∀ x, Byt (f x)) (l : List α) : Byt (l.flatMap f) := fun x hx => by
  obtain ⟨y, _, h⟩ := List.mem_flatMap.1 hx
  exact hf y x h
theorem plW_byt (p : Int × Int) : Byt (plW p) := byt_app2 (dg_byt _ _) (dg_byt _ _)
theorem chkW_byt (c : Chk) : Byt (chkW c) := byt_app2 (dg_byt _ _) (byt_app2 (plW_byt _) (dg_byt _ _))
theorem blkW_byt (x : Blk) : Byt (blkW x) := byt_app2 (dg_byt _ _) (byt_app2 (dg_byt _ _) (byt_app2 (dg_byt _ _) (dg_byt _ _)))
theorem hdW_byt (o : Ob) : Byt (hdW o) := by
  unfold hdW
  split
  · exact byt_app2 (dg_byt _ _) (byt_app2 (dg_byt _ _) (byt_app2 (nodW_byt _) (plW_byt _)))
  · exact dg_byt _ _
theorem obW_byt (o : Ob) : Byt (obW o) := byt_app2 (dg_byt _ _) (byt_app2 (hdW_byt _) (byt_app2 (dg_byt _ _) (byt_flat chkW_byt _)))
theorem packS_byt (s : St) : Byt (packS s) :=
  byt_app2 (dg_byt _ _) (byt_app2 (dg_byt _ _) (byt_app2 (dg_byt _ _) (byt_app2 (dg_byt _ _) (byt_app2 (dg_byt _ _) (byt_app2 (byt_flat blkW_byt _) (byt_app2 (dg_byt _ _) (byt_flat obW_byt _)))))))

section
variable (fl nx cu la : Int) (bs : List Blk) (os : List Ob)
set_option maxHeartbeats 8000000 in
set_option maxRecDepth 100000 in
theorem rspack_ok (ba oa : Option Addr) (n m bc oc : Nat) (ls : List (Ob × Value)) (w : World) (hs : StOn w ⟨fl, nx, cu, la, bs, os⟩ ba oa n m ls) (hm : mayS ⟨fl, nx, cu, la, bs, os⟩ = true) (hN : St.Nat ⟨fl, nx, cu, la, bs, os⟩) : Calls Try.prog 10 #[.agg #[.int .u64 fl, .int .u64 nx, .int .i64 cu, .int .i64 la, .slice ba n bc, .slice oa m oc]] w (PkV ⟨fl, nx, cu, la, bs, os⟩ w) := by
  have hb := below_alloc w (.cells #[.int .u64 fl, .int .u64 nx, .int .i64 cu, .int .i64 la, .slice ba n bc, .slice oa m oc] 27)
  have HM := hide (rmay16 _ ba oa n m bc oc ls _ (hs.below hb))
  rw [hm] at HM
  have hc := may_can hm
  have HF := hide hm
  have HB := hide hb
  have HC := hide hc
  have HNN := hide hN
  have HS := hide hs
  have hbn := ReadsL.len hs.b blk_len (by decide)
  have hon : os.length = m := by have h1 := ReadsO.len hs.o; have h2 := hs.os; simp only at h2; rw [← h2, List.length_map]; exact h1
  simp only at HM HB hbn
  have HBN := hide hbn
  have HON := hide hon
  have HX : Hid ((w.alloc (.cells #[.int .u64 fl, .int .u64 nx, .int .i64 cu, .int .i64 la, .slice ba n bc, .slice oa m oc] 27)).heap[w.heap.size]? = some (.cells #[.int .u64 fl, .int .u64 nx, .int .i64 cu, .int .i64 la, .slice ba n bc, .slice oa m oc] 27 (0, 0))) := heap_alloc_new w _
  clear hb hs hm hc hN hbn hon
  go_enter Try.func10, Try.ntmps10
  go_upto_region 3 with (go_at_call 16; refine HM.out.mono ?_; rintro e u1 ⟨rfl, b1⟩; have HB1 := hide (HB.out.trans (b1.mono (by simp))); have HX1 := hide ((b1.block w.heap.size (by simp)).trans HX.out); clear b1)
  have hbD : Below w.heap.size w u1.drew := HB1.out.trans ((drewB _).mono HB1.out.size)
  have HX0 : Hid (u1.drew.heap[w.heap.size]? = some (.cells #[.int .u64 fl, .int .u64 nx, .int .i64 cu, .int .i64 la, .slice ba n bc, .slice oa m oc] 27 (0, 0))) := HX1.out
  have hS0 : (fun u => u.cell? ⟨w.heap.size, 0, none⟩ = some (.int .u64 fl) ∧ u.cell? ⟨w.heap.size, 1, none⟩ = some (.int .u64 nx) : World → Prop) u1 := ⟨blk_cell HX1.out 0 rfl, blk_cell HX1.out 1 rfl⟩
  have HK0 : Hid (Kw w.heap.size [] w u1.drew) := Kw.of_below (Nat.le_refl _) hbD
  have hfl := HC.out.fl
  have hnx := HC.out.nx
  have hcu := HC.out.cu
  have hla := HC.out.la
  have hfl0 := HNN.out.fl
  have hnx0 := HNN.out.nx
  have hnb := HC.out.bn
  have hmb := HC.out.on_
  simp only at hfl hnx hcu hla hfl0 hnx0 hnb hmb
  rw [HBN.out] at hnb
  rw [HON.out] at hmb
  obtain ⟨cu1, hcu1⟩ : ∃ cu1, cu + 1 = cu1 := ⟨_, rfl⟩
  obtain ⟨la1, hla1⟩ : ∃ la1, la + 1 = la1 := ⟨_, rfl⟩
  have ecu : IntKind.i64.wrap (cu + 1) = cu1 := by rw [IntKind.wrap_i64]; omega
  have ela : IntKind.i64.wrap (la + 1) = la1 := by rw [IntKind.wrap_i64]; omega
  have ecw : wrap64 (cu + 1) = cu1 := by unfold wrap64; omega
  have elw : wrap64 (la + 1) = la1 := by unfold wrap64; omega
  have ecx : IntKind.u64.wrap cu1 = cu1 := by rw [IntKind.wrap_u64]; omega
  have elx : IntKind.u64.wrap la1 = la1 := by rw [IntKind.wrap_u64]; omega
  have enx : IntKind.u64.wrap (n : Int) = n := by rw [IntKind.wrap_u64]; omega
  have emx : IntKind.u64.wrap (m : Int) = m := by rw [IntKind.wrap_u64]; omega
  have HP1 := hide (fun u => rput21 fl 8 u (by omega) hfl0 (by omega))
  have HP2 := hide (fun u => rput21 nx 8 u (by omega) hnx0 (by omega))
  have HP3 := hide (fun u => rput21 cu1 4 u (by omega) (by omega) (by omega))
  have HP4 := hide (fun u => rput21 la1 4 u (by omega) (by omega) (by omega))
  have HP5 := hide (fun u => rput21 (n : Int) 4 u (by omega) (by omega) (by omega))
  have HP6 := hide (fun u => rput21 (m : Int) 4 u (by omega) (by omega) (by omega))
  have HNB := hide hnb
  have HMB := hide hmb
  have HCU := hide hcu1
  have HLA := hide hla1
  have HBS := hide HB1.out.size
  clear hbD hfl hnx hcu hla hfl0 hnx0 hcu1 hla1 hnb hmb
  refine wp_region_held_drew (S := (fun u => u.cell? ⟨w.heap.size, 0, none⟩ = some (.int .u64 fl) ∧ u.cell? ⟨w.heap.size, 1, none⟩ = some (.int .u64 nx))) (by kernel_rfl) (hS0) (fun hHeld => ?_)
  refine tk 0 ?_
  refine tk 1 ?_
  refine tk 3 ?_
  refine tk 4 ?_
  refine rd 2 (fun K hK => ?_)
  go_simp
  go_at_call 21
  refine (HP1.out _).mono ?_
  rintro e v1 ⟨⟨a1, d1, rfl, hr1, ho1⟩, hb1⟩
  have hx := (hb1.block w.heap.size (lt_of_block HX0.out)).trans HX0.out
  have HX2 := hide hx
  have HRP : Hid (Rp w v1 w.heap.size (.slice a1 8 d1) (dg fl 8)) := ⟨by rw [dg_length]; exact own_base ho1 HBS.out, HK0.out.trans (Kw.of_below HBS.out hb1), Nat.le_trans HBS.out hb1.size⟩
  have hSnew : (fun u => u.cell? ⟨w.heap.size, 0, none⟩ = some (.int .u64 fl) ∧ u.cell? ⟨w.heap.size, 1, none⟩ = some (.int .u64 nx)) v1 := ⟨blk_cell hx 0 rfl, blk_cell hx 1 rfl⟩
  clear hx hr1 ho1 hb1
  go_wp2_with fail
  refine hK.out _ _ hSnew (fun hHeldN => ?_)
  clear hK K hSnew
  clear hHeld
  have hHeld := hHeldN
  clear hHeldN
  try simp only [Act.put, List.setIfInBounds_toArray, List.set_cons_zero, List.set_cons_succ]
  refine rd 5 (fun K hK => ?_)
  go_simp
  go_at_call 21
  refine (HP2.out _).mono ?_
  rintro e v2 ⟨⟨a2, d2, rfl, hr2, -⟩, hb2⟩
  have hx := (hb2.block w.heap.size (lt_of_block HX2.out)).trans HX2.out
  have HX3 := hide hx
  have HR2 := hide hr2
  have HB2 := hide hb2
  have hSnew : (fun u => u.cell? ⟨w.heap.size, 0, none⟩ = some (.int .u64 fl) ∧ u.cell? ⟨w.heap.size, 1, none⟩ = some (.int .u64 nx)) v2 := ⟨blk_cell hx 0 rfl, blk_cell hx 1 rfl⟩
  clear hx hr2 hb2
  go_wp2_with fail
  refine hK.out _ _ hSnew (fun hHeldN => ?_)
  clear hK K hSnew
  clear hHeld
  have hHeld := hHeldN
  clear hHeldN
  try simp only [Act.put, List.setIfInBounds_toArray, List.set_cons_zero, List.set_cons_succ]
  refine rd 6 (fun K hK => ?_)
  refine wp_append_put (.tmp 18) (.tmp 21) rfl w.heap.size _ _ HRP.out HB2.out a2 8 d2 (dg nx 8) rfl rfl HR2.out (by rw [dg_length]; omega) (by omega) (by omega) ?_
  intro s4 v3 hR3 k3 _
  have HR3 := hide hR3
  have hx := k3.oth w.heap.size _ 27 HX3.out (by decide) (by decide)
  have HX4 := hide hx
  have hSnew : (fun u => u.cell? ⟨w.heap.size, 0, none⟩ = some (.int .u64 fl) ∧ u.cell? ⟨w.heap.size, 1, none⟩ = some (.int .u64 nx)) v3 := ⟨blk_cell hx 0 rfl, blk_cell hx 1 rfl⟩
  clear hx hR3 k3
  refine hK.out _ _ hSnew (fun hHeldN => ?_)
  clear hK K hSnew
  clear hHeld
  have hHeld := hHeldN
  clear hHeldN
  try simp only [Act.put, List.setIfInBounds_toArray, List.set_cons_zero, List.set_cons_succ]
  refine tk 7 ?_
  refine wpAnyH_done (by kernel_rfl) ?_ _
  clear hHeld HX HX0 HX1 HX2 HX3 HB HB1 HB2 HR2 HRP HK0 HM hS0 HP1 HP2
  obtain ⟨f0, f1, f2, f3, f4, f5⟩ := bx6 HX4.out
  go_upto_region 7 with (first
    | (go_at_call 21; have h9 := HP3; clear h9; refine (HP3.out _).mono ?_; rintro e v1 ⟨⟨a2, d3, rfl, r4, -⟩, b5⟩; clear f0 f1 f2 f3 f4 f5; have HX8 := hide ((b5.block w.heap.size (lt_of_block HX4.out)).trans HX4.out); obtain ⟨y9, y10, y11, y12, y13, y14⟩ := bx6 HX8.out; have HR6 := hide r4; have HB7 := hide b5; clear r4 b5 HP3)
    | (at_builtin; refine wpList_append_put rfl (.tmp 23) (.tmp 28) rfl w.heap.size _ _ HR3.out (HB7.out) a2 4 d3 (dg (cu1 : Int) 4) rfl rfl (HR6.out) (by simp only [List.length_append, dg_length]; omega) (by omega) ?_; intro x15 z16 p17 k18 grz16; clear y9 y10 y11 y12 y13 y14; have HX20 := hide (k18.oth w.heap.size _ 27 HX8.out (by decide) (by decide)); obtain ⟨y21, y22, y23, y24, y25, y26⟩ := bx6 HX20.out; have RP19 := hide p17; clear p17 k18 grz16)
    | (go_at_call 21; have h9 := HP4; clear h9; refine (HP4.out _).mono ?_; rintro e v27 ⟨⟨a28, d29, rfl, r30, -⟩, b31⟩; clear y21 y22 y23 y24 y25 y26; have HX34 := hide ((b31.block w.heap.size (lt_of_block HX20.out)).trans HX20.out); obtain ⟨y35, y36, y37, y38, y39, y40⟩ := bx6 HX34.out; have HR32 := hide r30; have HB33 := hide b31; clear r30 b31 HP4)
    | (at_builtin; refine wpList_append_put rfl (.tmp 30) (.tmp 35) rfl w.heap.size _ _ RP19.out (HB33.out) a28 4 d29 (dg (la1 : Int) 4) rfl rfl (HR32.out) (by simp only [List.length_append, dg_length]; omega) (by omega) ?_; intro x41 z42 p43 k44 grz42; clear y35 y36 y37 y38 y39 y40; have HX46 := hide (k44.oth w.heap.size _ 27 HX34.out (by decide) (by decide)); obtain ⟨y47, y48, y49, y50, y51, y52⟩ := bx6 HX46.out; have RP45 := hide p43; clear p43 k44 grz42)
    | (go_at_call 21; have h9 := HP5; clear h9; refine (HP5.out _).mono ?_; rintro e v53 ⟨⟨a54, d55, rfl, r56, -⟩, b57⟩; clear y47 y48 y49 y50 y51 y52; have HX60 := hide ((b57.block w.heap.size (lt_of_block HX46.out)).trans HX46.out); obtain ⟨y61, y62, y63, y64, y65, y66⟩ := bx6 HX60.out; have HR58 := hide r56; have HB59 := hide b57; clear r56 b57 HP5)
    | (at_builtin; refine wpList_append_put rfl (.tmp 37) (.tmp 42) rfl w.heap.size _ _ RP45.out (HB59.out) a54 4 d55 (dg (n : Int) 4) rfl rfl (HR58.out) (by simp only [List.length_append, dg_length]; omega) (by omega) ?_; intro x67 z68 p69 k70 grz68; clear y61 y62 y63 y64 y65 y66; have HX72 := hide (k70.oth w.heap.size _ 27 HX60.out (by decide) (by decide)); obtain ⟨y73, y74, y75, y76, y77, y78⟩ := bx6 HX72.out; have RP71 := hide p69; clear p69 k70 grz68)
    )
  obtain ⟨P5, hP5⟩ : ∃ P5, dg fl 8 ++ dg nx 8 ++ dg (cu1 : Int) 4 ++ dg (la1 : Int) 4 ++ dg (n : Int) 4 = P5 := ⟨_, rfl⟩
  have hl5 : P5.length = 28 := by rw [← hP5]; simp only [List.length_append, dg_length]
  have hw5 := RP71.out
  rw [hP5] at hw5
  obtain ⟨lay, hlay⟩ : ∃ lay : Nat → List Int, ∀ k, lay k = P5 ++ (bs.take k).flatMap blkW := ⟨_, fun _ => rfl⟩
  have hll : ∀ k, k ≤ n → (lay k).length ≤ 50000 := fun k hk => by
    have := HNB.out
    rw [hlay, List.length_append, flatW_len blkW_len, List.length_take]
    omega
  have HLL := hide hll
  have HLAY := hide hlay
  have HP5 := hide hP5
  have HL5 := hide hl5
  have HWs := hide hw5
  clear hP5 hl5 hw5 hll hlay ecu ela ecw elw ecx elx
  clear y73 y74 y75 y76 y77 y78
  go_wp2
  go_loopw [4, 5] (fun s4 s5 wr => ∃ (k : Nat), k ≤ n ∧ s5 = .int .i64 k ∧ Hid (Rp w wr w.heap.size s4 (lay k)) ∧ Hid (wr.heap[w.heap.size]? = some (.cells #[.int .u64 fl, .int .u64 nx, .int .i64 cu, .int .i64 la, .slice ba n bc, .slice oa m oc] 27 (0, 0))))
    (fun _ s5 _ => n - (intOf s5).toNat)
  case atStart => exact ⟨0, Nat.zero_le _, rfl, (by have := HWs.out; show Rp _ _ _ _ _; rw [HLAY.out]; simpa using this), HX72⟩
  case round =>
    obtain ⟨k, hk, rfl, RPr, HXr⟩ := hrel
    have hn4 := HNB.out
    obtain ⟨f0, f1, f2, f3, f4, f5⟩ := bx6 HXr.out
    by_cases hlt : k < n
    · have hkl : k < bs.length := by rw [HBN.out]; exact hlt
      obtain ⟨b, off, rfl, hbs, hc⟩ := ReadsK.cells (ReadsL.below HS.out.b RPr.out.kw.bel) (by omega)
      obtain ⟨c0, c1, c2, c3⟩ := hc k hkl
      have hck := HC.out.b bs[k] (List.getElem_mem hkl)
      have hcn := HNN.out.hd bs[k] (List.getElem_mem hkl)
      have hfl := take_flat blkW hkl
      have hnx := HLAY.out (k + 1)
      obtain ⟨⟨x0, x1, x2, x3⟩, hX⟩ : ∃ X, bs[k] = X := ⟨_, rfl⟩
      rw [hX] at c0 c1 c2 c3 hck hcn hfl
      simp only at c0 c1 c2 c3 hck hcn
      obtain ⟨⟨hs0, hs1⟩, hd1, hv0, hv1⟩ := hck
      rw [hfl, ← List.append_assoc, ← HLAY.out k] at hnx
      obtain ⟨LK, hLK⟩ : ∃ LK, lay k = LK := ⟨_, rfl⟩
      have hlk := HLL.out k hk
      rw [hLK] at hnx hlk RPr
      have HLK := hide hlk
      have d1 : (k : Int) < n := by omega
      have hb := below_alloc wr (.cells #[.int .i64 x0, .int .u64 x1, .bool x2, .int .i64 x3] 48)
      have hb2 : Below wr.heap.size wr ((wr.alloc (.cells #[.int .i64 x0, .int .u64 x1, .bool x2, .int .i64 x3] 48)).alloc (.cells #[.int .u8 x0] 5)) := hb.trans ((below_alloc _ _).mono (by simp))
      have HBB := hide hb2
      have HX2 := hide ((hb2.block w.heap.size (lt_of_block HXr.out)).trans HXr.out)
      have HY2 : Hid (((wr.alloc (.cells #[.int .i64 x0, .int .u64 x1, .bool x2, .int .i64 x3] 48)).alloc (.cells #[.int .u8 x0] 5)).heap[wr.heap.size]? = some (.cells #[.int .i64 x0, .int .u64 x1, .bool x2, .int .i64 x3] 48 (0, 0))) := ((below_alloc (wr.alloc (.cells #[.int .i64 x0, .int .u64 x1, .bool x2, .int .i64 x3] 48)) (.cells #[.int .u8 x0] 5)).block wr.heap.size (by simp)).trans (heap_alloc_new wr _)
      have e0 : IntKind.u8.wrap x0 = x0 := by rw [IntKind.wrap_u8']; omega
      have e3 : IntKind.u64.wrap x3 = x3 := by rw [IntKind.wrap_u64]; omega
      obtain ⟨x2v, hx2v⟩ : ∃ x2v : Int, (if x2 = true then 1 else 0) = x2v := ⟨_, rfl⟩
      have hx20 : 0 ≤ x2v ∧ x2v ≤ 1 := by rw [← hx2v]; cases x2 <;> simp
      have HYS := hide (ryes22 x2)
      rw [hx2v] at HYS
      have HQ1 := hide (fun u => rput21 x1 6 u (by omega) hcn (by omega))
      have HQ2 := hide (fun u => rput21 x2v 1 u (by omega) hx20.1 (by omega))
      have HQ3 := hide (fun u => rput21 x3 2 u (by omega) hv0 (by omega))
      have hlt1 := lit1_reads (wr.alloc (.cells #[.int .i64 x0, .int .u64 x1, .bool x2, .int .i64 x3] 48)) x0 hs0 (by omega)
      rw [show (wr.alloc (.cells #[.int .i64 x0, .int .u64 x1, .bool x2, .int .i64 x3] 48)).heap.size = wr.heap.size + 1 by simp] at hlt1
      have HLT := hide hlt1
      have hbw : blkW ⟨x0, x1, x2, x3⟩ = [x0] ++ (dg x1 6 ++ (dg x2v 1 ++ dg x3 2)) := by rw [← dg_one x0 hs0 (by omega), ← hx2v]; rfl
      rw [hbw] at hnx
      have HNX := hide hnx
      clear hb hb2 hfl hnx hX hc hkl hlk hs0 hs1 hd1 hv0 hv1 hcn hLK hbw hx20 hx2v hlt1
      go_wp2_with (first
        | (at_builtin; refine wpList_append_put rfl (.tmp 56) (.tmp 60) rfl w.heap.size _ _ RPr.out (HBB.out) (some ⟨wr.heap.size + 1, 0, none⟩) 1 1 ([x0]) rfl rfl (HLT.out) (by have h8 := HLK.out; (try simp only [List.length_append, dg_length, List.length_cons, List.length_nil]); omega) (by omega) ?_; intro x79 z80 p81 k82 grz80; clear f0 f1 f2 f3 f4 f5; have HX84 := hide (k82.oth w.heap.size _ 27 HX2.out (by decide) (by decide)); obtain ⟨y85, y86, y87, y88, y89, y90⟩ := bx6 HX84.out; have HX91 := hide (k82.oth wr.heap.size _ 48 HY2.out (by decide) (by decide)); obtain ⟨y92, y93, y94, y95⟩ := bx4 HX91.out; have RP83 := hide p81; clear p81 k82 grz80)
        | (go_at_call 21; have h9 := HQ1; clear h9; refine (HQ1.out _).mono ?_; rintro e v96 ⟨⟨a97, d98, rfl, r99, -⟩, b100⟩; clear y85 y86 y87 y88 y89 y90 y92 y93 y94 y95; have HX103 := hide ((b100.block w.heap.size (lt_of_block HX84.out)).trans HX84.out); obtain ⟨y104, y105, y106, y107, y108, y109⟩ := bx6 HX103.out; have HX110 := hide ((b100.block wr.heap.size (lt_of_block HX91.out)).trans HX91.out); obtain ⟨y111, y112, y113, y114⟩ := bx4 HX110.out; have HR101 := hide r99; have HB102 := hide b100; clear r99 b100 HQ1)
        | (at_builtin; refine wpList_append_put rfl (.tmp 62) (.tmp 65) rfl w.heap.size _ _ RP83.out (HB102.out) a97 6 d98 (dg x1 6) rfl rfl (HR101.out) (by have h8 := HLK.out; (try simp only [List.length_append, List.length_cons, List.length_nil]); omega) (by omega) ?_; intro x115 z116 p117 k118 grz116; clear y104 y105 y106 y107 y108 y109 y111 y112 y113 y114; have HX120 := hide (k118.oth w.heap.size _ 27 HX103.out (by decide) (by decide)); obtain ⟨y121, y122, y123, y124, y125, y126⟩ := bx6 HX120.out; have HX127 := hide (k118.oth wr.heap.size _ 48 HX110.out (by decide) (by decide)); obtain ⟨y128, y129, y130, y131⟩ := bx4 HX127.out; have RP119 := hide p117; clear p117 k118 grz116)
        | (go_at_call 22; have h9 := HYS; clear h9; refine (HYS.out _).mono ?_; rintro e u9 ⟨rfl, rfl⟩; clear HYS)
        | (go_at_call 21; have h9 := HQ2; clear h9; refine (HQ2.out _).mono ?_; rintro e v132 ⟨⟨a133, d134, rfl, r135, -⟩, b136⟩; clear y121 y122 y123 y124 y125 y126 y128 y129 y130 y131; have HX139 := hide ((b136.block w.heap.size (lt_of_block HX120.out)).trans HX120.out); obtain ⟨y140, y141, y142, y143, y144, y145⟩ := bx6 HX139.out; have HX146 := hide ((b136.block wr.heap.size (lt_of_block HX127.out)).trans HX127.out); obtain ⟨y147, y148, y149, y150⟩ := bx4 HX146.out; have HR137 := hide r135; have HB138 := hide b136; clear r135 b136 HQ2)
        | (at_builtin; refine wpList_append_put rfl (.tmp 67) (.tmp 71) rfl w.heap.size _ _ RP119.out (HB138.out) a133 1 d134 (dg x2v 1) rfl rfl (HR137.out) (by have h8 := HLK.out; (try simp only [List.length_append, dg_length, List.length_cons, List.length_nil]); omega) (by omega) ?_; intro x151 z152 p153 k154 grz152; clear y140 y141 y142 y143 y144 y145 y147 y148 y149 y150; have HX156 := hide (k154.oth w.heap.size _ 27 HX139.out (by decide) (by decide)); obtain ⟨y157, y158, y159, y160, y161, y162⟩ := bx6 HX156.out; have HX163 := hide (k154.oth wr.heap.size _ 48 HX146.out (by decide) (by decide)); obtain ⟨y164, y165, y166, y167⟩ := bx4 HX163.out; have RP155 := hide p153; clear p153 k154 grz152)
        | (go_at_call 21; have h9 := HQ3; clear h9; refine (HQ3.out _).mono ?_; rintro e v168 ⟨⟨a169, d170, rfl, r171, -⟩, b172⟩; clear y157 y158 y159 y160 y161 y162 y164 y165 y166 y167; have HX175 := hide ((b172.block w.heap.size (lt_of_block HX156.out)).trans HX156.out); obtain ⟨y176, y177, y178, y179, y180, y181⟩ := bx6 HX175.out; have HX182 := hide ((b172.block wr.heap.size (lt_of_block HX163.out)).trans HX163.out); obtain ⟨y183, y184, y185, y186⟩ := bx4 HX182.out; have HR173 := hide r171; have HB174 := hide b172; clear r171 b172 HQ3)
        | (at_builtin; refine wpList_append_put rfl (.tmp 73) (.tmp 77) rfl w.heap.size _ _ RP155.out (HB174.out) a169 2 d170 (dg x3 2) rfl rfl (HR173.out) (by have h8 := HLK.out; (try simp only [List.length_append, dg_length, List.length_cons, List.length_nil]); omega) (by omega) ?_; intro x187 z188 p189 k190 grz188; clear y176 y177 y178 y179 y180 y181 y183 y184 y185 y186; have HX192 := hide (k190.oth w.heap.size _ 27 HX175.out (by decide) (by decide)); obtain ⟨y193, y194, y195, y196, y197, y198⟩ := bx6 HX192.out; have HX199 := hide (k190.oth wr.heap.size _ 48 HX182.out (by decide) (by decide)); obtain ⟨y200, y201, y202, y203⟩ := bx4 HX199.out; have RP191 := hide p189; clear p189 k190 grz188)
        )
      go_roundw
      case rel => exact ⟨k + 1, by omega, by go_num, (by have h := RP191.out; show Rp _ _ _ _ _; rw [HNX.out]; simp only [List.append_assoc] at h ⊢; exact h), HX192⟩
      case measure => simp [intOf]; omega
    · have hkn : n = k := by omega
      subst hkn
      have hz := RPr.out
      rw [HLAY.out, List.take_of_length_le (by rw [HBN.out]; exact Nat.le_refl _)] at hz
      have hl6 := HLL.out n (Nat.le_refl _)
      rw [HLAY.out, List.take_of_length_le (by rw [HBN.out]; exact Nat.le_refl _)] at hl6
      obtain ⟨P6, hP6⟩ : ∃ P6, P5 ++ bs.flatMap blkW = P6 := ⟨_, rfl⟩
      rw [hP6] at hz hl6
      have HLK := hide hl6
      have HP6q := hide hP6
      have HRz := hide hz
      clear hP6 hl6 hz RPr
      go_wp2_with (first
        | (go_at_call 21; have h9 := HP6; clear h9; refine (HP6.out _).mono ?_; rintro e v204 ⟨⟨a205, d206, rfl, r207, -⟩, b208⟩; clear f0 f1 f2 f3 f4 f5; have HX211 := hide ((b208.block w.heap.size (lt_of_block HXr.out)).trans HXr.out); obtain ⟨y212, y213, y214, y215, y216, y217⟩ := bx6 HX211.out; have HR209 := hide r207; have HB210 := hide b208; clear r207 b208 HP6)
        | (at_builtin; refine wpList_append_put rfl (.tmp 79) (.tmp 84) rfl w.heap.size _ _ HRz.out (HB210.out) a205 4 d206 (dg (m : Int) 4) rfl rfl (HR209.out) (by have h8 := HLK.out; (try simp only [List.length_append, dg_length, List.length_cons, List.length_nil]); omega) (by omega) ?_; intro x218 z219 p220 k221 grz219; clear y212 y213 y214 y215 y216 y217; have HX223 := hide (k221.oth w.heap.size _ 27 HX211.out (by decide) (by decide)); obtain ⟨y224, y225, y226, y227, y228, y229⟩ := bx6 HX223.out; have RP222 := hide p220; clear p220 k221 grz219)
        )
      obtain ⟨P7, hP7⟩ : ∃ P7, P6 ++ dg (m : Int) 4 = P7 := ⟨_, rfl⟩
      have hl7 : P7.length ≤ 50004 := by rw [← hP7, List.length_append, dg_length]; have := HLK.out; omega
      have hw7 := RP222.out
      rw [hP7] at hw7
      obtain ⟨loy, hloy⟩ : ∃ loy : Nat → List Int, ∀ k, loy k = P7 ++ (os.take k).flatMap obW := ⟨_, fun _ => rfl⟩
      have hoo : ∀ k, k ≤ m → (loy k).length ≤ 60000000000000 := fun k hk => by
        have h1 := flatO_len (l := os.take k) (fun o ho => by
          have := HC.out.o o (List.mem_of_mem_take ho)
          exact ⟨this.2.1, this.2.2.1⟩)
        have h2 : (os.take k).length ≤ 1048575 := by rw [List.length_take]; have := HMB.out; omega
        have h3 : (os.take k).length * 700000 ≤ 1048575 * 700000 := Nat.mul_le_mul_right _ h2
        rw [hloy, List.length_append]
        omega
      have HOO := hide hoo
      have HLOY := hide hloy
      have HP7 := hide hP7
      have HW7s := hide hw7
      clear hP7 hl7 hw7 hloy hoo hlt hk HXr HLK hn4
      clear y224 y225 y226 y227 y228 y229
      go_wp2
      go_loopw [4, 7] (fun s4 s7 wr => ∃ (k : Nat), k ≤ m ∧ s7 = .int .i64 k ∧ Hid (Rp w wr w.heap.size s4 (loy k)) ∧ Hid (wr.heap[w.heap.size]? = some (.cells #[.int .u64 fl, .int .u64 nx, .int .i64 cu, .int .i64 la, .slice ba n bc, .slice oa m oc] 27 (0, 0))))
        (fun _ s7 _ => m - (intOf s7).toNat)
      case atStart => exact ⟨0, Nat.zero_le _, rfl, (by have := HW7s.out; show Rp _ _ _ _ _; rw [HLOY.out]; simpa using this), HX223⟩
      case round =>
        obtain ⟨k, hk, rfl, RPr, HXr⟩ := hrel
        have hm4 := HMB.out
        obtain ⟨f0, f1, f2, f3, f4, f5⟩ := bx6 HXr.out
        by_cases hlt : k < m
        · have hkl : k < ls.length := by rw [HS.out.o.len]; exact hlt
          have hko : k < os.length := by rw [HON.out]; exact hlt
          have hos : os[k] = ls[k].1 := by
            have h1 := HS.out.os
            simp only at h1
            subst h1
            rw [List.getElem_map]
          obtain ⟨b, off, rfl, hbs, hc⟩ := ReadsO.cells (ReadsL.below HS.out.o RPr.out.kw.bel) (by omega)
          have hcc := hc k hkl
          have hck := HC.out.o os[k] (List.getElem_mem hko)
          have hst := HNN.out.st os[k] (List.getElem_mem hko)
          have hfl := take_flat obW hko
          have hnx := HLOY.out (k + 1)
          obtain ⟨va, vc, hv, hcr, hcl⟩ := HS.out.c ls[k] (List.getElem_mem hkl)
          rw [hos] at hck hst hfl
          obtain ⟨⟨⟨id, hd0, ⟨xk, xp, xN, xz, xm, xs, xh, xT⟩, ⟨p1, p2⟩, ch⟩, vv⟩, hX⟩ : ∃ X, ls[k] = X := ⟨_, rfl⟩
          rw [hX] at hcc hck hst hfl hv hcr hcl
          simp only at hcc hv hcr hcl hck hst hfl
          subst hv
          obtain ⟨vn, hvn⟩ : ∃ vn, ch.length = vn := ⟨_, rfl⟩
          rw [hvn] at hcc hcl hcr hck
          obtain ⟨⟨hi0, hi1⟩, hok, hvl, hch⟩ := hck
          rw [hfl, ← List.append_assoc, ← HLOY.out k] at hnx
          obtain ⟨LK, hLK⟩ : ∃ LK, loy k = LK := ⟨_, rfl⟩
          have hlk := HOO.out k hk
          rw [hLK] at hnx hlk RPr
          have HLK := hide hlk
          have HCL := hide hvn
          have HCR := hide hcr
          have HVN := hide hvl
          have HCH := hide (chL_get (by omega) hch)
          have HKM := hide hlt
          have d1 : (k : Int) < m := by omega
          have g0 : wr.cell? ⟨b, off + k * 13, none⟩ = some (.int .i64 id) := hcc 0 _ rfl
          have g1 : wr.cell? ⟨b, off + k * 13 + 1, none⟩ = some (.bool hd0) := hcc 1 _ rfl
          have g2 : wr.cell? ⟨b, off + k * 13 + 2, none⟩ = some (.int .i64 xk) := hcc 2 _ rfl
          have g3 : wr.cell? ⟨b, off + k * 13 + 3, none⟩ = some (.int .i64 xp) := hcc 3 _ rfl
          have g4 : wr.cell? ⟨b, off + k * 13 + 4, none⟩ = some (.string xN) := hcc 4 _ rfl
          have g5 : wr.cell? ⟨b, off + k * 13 + 5, none⟩ = some (.int .i64 xz) := hcc 5 _ rfl
          have g6 : wr.cell? ⟨b, off + k * 13 + 6, none⟩ = some (.int .i64 xm) := hcc 6 _ rfl
          have g7 : wr.cell? ⟨b, off + k * 13 + 7, none⟩ = some (.int .u64 xs) := hcc 7 _ rfl
          have g8 : wr.cell? ⟨b, off + k * 13 + 8, none⟩ = some (.int .i64 xh) := hcc 8 _ rfl
          have g9 : wr.cell? ⟨b, off + k * 13 + 9, none⟩ = some (.string xT) := hcc 9 _ rfl
          have g10 : wr.cell? ⟨b, off + k * 13 + 10, none⟩ = some (.int .i64 p1) := hcc 10 _ rfl
          have g11 : wr.cell? ⟨b, off + k * 13 + 11, none⟩ = some (.int .i64 p2) := hcc 11 _ rfl
          have g12 : wr.cell? ⟨b, off + k * 13 + 12, none⟩ = some (.slice va vn vc) := hcc 12 _ rfl
          have HST := hide hst
          have HOK := hide hok
          have HNX := hide hnx
          clear hfl hnx hX hc hcc hkl hko hos hlk hst hcr hcl hvn hok hvl hch hLK hbs f0 f1 f2 f3 f4 f5
          cases hd0 with
          | false =>
            refine ob_round_false (w := w) (q0 := w.heap.size) (LK := LK) wr RPr HXr rfl HKM hm4 HLK g0 g1 g2 g3 g4 g5 g6 g7 g8 g9 g10 g11 g12 hi0 hi1 HOK HST HVN HCL HCR HCH _ _ _ _ _ _ _ _ _ _ _ _ _ _ _ _ _ _ _ _ _ _ _ _ _ _ _ _ _ _ _ _ _ _ _ _ _ _ _ _ _ _ _ _ _ _ _ _ _ _ _ _ _ _ _ _ _ _ _ _ _ _ _ _ _ _ _ _ _ _ _ _ _ _ _ _ _ _ _ _ _ _ _ _ _ _ _ _ _ _ _ _ _ _ _ _ _ _ _ _ _ _ _ _ _ _ _ _ _ _ _ _ _ _ _ _ _ _ _ _ _ _ _ _ _ _ _ _ _ _ _ _ _ _ _ _ _ _ _ _ _ _ _ _ _ _ _ _ _ _ _ _ _ _ _ _ _ _ _ _ _ _ _ _ _ _ _ _ ?_
            intro z4 z7 z8 z9 z10 z11 z12 z86 z87 z88 z89 z90 z91 z92 z93 z94 z95 z96 z97 z98 z99 z100 z101 z102 z103 z104 z105 z106 z107 z108 z109 z110 z111 z112 z113 z114 z115 z116 z117 z118 z119 z120 z121 z122 z123 z124 z125 z126 z127 z128 z129 z130 z131 z132 z133 z134 z135 z136 z137 z138 z139 z140 z141 z142 z143 z144 z145 z146 z147 z148 z149 z150 z151 z152 z153 z154 z155 z156 z157 z158 z159 z160 z161 z162 z163 z164 z165 z166 z167 z168 z169 w9 e7 hR9 hK9
            have HR9 : Hid (Rp w w9 w.heap.size z4 (loy (k + 1))) := by
              show Rp _ _ _ _ _
              rw [HNX.out]
              exact hR9
            have HS9 := hide (hK9.oth w.heap.size _ 27 HXr.out (by decide) (by decide))
            subst e7
            have hkm := HKM.out
            clear g0 g1 g2 g3 g4 g5 g6 g7 g8 g9 g10 g11 g12 hR9 hK9 RPr HXr HOK HST HVN HCL HCR HCH HNX
            go_roundw
            case rel => first | exact ⟨k + 1, by omega, rfl, HR9, HS9⟩ | ((repeat apply Exists.intro); exact ⟨⟨k + 1, by omega, rfl, HR9, HS9⟩, rfl⟩)
            case measure => simp [intOf]; omega
          | true =>
            refine ob_round_true (w := w) (q0 := w.heap.size) (LK := LK) wr RPr HXr rfl HKM hm4 HLK g0 g1 g2 g3 g4 g5 g6 g7 g8 g9 g10 g11 g12 hi0 hi1 HOK HST HVN HCL HCR HCH _ _ _ _ _ _ _ _ _ _ _ _ _ _ _ _ _ _ _ _ _ _ _ _ _ _ _ _ _ _ _ _ _ _ _ _ _ _ _ _ _ _ _ _ _ _ _ _ _ _ _ _ _ _ _ _ _ _ _ _ _ _ _ _ _ _ _ _ _ _ _ _ _ _ _ _ _ _ _ _ _ _ _ _ _ _ _ _ _ _ _ _ _ _ _ _ _ _ _ _ _ _ _ _ _ _ _ _ _ _ _ _ _ _ _ _ _ _ _ _ _ _ _ _ _ _ _ _ _ _ _ _ _ _ _ _ _ _ _ _ _ _ _ _ _ _ _ _ _ _ _ _ _ _ _ _ _ _ _ _ _ _ _ _ _ _ _ _ ?_
            intro z4 z7 z8 z9 z10 z11 z12 z86 z87 z88 z89 z90 z91 z92 z93 z94 z95 z96 z97 z98 z99 z100 z101 z102 z103 z104 z105 z106 z107 z108 z109 z110 z111 z112 z113 z114 z115 z116 z117 z118 z119 z120 z121 z122 z123 z124 z125 z126 z127 z128 z129 z130 z131 z132 z133 z134 z135 z136 z137 z138 z139 z140 z141 z142 z143 z144 z145 z146 z147 z148 z149 z150 z151 z152 z153 z154 z155 z156 z157 z158 z159 z160 z161 z162 z163 z164 z165 z166 z167 z168 z169 w9 e7 hR9 hK9
            have HR9 : Hid (Rp w w9 w.heap.size z4 (loy (k + 1))) := by
              show Rp _ _ _ _ _
              rw [HNX.out]
              exact hR9
            have HS9 := hide (hK9.oth w.heap.size _ 27 HXr.out (by decide) (by decide))
            subst e7
            have hkm := HKM.out
            clear g0 g1 g2 g3 g4 g5 g6 g7 g8 g9 g10 g11 g12 hR9 hK9 RPr HXr HOK HST HVN HCL HCR HCH HNX
            go_roundw
            case rel => first | exact ⟨k + 1, by omega, rfl, HR9, HS9⟩ | ((repeat apply Exists.intro); exact ⟨⟨k + 1, by omega, rfl, HR9, HS9⟩, rfl⟩)
            case measure => simp [intOf]; omega
        · have hkm : m = k := by omega
          subst hkm
          have hz := RPr.out
          rw [HLOY.out, List.take_of_length_le (by rw [HON.out]; exact Nat.le_refl _)] at hz
          have HZ := hide hz
          clear hz
          go_wp2
          go_ret2
          refine ⟨?_, HZ.out.kw.bel⟩
          rw [HF.out]
          have hpk : packS ⟨fl, nx, cu, la, bs, os⟩ = P7 ++ os.flatMap obW := by
            rw [← HP7.out, ← HP6q.out, ← HP5.out, ← HCU.out, ← HLA.out, ← HBN.out, ← HON.out]
            simp only [packS, List.append_assoc]
          have hby := packS_byt ⟨fl, nx, cu, la, bs, os⟩
          rw [hpk] at hby ⊢
          exact ⟨_, rfl, HZ.out.own, hby⟩

end
end Go.Proofs.Ytoaahellfflooaa
