/-
  SEAT Ytjhphkfpcpfdnaa: JudgeChip: the walk.
-/
import Derived.Test.YtjhphkfpcpfdnaaPd
import Derived.Deep.CutBlock
namespace Go.Proofs.Ytjhphkfpcpfdnaa
open Go.RowKit Go.Conc
set_option linter.unusedVariables false

set_option maxHeartbeats 8000000 in
set_option maxRecDepth 100000 in
theorem jchip_yes (w : World) (B P S : Nat) (ba : Option Addr) (bn bc : Nat) (bad : List Int) (hR : ReadsI w ba bn bad) (hbn : bn ≤ 9223372036854775807) (sa : Option Addr) (n c : Nat) (fs : List Fc) (hF : ReadsF w sa n fs) (hn : n ≤ 9223372036854775807) (oa : Option Addr) (on oc : Nat) (xs : List Ac) (hO : ReadsA w oa on xs) (hon : on ≤ 1048576) (hne : NewE B P S bad fs = 0) :
    Calls Try.prog 3 #[.agg #[.int .i64 (B : Int), .int .i64 (P : Int), .int .i64 (S : Int)], .slice ba bn bc, .slice sa n c, .slice oa on oc] w fun e w' => e = .returned (.bool true) ∧ Below w.heap.size w w' := by
  obtain ⟨hfit, hfb⟩ := newE_zero hne
  have hfd := of_decide_eq_true hfit
  obtain ⟨C0, hC0⟩ : ∃ C, C = newC B P S bad (fs.map Fc.t) := ⟨_, rfl⟩
  obtain ⟨bs, hbs⟩ : ∃ l, l = C0.bl.map (fun b => b.m) := ⟨_, rfl⟩
  have HFI : Hid (JFin C0 bs B P S 0) := by rw [hbs, hC0]; exact jfin_new B P S bad _ (fmb_kinds hfb) hfit
  have HGEO : Hid (8 ≤ B ∧ B ≤ 4096 ∧ 4 ≤ P ∧ P ≤ 256 ∧ 1 ≤ S ∧ S ≤ 8) := by unfold Hid; omega
  have hbl : bs.length = B := by rw [hbs, List.length_map, HFI.out.ok.bl, HFI.out.B]
  have HBS := hide hbs
  have HBL := hide hbl
  have HE0 : Hid (J.newE B P S B = 0) := by
    show J.newE B P S B = 0
    unfold J.newE
    have h9 : J.Fits B P S = true := hfit
    rw [if_pos h9, if_pos rfl]
  have HFIT := hide hfit
  have HA := hide (below_alloc w (.cells #[.int .i64 (B : Int), .int .i64 (P : Int), .int .i64 (S : Int)] 23))
  have HN := hide (alloc_new w (.cells #[.int .i64 (B : Int), .int .i64 (P : Int), .int .i64 (S : Int)] 23))
  have HR := hide hR
  have HF := hide hF
  have HO := hide hO
  have HNE := hide hne
  have HC0 := hide hC0
  have hf35 := field35
  clear hfb hR hF hO hne hC0 hbs hbl hfit hfd
  go_enter Try.func3, Try.ntmps3
  go_upto_region 4 with (first
    | (go_at_call 4; refine (New_any _ B P S ba bn bc bad (HR.out.below HA.out) hbn sa n c fs (HF.out.below HA.out) hn).mono ?_; rintro e u2 hnew; obtain ⟨p, hE, hch⟩ := hnew.yes HNE.out; subst hE; have HH0 : Hid (∃ F, HD w u2 p F [(w.heap.size, (.cells #[.int .i64 (B : Int), .int .i64 (P : Int), .int .i64 (S : Int)] 23 (0, 0)))] C0) := ⟨_, ⟨below_trans HA.out hnew.bel, (by rw [HC0.out]; have h9 := hch; simp only [Int.toNat_natCast] at h9; exact h9), (fun k hk => by have h9 := hk.1; rw [alloc_size] at h9; omega), (fun x hx => by simp at hx; subst hx; exact ⟨(hnew.bel.block _ (lt_of_block HN.out)).trans HN.out, (fun hf => by have h9 := hf.1; rw [alloc_size] at h9; omega), Nat.le_refl _⟩)⟩⟩; clear hnew hch))
  obtain ⟨F0, hH0⟩ := HH0.out
  have HH := hide hH0
  clear HH0 hH0
  obtain ⟨b4, hb4⟩ : ∃ b, b = w.heap.size := ⟨_, rfl⟩
  rw [← hb4] at HH ⊢
  clear hb4 HA HN HR HF HNE
  go_upto_region 5 with (first
    | (go_at_call 6; refine (Image_any _ p F0 C0 HH.out.ch HFI.out.ok).mono ?_; rintro e u3 hI; obtain ⟨gc, cc, gm, cm, rfl, _, hgm, hgl⟩ := hI.ex; rw [HFI.out.B, HFI.out.P, HFI.out.S]; have HGM : Hid (u3.heap[gm]? = some (.cells (bs.map Value.bool).toArray 4 (0, 0))) := (by rw [HBS.out, List.map_map]; exact hgm); have HH3 := hide ((HH.out.below hI.bel).hold HGM.out (fun hf => by have := HH.out.ch.fin _ hf; omega) (Nat.le_trans HH.out.bel.size hgl)); clear hI hgm hgl))
  obtain ⟨z0, z1, z2⟩ := cells3 (HH3.out.blk (g := b4) (o := (.cells #[.int .i64 (B : Int), .int .i64 (P : Int), .int .i64 (S : Int)] 23 (0, 0))) (by simp))
  go_upto_region 8 with (first
    | (go_at_call 7; refine (J.new_ok B P S (some ⟨gm, 0, none⟩) B cm bs true _ HE0.out (by have h9 := marks_reads HGM.out; rw [HBL.out] at h9; exact h9)).mono ?_; rintro e u4 ⟨gj, bm, rfl, hj4, hb4, hg1, hg2⟩; have HJ4 : Hid (JS w u4 p gj bm [(gm, .cells (bs.map Value.bool).toArray 4 (0, 0)), (b4, (.cells #[.int .i64 (B : Int), .int .i64 (P : Int), .int .i64 (S : Int)] 23 (0, 0)))] F0 C0 B P S (J.start true P bs)) := ⟨HH3.out.below hb4, (fun x hx => by simp at hx; rcases hx with rfl | rfl <;> exact ⟨_, _, _, rfl⟩), hj4, ⟨(fun hf => by have := HH3.out.ch.fin _ hf; omega), (fun hf => by have := HH3.out.ch.fin _ hf; omega)⟩, ⟨Nat.le_trans HH3.out.bel.size hg1, Nat.le_trans HH3.out.bel.size hg2⟩⟩; clear hj4 hb4 hg1 hg2 z0 z1 z2))
  clear HH HH3 HGM
  obtain ⟨z0, z1, z2⟩ := cells3 (HJ4.out.hd.blk (g := b4) (o := (.cells #[.int .i64 (B : Int), .int .i64 (P : Int), .int .i64 (S : Int)] 23 (0, 0))) (by simp))
  go_upto_region 9 with (first
    | (go_at_call 8; refine (spare_any B P S _ HFIT.out (by have := HGEO.out; omega) (by have := HGEO.out; omega)).mono ?_; rintro e u5 ⟨rfl, b5⟩; have HJ5 := hide (HJ4.out.below b5); clear b5 z0 z1 z2))
  clear HJ4
  obtain ⟨d1, hd1⟩ : ∃ d, d = 256 * S := ⟨_, rfl⟩
  obtain ⟨d2, hd2⟩ : ∃ d, d = 54 + 3 * S := ⟨_, rfl⟩
  rw [show (54 + 3 * (S : Int)) = ((d2 : Nat) : Int) by omega]
  have HD := hide (And.intro hd1 hd2)
  have hw1 : IntKind.i64.wrap (256 * (S : Int)) = (d1 : Int) := by have := HGEO.out; simp only [IntKind.wrap_i64]; omega
  have hw2 : wrap64 (256 * (S : Int)) = (d1 : Int) := by have := HGEO.out; unfold wrap64; omega
  have hmk1 := fun u => mk32z u d1 (by have := HGEO.out; omega)
  have hmk2 := fun u => mk32z u d2 (by have := HGEO.out; omega)
  obtain ⟨z0, z1, z2⟩ := cells3 (HJ5.out.hd.blk (g := b4) (o := (.cells #[.int .i64 (B : Int), .int .i64 (P : Int), .int .i64 (S : Int)] 23 (0, 0))) (by simp))
  have hlt4 := lt_of_block (HJ5.out.hd.blk (g := b4) (o := (.cells #[.int .i64 (B : Int), .int .i64 (P : Int), .int .i64 (S : Int)] 23 (0, 0))) (by simp))
  clear hd1 hd2 hf35
  go_cut [16] from 60 to 66 (fun s16 wx => ∃ bp gd gs : Nat, s16 = .pointer (some ⟨bp, 0, none⟩) ∧ Hid (JS w wx p gj bm [(bp, .cells #[.slice (some ⟨gd, 0, none⟩) d1 d1, .slice (some ⟨gs, 0, none⟩) d2 d2] 43 (0, 0)), (gd, .cells (zrow8 d1) 5 (0, 0)), (gs, .cells (zrow8 d2) 5 (0, 0)), (gm, .cells (bs.map Value.bool).toArray 4 (0, 0)), (b4, (.cells #[.int .i64 (B : Int), .int .i64 (P : Int), .int .i64 (S : Int)] 23 (0, 0)))] F0 C0 B P S (J.start true P bs)))
  case first =>
    go_region
    all_goals go_wp2
    all_goals go_meet
    all_goals
      first
      | (refine ⟨u5.heap.size + 1 + 1, u5.heap.size, u5.heap.size + 1, rfl, (HJ5.out.three _ _ _ _ _ _).less ?_⟩; intro x hx; simp only [List.mem_cons, List.not_mem_nil, or_false] at hx; rcases hx with rfl | rfl | rfl | rfl | rfl <;> (simp; done))
      | (refine ⟨u5.heap.size + 1 + 1, u5.heap.size + 1, u5.heap.size, rfl, (HJ5.out.three _ _ _ _ _ _).less ?_⟩; intro x hx; simp only [List.mem_cons, List.not_mem_nil, or_false] at hx; rcases hx with rfl | rfl | rfl | rfl | rfl <;> (simp; done))
      | (refine ⟨u5.heap.size + 1, u5.heap.size, u5.heap.size + 1 + 1, rfl, (HJ5.out.three _ _ _ _ _ _).less ?_⟩; intro x hx; simp only [List.mem_cons, List.not_mem_nil, or_false] at hx; rcases hx with rfl | rfl | rfl | rfl | rfl <;> (simp; done))
      | (refine ⟨u5.heap.size + 1, u5.heap.size + 1 + 1, u5.heap.size, rfl, (HJ5.out.three _ _ _ _ _ _).less ?_⟩; intro x hx; simp only [List.mem_cons, List.not_mem_nil, or_false] at hx; rcases hx with rfl | rfl | rfl | rfl | rfl <;> (simp; done))
      | (refine ⟨u5.heap.size, u5.heap.size + 1, u5.heap.size + 1 + 1, rfl, (HJ5.out.three _ _ _ _ _ _).less ?_⟩; intro x hx; simp only [List.mem_cons, List.not_mem_nil, or_false] at hx; rcases hx with rfl | rfl | rfl | rfl | rfl <;> (simp; done))
      | (refine ⟨u5.heap.size, u5.heap.size + 1 + 1, u5.heap.size + 1, rfl, (HJ5.out.three _ _ _ _ _ _).less ?_⟩; intro x hx; simp only [List.mem_cons, List.not_mem_nil, or_false] at hx; rcases hx with rfl | rfl | rfl | rfl | rfl <;> (simp; done))
  case rest =>
  obtain ⟨bp, gd, gs, rfl, HJ6⟩ := hcut
  clear HJ5 z0 z1 z2 hlt4 hw1 hw2 hmk1 hmk2
  have HT0 : Hid (∃ (F : Nat → Prop) (C : Ch), JS w wc p gj bm [(bp, .cells #[.slice (some ⟨gd, 0, none⟩) d1 d1, .slice (some ⟨gs, 0, none⟩) d2 d2] 43 (0, 0)), (gd, .cells (zrow8 d1) 5 (0, 0)), (gs, .cells (zrow8 d2) 5 (0, 0)), (gm, .cells (bs.map Value.bool).toArray 4 (0, 0)), (b4, (.cells #[.int .i64 (B : Int), .int .i64 (P : Int), .int .i64 (S : Int)] 23 (0, 0)))] F C B P S (J.jfold P (J.start true P bs) (C.tr.map Cmd.j)) ∧ JFin C bs B P S 0) := by
    have h9 := HJ6.out
    have e : C0.tr = [] := List.eq_nil_of_length_eq_zero (by have := HFI.out.tr; omega)
    exact ⟨F0, C0, by rw [e]; exact h9, HFI.out⟩
  clear HJ6 HFI HC0 HBS HFIT
  obtain ⟨wl, hwl⟩ : ∃ u, u = wc := ⟨_, rfl⟩
  subst hwl
  go_wp2
  go_loopw [17] (fun s17 wr => ∃ i : Nat, i ≤ on ∧ s17 = .int .i64 i ∧ Hid (∃ (F : Nat → Prop) (C : Ch), JS w wr p gj bm [(bp, .cells #[.slice (some ⟨gd, 0, none⟩) d1 d1, .slice (some ⟨gs, 0, none⟩) d2 d2] 43 (0, 0)), (gd, .cells (zrow8 d1) 5 (0, 0)), (gs, .cells (zrow8 d2) 5 (0, 0)), (gm, .cells (bs.map Value.bool).toArray 4 (0, 0)), (b4, (.cells #[.int .i64 (B : Int), .int .i64 (P : Int), .int .i64 (S : Int)] 23 (0, 0)))] F C B P S (J.jfold P (J.start true P bs) (C.tr.map Cmd.j)) ∧ JFin C bs B P S i)) (fun s17 _ => on - (intOf s17).toNat)
  case atStart => exact ⟨0, Nat.zero_le _, rfl, HT0⟩
  case round =>
    clear HT0
    obtain ⟨i, hi, rfl, HS⟩ := hrel
    obtain ⟨F, C, hM, hfi⟩ := HS.out
    have HM := hide hM
    have HFI := hide hfi
    clear HS hM hfi
    by_cases hlt : i < on
    · have dm : decide ((i : Int) < (on : Int)) = true := decide_eq_true (by omega)
      have i1 : (i : Int) < (on : Int) := by omega
      obtain ⟨gO, oO, x, hoa, hxo, k0, k1, k2⟩ := HO.out.pos hlt
      subst hoa
      have hbw := HM.out.hd.bel
      have k0 := (hbw.cell (block_lt_of_cell k0)).trans k0
      have k1 := (hbw.cell (block_lt_of_cell k1)).trans k1
      have k2 := (hbw.cell (block_lt_of_cell k2)).trans k2
      have HXO := hide hxo
      clear hxo hbw
      go_upto_region 14 with fail
      clear k0 k1 k2
      have HM1 := hide (HM.out.box #[.int .i64 x.k, .int .i64 x.b, .int .i64 x.p] 45)
      generalize hU : wr.alloc (.cells #[.int .i64 x.k, .int .i64 x.b, .int .i64 x.p] 45) = U at HM1 ⊢
      generalize hq18 : wr.heap.size = q18 at HM1 ⊢
      clear hU hq18 HM
      have htr3 : C.tr.length ≤ 3000000000000 := by have := HFI.out.tr; omega
      have HTR := hide htr3
      obtain ⟨nt, hnt⟩ : ∃ m, m = C.tr.length := ⟨_, rfl⟩
      have HNT := hide hnt
      clear htr3 hnt
      go_upto_region 15 with (first
        | (go_at_call 9; refine (Trace_any _ p F C HM1.out.hd.ch (by have := HTR.out; omega)).mono ?_; rintro e u2 ⟨v2, rfl, ho2, hb2⟩; obtain ⟨a2, c2, hv2⟩ := trace_shape ho2; subst hv2; rw [← HNT.out]; have HM2 := hide (HM1.out.below hb2); clear ho2 hb2))
      clear HM1
      obtain ⟨dk, hdk⟩ : ∃ b, b = C.dark := ⟨_, rfl⟩
      have HDK := hide hdk
      clear hdk
      go_upto_region 16 with (first
        | (go_at_call 10; refine (Dark_any _ p _ C HM2.out.hd.ch).mono ?_; rintro e v0 ⟨rfl, hv0⟩; subst hv0; rw [← HDK.out]))
      obtain ⟨y0, y1, y2⟩ := cells3 (HM2.out.hd.blk (g := q18) (o := (.cells #[.int .i64 x.k, .int .i64 x.b, .int .i64 x.p] 45 (0, 0))) (by simp))
      go_upto_block 2 with fail
      go_cut [20] from 84 to 109 (fun s20 wx => s20 = .bool dk ∧ Hid (∃ (F' : Nat → Prop) (C' : Ch), JS w wx p gj bm ((q18, .cells #[.int .i64 x.k, .int .i64 x.b, .int .i64 x.p] 45 (0, 0)) :: [(bp, .cells #[.slice (some ⟨gd, 0, none⟩) d1 d1, .slice (some ⟨gs, 0, none⟩) d2 d2] 43 (0, 0)), (gd, .cells (zrow8 d1) 5 (0, 0)), (gs, .cells (zrow8 d2) 5 (0, 0)), (gm, .cells (bs.map Value.bool).toArray 4 (0, 0)), (b4, (.cells #[.int .i64 (B : Int), .int .i64 (P : Int), .int .i64 (S : Int)] 23 (0, 0)))]) F' C' B P S (J.jfold P (J.start true P bs) (C.tr.map Cmd.j)) ∧ JAct C C' bs B P S i x.k x.b))
      case first =>
        by_cases hk0 : x.k = 0
        · have HACT := hide (act_on HFI.out x.b)
          rw [← hk0] at HACT
          have d0 : (x.k == 0) = true := by rw [hk0]; rfl
          clear hk0
          go_wp2_with (first | (go_at_call 11; refine (On_any _ p _ C HM2.out.hd.ch).mono ?_; rintro e u3 ⟨rfl, hc3, ho3⟩; have HM3 := hide (HM2.out.on hc3 ho3); clear hc3 ho3))
          go_meet
          exact ⟨rfl, _, _, HM3.out, HACT.out⟩
        have d0 : (x.k == 0) = false := by simp [hk0]
        by_cases hk1 : x.k = 1
        · have HACT : Hid (JAct C (ProgramC C x.b x.p d1 d2 (List.replicate d1 0 ++ List.replicate d2 0)).2 bs B P S i x.k x.b) := by
            show JAct _ _ _ _ _ _ _ _ _
            rw [hk1, HD.out.1, HD.out.2]
            exact act_prog HFI.out x.b x.p _ HXO.out.b HXO.out.p HFI.out.S.symm
          have d1' : (x.k == 1) = true := by rw [hk1]; rfl
          have hk1' := hide hk1
          clear hk0 hk1
          obtain ⟨g0, g1⟩ := cells2 (HM2.out.hd.blk (g := bp) (o := .cells #[.slice (some ⟨gd, 0, none⟩) d1 d1, .slice (some ⟨gs, 0, none⟩) d2 d2] 43 (0, 0)) (by simp))
          go_wp2_with (first | (go_at_call 12; refine (Program_any _ p F C HM2.out.hd.ch HFI.out.ok x.b x.p (some ⟨gd, 0, none⟩) (some ⟨gs, 0, none⟩) d1 d1 d2 d2 (by have := HGEO.out; have := HD.out; omega) (by have := HGEO.out; have := HD.out; omega) HTR.out (List.replicate d1 0) (List.replicate d2 0) (zrow_reads (HM2.out.hd.blk (g := gd) (o := .cells (zrow8 d1) 5 (0, 0)) (by simp))) (zrow_reads (HM2.out.hd.blk (g := gs) (o := .cells (zrow8 d2) 5 (0, 0)) (by simp))) (fun y hy => by cases hy; exact (HM2.out.hd.kp (gd, .cells (zrow8 d1) 5 (0, 0)) (by simp)).2.1) (fun y hy => by cases hy; exact (HM2.out.hd.kp (gs, .cells (zrow8 d2) 5 (0, 0)) (by simp)).2.1)).mono ?_; rintro e u3 ⟨rfl, hc3, ho3⟩; have HM3 := hide (HM2.out.step hc3 ho3); clear hc3 ho3))
          go_meet
          exact ⟨rfl, _, _, HM3.out, HACT.out⟩
        have d1' : (x.k == 1) = false := by simp [hk1]
        by_cases hk2 : x.k = 2
        · have HACT := hide (act_erase HFI.out x.b HXO.out.b)
          rw [← hk2] at HACT
          have d2' : (x.k == 2) = true := by rw [hk2]; rfl
          clear hk0 hk1 hk2
          go_wp2_with (first | (go_at_call 13; refine (Erase_any _ p F C HM2.out.hd.ch HFI.out.ok HTR.out x.b).mono ?_; rintro e u3 ⟨rfl, hc3, ho3⟩; have HM3 := hide (HM2.out.step hc3 ho3); clear hc3 ho3))
          go_meet
          exact ⟨rfl, _, _, HM3.out, HACT.out⟩
        have d2' : (x.k == 2) = false := by simp [hk2]
        by_cases hk3 : x.k = 3
        · have HACT := hide (act_mark HFI.out x.b HXO.out.b)
          rw [← hk3] at HACT
          have d3' : (x.k == 3) = true := by rw [hk3]; rfl
          clear hk0 hk1 hk2 hk3
          go_wp2_with (first | (go_at_call 14; refine (Mark_any _ p F C HM2.out.hd.ch HFI.out.ok HTR.out x.b).mono ?_; rintro e u3 ⟨rfl, hc3, ho3⟩; have HM3 := hide (HM2.out.step hc3 ho3); clear hc3 ho3))
          go_meet
          exact ⟨rfl, _, _, HM3.out, HACT.out⟩
        have d3' : (x.k == 3) = false := by simp [hk3]
        have HACT := hide (act_none HFI.out x.k x.b (by omega))
        clear hk0 hk1 hk2 hk3
        go_wp2
        go_meet
        exact ⟨rfl, _, _, HM2.out, HACT.out⟩
      case rest => 
      obtain ⟨rfl, HA⟩ := hcut
      obtain ⟨F', C', hM3, hA⟩ := HA.out
      have HM3 := hide hM3
      clear HA hM3 HM2 y0 y1 y2
      obtain ⟨wq, hwq⟩ : ∃ u, u = wc := ⟨_, rfl⟩
      subst hwq
      have HTL : Hid (C'.tr.length ≤ 1048577) := by
        have h9 := HFI.out.tr
        rcases hA with ⟨hs, _, _⟩ | ⟨e, pp, ht, _, _, _⟩ | ⟨e, pp, ht, _, _, _, _, _⟩
        · show C'.tr.length ≤ _; rw [hs]; omega
        · show C'.tr.length ≤ _; rw [ht, List.length_append]; simp; omega
        · show C'.tr.length ≤ _; rw [ht, List.length_append]; simp; omega
      rcases hA with ⟨hsame, hno, hfin⟩ | ⟨e, pp, ht, hk3, he, hln⟩ | ⟨e, pp, ht, hyo, h3, hsee, hfin, href⟩
      · have HSM := hide hsame
        have HFIN := hide hfin
        have HLN : Hid (C'.tr.length = nt) := by show C'.tr.length = nt; rw [hsame, HNT.out]
        have HNO : Hid (dk = true ∨ ¬ (1 ≤ x.k ∧ x.k ≤ 3)) := by
          show dk = true ∨ _
          cases hd : dk with
          | true => exact Or.inl rfl
          | false => exact Or.inr (hno (by rw [← HDK.out]; exact hd))
        clear hsame hno hfin
        go_upto_region 26 with (first | (go_at_call 9; refine (Trace_any _ p F' C' HM3.out.hd.ch (by have := HTL.out; omega)).mono ?_; rintro e4 u4 ⟨v4, rfl, ho4, hb4⟩; obtain ⟨a4, c4, hv4⟩ := trace_shape ho4; subst hv4; rw [HLN.out]; have HM4 := hide (HM3.out.below hb4); clear ho4 hb4))
        obtain ⟨y0, y1⟩ := cells2x (HM4.out.hd.blk (g := q18) (o := (.cells #[.int .i64 x.k, .int .i64 x.b, .int .i64 x.p] 45 (0, 0))) (by simp))
        clear HM3
        cases dk with
        | true =>
          clear HNO HDK
          go_wp2
          go_roundw
          case rel =>
            have HREL : ∃ (F : Nat → Prop) (C : Ch), JS w _ p gj bm [(bp, .cells #[.slice (some ⟨gd, 0, none⟩) d1 d1, .slice (some ⟨gs, 0, none⟩) d2 d2] 43 (0, 0)), (gd, .cells (zrow8 d1) 5 (0, 0)), (gs, .cells (zrow8 d2) 5 (0, 0)), (gm, .cells (bs.map Value.bool).toArray 4 (0, 0)), (b4, (.cells #[.int .i64 (B : Int), .int .i64 (P : Int), .int .i64 (S : Int)] 23 (0, 0)))] F C B P S (J.jfold P (J.start true P bs) (C.tr.map Cmd.j)) ∧ JFin C bs B P S (i + 1) := ⟨F', C', by rw [HSM.out]; exact HM4.out.less (fun z hz => List.mem_cons_of_mem _ hz), HFIN.out⟩
            first | exact ⟨i + 1, by omega, by go_num, HREL⟩ | ((repeat apply Exists.intro); exact ⟨⟨i + 1, by omega, by go_num, HREL⟩, rfl⟩)
          case measure => simp [intOf]; omega
        | false =>
          by_cases hx1 : 1 ≤ x.k
          · have hx3 : ¬ x.k ≤ 3 := by
              rcases HNO.out with h9 | h9
              · cases h9
              · exact fun h8 => h9 ⟨hx1, h8⟩
            have g1 : decide (x.k ≥ 1) = true := decide_eq_true hx1
            have g2 : decide (1 ≤ x.k) = true := decide_eq_true hx1
            have g3 : decide (x.k ≤ 3) = false := decide_eq_false hx3
            clear hx1 hx3 HNO HDK
            go_wp2
            go_roundw
            case rel =>
              have HREL : ∃ (F : Nat → Prop) (C : Ch), JS w _ p gj bm [(bp, .cells #[.slice (some ⟨gd, 0, none⟩) d1 d1, .slice (some ⟨gs, 0, none⟩) d2 d2] 43 (0, 0)), (gd, .cells (zrow8 d1) 5 (0, 0)), (gs, .cells (zrow8 d2) 5 (0, 0)), (gm, .cells (bs.map Value.bool).toArray 4 (0, 0)), (b4, (.cells #[.int .i64 (B : Int), .int .i64 (P : Int), .int .i64 (S : Int)] 23 (0, 0)))] F C B P S (J.jfold P (J.start true P bs) (C.tr.map Cmd.j)) ∧ JFin C bs B P S (i + 1) := ⟨F', C', by rw [HSM.out]; exact HM4.out.less (fun z hz => List.mem_cons_of_mem _ hz), HFIN.out⟩
              first | exact ⟨i + 1, by omega, by go_num, HREL⟩ | ((repeat apply Exists.intro); exact ⟨⟨i + 1, by omega, by go_num, HREL⟩, rfl⟩)
            case measure => simp [intOf]; omega
          · have g1 : decide (x.k ≥ 1) = false := decide_eq_false hx1
            have g2 : decide (1 ≤ x.k) = false := decide_eq_false hx1
            clear hx1 HNO HDK
            go_wp2
            go_roundw
            case rel =>
              have HREL : ∃ (F : Nat → Prop) (C : Ch), JS w _ p gj bm [(bp, .cells #[.slice (some ⟨gd, 0, none⟩) d1 d1, .slice (some ⟨gs, 0, none⟩) d2 d2] 43 (0, 0)), (gd, .cells (zrow8 d1) 5 (0, 0)), (gs, .cells (zrow8 d2) 5 (0, 0)), (gm, .cells (bs.map Value.bool).toArray 4 (0, 0)), (b4, (.cells #[.int .i64 (B : Int), .int .i64 (P : Int), .int .i64 (S : Int)] 23 (0, 0)))] F C B P S (J.jfold P (J.start true P bs) (C.tr.map Cmd.j)) ∧ JFin C bs B P S (i + 1) := ⟨F', C', by rw [HSM.out]; exact HM4.out.less (fun z hz => List.mem_cons_of_mem _ hz), HFIN.out⟩
              first | exact ⟨i + 1, by omega, by go_num, HREL⟩ | ((repeat apply Exists.intro); exact ⟨⟨i + 1, by omega, by go_num, HREL⟩, rfl⟩)
            case measure => simp [intOf]; omega
      · have HTT := hide ht
        obtain ⟨n1, hn1⟩ : ∃ m, m = nt + 1 := ⟨_, rfl⟩
        have hntl : nt ≤ 1048577 := by have h9 := HTL.out; rw [ht, List.length_append] at h9; simp at h9; have := HNT.out; omega
        have hw32 : IntKind.i64.wrap ((nt : Int) + 1) = (n1 : Int) := by simp only [IntKind.wrap_i64]; omega
        have hw64 : wrap64 ((nt : Int) + 1) = (n1 : Int) := by unfold wrap64; omega
        have hq1 : ((n1 : Int) == (nt : Int)) = false := by simp; omega
        have hq2 : (nt : Int) < (n1 : Int) := by omega
        have hq3 : ((n1 : Int) == (n1 : Int)) = true := by simp
        have HN1 := hide hn1
        have d3 : (x.k == 3) = true := by rw [hk3]; rfl
        have de0 : (e != 0) = true := by rcases he with rfl | rfl <;> rfl
        have de41 : (e != 41) = true := by rcases he with rfl | rfl <;> rfl
        clear ht hn1 hk3 he hln
        go_upto_region 26 with (first | (go_at_call 9; refine (Trace_any _ p F' C' HM3.out.hd.ch (by have := HTL.out; omega)).mono ?_; rintro e4 u4 ⟨v4, rfl, ho4, hb4⟩; rw [HTT.out] at ho4; obtain ⟨g4, c4, hv4, hc4, hg4, hgl4, k0, k1, k2, k3, _⟩ := trace_last ho4 HNT.out.symm; subst hv4; rw [← HN1.out]; have HM4 := hide (HM3.out.below hb4); clear ho4 hb4 hc4 hg4))
        clear HM3
        go_wp2
        go_ret
        exact ⟨rfl, (HM4.out.box #[.int .i64 x.k, .int .i64 x.b, .int .i64 pp, .int .i64 e] 54).hd.bel⟩
      · have HTT := hide ht
        have HFIN := hide hfin
        have HYO := hide hyo
        have HREF := hide href
        have HSEE0 := hide hsee
        have HH3 := hide h3
        obtain ⟨n1, hn1⟩ : ∃ m, m = nt + 1 := ⟨_, rfl⟩
        have hntl : nt ≤ 1048577 := by have h9 := HTL.out; rw [ht, List.length_append] at h9; simp at h9; have := HNT.out; omega
        have hw32 : IntKind.i64.wrap ((nt : Int) + 1) = (n1 : Int) := by simp only [IntKind.wrap_i64]; omega
        have hw64 : wrap64 ((nt : Int) + 1) = (n1 : Int) := by unfold wrap64; omega
        have hq1 : ((n1 : Int) == (nt : Int)) = false := by simp; omega
        have hq2 : (nt : Int) < (n1 : Int) := by omega
        have hq3 : ((n1 : Int) != (n1 : Int)) = false := by simp
        have HN1 := hide hn1
        clear ht hfin hyo href hsee h3 hn1
        go_upto_region 26 with (first | (go_at_call 9; refine (Trace_any _ p F' C' HM3.out.hd.ch (by have := HTL.out; omega)).mono ?_; rintro e4 u4 ⟨v4, rfl, ho4, hb4⟩; rw [HTT.out] at ho4; obtain ⟨g4, c4, hv4, hc4, hg4, hgl4, k0, k1, k2, k3, cs4, hcs4⟩ := trace_last ho4 HNT.out.symm; subst hv4; have HRC : Hid (∀ v : World, v.heap[g4]? = some (.cells cs4 54 (0, 0)) → J.ReadsC v (some ⟨g4, 0, none⟩) nt (C.tr.map Cmd.j)) := (fun v hv => trace_front ho4 HNT.out.symm hcs4 hv (by rw [← HTT.out]; exact HFIN.out.tok)); rw [← HN1.out] at hc4 ⊢; have HM4 := hide ((HM3.out.below hb4).hold hcs4 (fun hf => by have := HM3.out.hd.ch.fin _ hf; omega) (by have := HM3.out.hd.bel.size; omega)); clear ho4 hb4 hg4 hcs4))
        clear HM3
        go_upto_region 30 with fail
        have HM5 := hide (HM4.out.box #[.int .i64 x.k, .int .i64 x.b, .int .i64 pp, .int .i64 e] 54)
        generalize hU : u4.alloc (.cells #[.int .i64 x.k, .int .i64 x.b, .int .i64 pp, .int .i64 e] 54) = U5 at HM5 ⊢
        generalize hq22 : u4.heap.size = q22 at HM5 ⊢
        clear hU hq22 HM4 k0 k1 k2 k3 hgl4
        obtain ⟨y0, y1, y2, y3⟩ := cells4 (HM5.out.hd.blk (g := q22) (o := (.cells #[.int .i64 x.k, .int .i64 x.b, .int .i64 pp, .int .i64 e] 54 (0, 0))) (by simp))
        obtain ⟨u9, hu9⟩ : ∃ u, u = U5 := ⟨_, rfl⟩
        subst hu9
        go_cut [144] from 132 to 143 (fun s144 wx => s144 = .bool false ∧ Hid (wx = u9))
        case first =>
          by_cases hk3 : x.k = 3
          · have d3 : (x.k == 3) = true := by rw [hk3]; rfl
            rcases HH3.out hk3 with he | he
            · have de0 : (e != 0) = false := by rw [he]; rfl
              clear hk3 he
              go_wp2
              go_meet
              exact ⟨rfl, rfl⟩
            · have de0 : (e != 0) = true := by rw [he]; rfl
              have de41 : (e != 41) = false := by rw [he]; rfl
              clear hk3 he
              go_wp2
              go_meet
              exact ⟨rfl, rfl⟩
          · have d3 : (x.k == 3) = false := by simp [hk3]
            clear hk3
            go_wp2
            go_meet
            exact ⟨rfl, rfl⟩
        case rest =>
        obtain ⟨rfl, hwc⟩ := hcut
        have hwc' := hwc.out
        subst hwc'
        clear hwc y0 y1 y2 y3 HH3
        go_upto_region 32 with fail
        go_cut [187] from 150 to 186 (fun s187 wx => s187 = .bool false ∧ Hid (JS w wx p gj bm ((q22, .cells #[.int .i64 x.k, .int .i64 x.b, .int .i64 pp, .int .i64 e] 54 (0, 0)) :: (g4, .cells cs4 54 (0, 0)) :: (q18, .cells #[.int .i64 x.k, .int .i64 x.b, .int .i64 x.p] 45 (0, 0)) :: [(bp, .cells #[.slice (some ⟨gd, 0, none⟩) d1 d1, .slice (some ⟨gs, 0, none⟩) d2 d2] 43 (0, 0)), (gd, .cells (zrow8 d1) 5 (0, 0)), (gs, .cells (zrow8 d2) 5 (0, 0)), (gm, .cells (bs.map Value.bool).toArray 4 (0, 0)), (b4, (.cells #[.int .i64 (B : Int), .int .i64 (P : Int), .int .i64 (S : Int)] 23 (0, 0)))]) F' C' B P S ((J.see P (J.jfold P (J.start true P bs) (C.tr.map Cmd.j)) ⟨x.k, x.b, pp, e⟩).getD (J.jfold P (J.start true P bs) (C.tr.map Cmd.j)))))
        case first =>
          by_cases hea : e = 0
          · have HSEE : Hid ((J.see P (J.jfold P (J.start true P bs) (C.tr.map Cmd.j)) ⟨x.k, x.b, pp, e⟩).isSome = true) := by rw [HSEE0.out]; rw [hea]; rfl
            have q0 : (e == 0) = true := by rw [hea]; rfl
            clear hea
            refine wp_region_held_drew (S := (fun u => u.cell? ⟨q22, 0, none⟩ = some (.int .i64 x.k) ∧ u.cell? ⟨q22, 1, none⟩ = some (.int .i64 x.b) ∧ u.cell? ⟨q22, 2, none⟩ = some (.int .i64 pp) ∧ u.cell? ⟨q22, 3, none⟩ = some (.int .i64 e) ∧ u.cell? ⟨q18, 0, none⟩ = some (.int .i64 x.k) ∧ u.cell? ⟨q18, 1, none⟩ = some (.int .i64 x.b))) (by kernel_rfl) (s32_of (HM5.out.below (drew_below _))) (fun hHeld => ?_)
            refine wpAnyH_take (i := 0) (oi := { dst := some 150, op := Op.move (Operand.tmp 21), type := 46, pos := "law.go:253", after := #[], guard := none }) (v := ?v0a) rfl (by kernel_rfl) (by kernel_rfl) (by kernel_rfl) (fun _ _ _ h => h) (Or.inl ⟨by rfl, ?y0a⟩) (by assumption) ?r0a
            case y0a => (intro x hx; (try dsimp only at hx); go_simp; try with_reducible rfl)
            try simp only [Act.put, List.setIfInBounds_toArray, List.set_cons_zero, List.set_cons_succ]
            refine wpAnyH_take (i := 1) (oi := { dst := some 151, op := Op.call { callee := Callee.builtin Builtin.len, args := #[Operand.tmp 150], argTypes := #[46] }, type := 3, pos := "law.go:253", after := #[{ on := 0, ground := Ground.data }], guard := none }) (v := ?v1a) rfl (by kernel_rfl) (by kernel_rfl) (by kernel_rfl) (fun _ _ _ h => h) (Or.inl ⟨by rfl, ?y1a⟩) (by assumption) ?r1a
            case y1a => (intro x hx; (try dsimp only at hx); go_simp; try with_reducible rfl)
            try simp only [Act.put, List.setIfInBounds_toArray, List.set_cons_zero, List.set_cons_succ]
            refine wpAnyH_take (i := 2) (oi := { dst := some 152, op := Op.move (Operand.tmp 19), type := 3, pos := "law.go:253", after := #[], guard := none }) (v := ?v2a) rfl (by kernel_rfl) (by kernel_rfl) (by kernel_rfl) (fun _ _ _ h => h) (Or.inl ⟨by rfl, ?y2a⟩) (by assumption) ?r2a
            case y2a => (intro x hx; (try dsimp only at hx); go_simp; try with_reducible rfl)
            try simp only [Act.put, List.setIfInBounds_toArray, List.set_cons_zero, List.set_cons_succ]
            refine wpAnyH_take (i := 3) (oi := { dst := some 153, op := Op.binOp BinOp.add 3 (Operand.tmp 152) (Operand.const (Value.int IntKind.i64 1)) 3, type := 3, pos := "law.go:253", after := #[{ on := 2, ground := Ground.data }], guard := none }) (v := ?v3a) rfl (by kernel_rfl) (by kernel_rfl) (by kernel_rfl) (fun _ _ _ h => h) (Or.inl ⟨by rfl, ?y3a⟩) (by assumption) ?r3a
            case y3a => (intro x hx; (try dsimp only at hx); go_simp; try with_reducible rfl)
            try simp only [Act.put, List.setIfInBounds_toArray, List.set_cons_zero, List.set_cons_succ]
            refine wpAnyH_take (i := 4) (oi := { dst := some 154, op := Op.binOp BinOp.neq 3 (Operand.tmp 151) (Operand.tmp 153) 3, type := 4, pos := "law.go:253", after := #[{ on := 1, ground := Ground.data }, { on := 3, ground := Ground.data }], guard := none }) (v := ?v4a) rfl (by kernel_rfl) (by kernel_rfl) (by kernel_rfl) (fun _ _ _ h => h) (Or.inl ⟨by rfl, ?y4a⟩) (by assumption) ?r4a
            case y4a => (intro x hx; (try dsimp only at hx); go_simp; try with_reducible rfl)
            try simp only [Act.put, List.setIfInBounds_toArray, List.set_cons_zero, List.set_cons_succ]
            refine wpAnyH_take (i := 5) (oi := { dst := some 155, op := Op.move (Operand.tmp 154), type := 4, pos := "law.go:253", after := #[{ on := 4, ground := Ground.data }], guard := none }) (v := ?v5a) rfl (by kernel_rfl) (by kernel_rfl) (by kernel_rfl) (fun _ _ _ h => h) (Or.inl ⟨by rfl, ?y5a⟩) (by assumption) ?r5a
            case y5a => (intro x hx; (try dsimp only at hx); go_simp; try with_reducible rfl)
            try simp only [Act.put, List.setIfInBounds_toArray, List.set_cons_zero, List.set_cons_succ]
            refine wpAnyH_take (i := 6) (oi := { dst := some 156, op := Op.fieldAddr 54 (Operand.tmp 22) 0, type := 0, pos := "law.go:253", after := #[{ on := 5, ground := Ground.guard }], guard := some (5, false) }) (v := ?v6a) rfl (by kernel_rfl) (by kernel_rfl) (by kernel_rfl) (fun _ _ _ h => h) (Or.inl ⟨by rfl, ?y6a⟩) (by assumption) ?r6a
            case y6a => (intro x hx; (try dsimp only at hx); go_simp; try with_reducible rfl)
            try simp only [Act.put, List.setIfInBounds_toArray, List.set_cons_zero, List.set_cons_succ]
            refine wpAnyH_take (i := 7) (oi := { dst := some 157, op := Op.load 3 (Operand.tmp 156), type := 3, pos := "law.go:253", after := #[{ on := 6, ground := Ground.data }, { on := 5, ground := Ground.guard }], guard := some (5, false) }) (v := ?v7a) rfl (by kernel_rfl) (by kernel_rfl) (by kernel_rfl) (fun _ _ _ h => h) (Or.inl ⟨by rfl, ?y7a⟩) (by assumption) ?r7a
            case y7a => (intro x hx; (try dsimp only at hx); go_simp; try with_reducible rfl)
            try simp only [Act.put, List.setIfInBounds_toArray, List.set_cons_zero, List.set_cons_succ]
            refine wpAnyH_take (i := 8) (oi := { dst := some 158, op := Op.fieldAddr 45 (Operand.tmp 18) 0, type := 0, pos := "law.go:253", after := #[{ on := 5, ground := Ground.guard }], guard := some (5, false) }) (v := ?v8a) rfl (by kernel_rfl) (by kernel_rfl) (by kernel_rfl) (fun _ _ _ h => h) (Or.inl ⟨by rfl, ?y8a⟩) (by assumption) ?r8a
            case y8a => (intro x hx; (try dsimp only at hx); go_simp; try with_reducible rfl)
            try simp only [Act.put, List.setIfInBounds_toArray, List.set_cons_zero, List.set_cons_succ]
            refine wpAnyH_take (i := 9) (oi := { dst := some 159, op := Op.load 3 (Operand.tmp 158), type := 3, pos := "law.go:253", after := #[{ on := 8, ground := Ground.data }, { on := 5, ground := Ground.guard }], guard := some (5, false) }) (v := ?v9a) rfl (by kernel_rfl) (by kernel_rfl) (by kernel_rfl) (fun _ _ _ h => h) (Or.inl ⟨by rfl, ?y9a⟩) (by assumption) ?r9a
            case y9a => (intro x hx; (try dsimp only at hx); go_simp; try with_reducible rfl)
            try simp only [Act.put, List.setIfInBounds_toArray, List.set_cons_zero, List.set_cons_succ]
            refine wpAnyH_take (i := 10) (oi := { dst := some 160, op := Op.binOp BinOp.neq 3 (Operand.tmp 157) (Operand.tmp 159) 3, type := 4, pos := "law.go:253", after := #[{ on := 7, ground := Ground.data }, { on := 9, ground := Ground.data }, { on := 5, ground := Ground.guard }], guard := some (5, false) }) (v := ?v10a) rfl (by kernel_rfl) (by kernel_rfl) (by kernel_rfl) (fun _ _ _ h => h) (Or.inl ⟨by rfl, ?y10a⟩) (by assumption) ?r10a
            case y10a => (intro x hx; (try dsimp only at hx); go_simp; try with_reducible rfl)
            try simp only [Act.put, List.setIfInBounds_toArray, List.set_cons_zero, List.set_cons_succ]
            refine wpAnyH_take (i := 11) (oi := { dst := some 161, op := Op.pick (Operand.tmp 155) (Operand.const (Value.bool true)) (Operand.tmp 160), type := 4, pos := "law.go:253", after := #[{ on := 5, ground := Ground.data }, { on := 10, ground := Ground.data }], guard := none }) (v := ?v11a) rfl (by kernel_rfl) (by kernel_rfl) (by kernel_rfl) (fun _ _ _ h => h) (Or.inl ⟨by rfl, ?y11a⟩) (by assumption) ?r11a
            case y11a => (intro x hx; (try dsimp only at hx); go_simp; try with_reducible rfl)
            try simp only [Act.put, List.setIfInBounds_toArray, List.set_cons_zero, List.set_cons_succ]
            refine wpAnyH_take (i := 12) (oi := { dst := some 162, op := Op.move (Operand.tmp 161), type := 4, pos := "law.go:253", after := #[{ on := 11, ground := Ground.data }, { on := 5, ground := Ground.chain }], guard := none }) (v := ?v12a) rfl (by kernel_rfl) (by kernel_rfl) (by kernel_rfl) (fun _ _ _ h => h) (Or.inl ⟨by rfl, ?y12a⟩) (by assumption) ?r12a
            case y12a => (intro x hx; (try dsimp only at hx); go_simp; try with_reducible rfl)
            try simp only [Act.put, List.setIfInBounds_toArray, List.set_cons_zero, List.set_cons_succ]
            refine wpAnyH_take (i := 13) (oi := { dst := some 163, op := Op.fieldAddr 54 (Operand.tmp 22) 1, type := 0, pos := "law.go:253", after := #[{ on := 12, ground := Ground.guard }], guard := some (12, false) }) (v := ?v13a) rfl (by kernel_rfl) (by kernel_rfl) (by kernel_rfl) (fun _ _ _ h => h) (Or.inl ⟨by rfl, ?y13a⟩) (by assumption) ?r13a
            case y13a => (intro x hx; (try dsimp only at hx); go_simp; try with_reducible rfl)
            try simp only [Act.put, List.setIfInBounds_toArray, List.set_cons_zero, List.set_cons_succ]
            refine wpAnyH_take (i := 14) (oi := { dst := some 164, op := Op.load 3 (Operand.tmp 163), type := 3, pos := "law.go:253", after := #[{ on := 13, ground := Ground.data }, { on := 12, ground := Ground.guard }], guard := some (12, false) }) (v := ?v14a) rfl (by kernel_rfl) (by kernel_rfl) (by kernel_rfl) (fun _ _ _ h => h) (Or.inl ⟨by rfl, ?y14a⟩) (by assumption) ?r14a
            case y14a => (intro x hx; (try dsimp only at hx); go_simp; try with_reducible rfl)
            try simp only [Act.put, List.setIfInBounds_toArray, List.set_cons_zero, List.set_cons_succ]
            refine wpAnyH_take (i := 15) (oi := { dst := some 165, op := Op.fieldAddr 45 (Operand.tmp 18) 1, type := 0, pos := "law.go:253", after := #[{ on := 12, ground := Ground.guard }], guard := some (12, false) }) (v := ?v15a) rfl (by kernel_rfl) (by kernel_rfl) (by kernel_rfl) (fun _ _ _ h => h) (Or.inl ⟨by rfl, ?y15a⟩) (by assumption) ?r15a
            case y15a => (intro x hx; (try dsimp only at hx); go_simp; try with_reducible rfl)
            try simp only [Act.put, List.setIfInBounds_toArray, List.set_cons_zero, List.set_cons_succ]
            refine wpAnyH_take (i := 16) (oi := { dst := some 166, op := Op.load 3 (Operand.tmp 165), type := 3, pos := "law.go:253", after := #[{ on := 15, ground := Ground.data }, { on := 12, ground := Ground.guard }], guard := some (12, false) }) (v := ?v16a) rfl (by kernel_rfl) (by kernel_rfl) (by kernel_rfl) (fun _ _ _ h => h) (Or.inl ⟨by rfl, ?y16a⟩) (by assumption) ?r16a
            case y16a => (intro x hx; (try dsimp only at hx); go_simp; try with_reducible rfl)
            try simp only [Act.put, List.setIfInBounds_toArray, List.set_cons_zero, List.set_cons_succ]
            refine wpAnyH_take (i := 17) (oi := { dst := some 167, op := Op.binOp BinOp.neq 3 (Operand.tmp 164) (Operand.tmp 166) 3, type := 4, pos := "law.go:253", after := #[{ on := 14, ground := Ground.data }, { on := 16, ground := Ground.data }, { on := 12, ground := Ground.guard }], guard := some (12, false) }) (v := ?v17a) rfl (by kernel_rfl) (by kernel_rfl) (by kernel_rfl) (fun _ _ _ h => h) (Or.inl ⟨by rfl, ?y17a⟩) (by assumption) ?r17a
            case y17a => (intro x hx; (try dsimp only at hx); go_simp; try with_reducible rfl)
            try simp only [Act.put, List.setIfInBounds_toArray, List.set_cons_zero, List.set_cons_succ]
            refine wpAnyH_take (i := 18) (oi := { dst := some 168, op := Op.pick (Operand.tmp 162) (Operand.const (Value.bool true)) (Operand.tmp 167), type := 4, pos := "law.go:253", after := #[{ on := 12, ground := Ground.data }, { on := 17, ground := Ground.data }], guard := none }) (v := ?v18a) rfl (by kernel_rfl) (by kernel_rfl) (by kernel_rfl) (fun _ _ _ h => h) (Or.inl ⟨by rfl, ?y18a⟩) (by assumption) ?r18a
            case y18a => (intro x hx; (try dsimp only at hx); go_simp; try with_reducible rfl)
            try simp only [Act.put, List.setIfInBounds_toArray, List.set_cons_zero, List.set_cons_succ]
            refine wpAnyH_take (i := 19) (oi := { dst := some 169, op := Op.move (Operand.tmp 168), type := 4, pos := "law.go:253", after := #[{ on := 18, ground := Ground.data }, { on := 12, ground := Ground.chain }], guard := none }) (v := ?v19a) rfl (by kernel_rfl) (by kernel_rfl) (by kernel_rfl) (fun _ _ _ h => h) (Or.inl ⟨by rfl, ?y19a⟩) (by assumption) ?r19a
            case y19a => (intro x hx; (try dsimp only at hx); go_simp; try with_reducible rfl)
            try simp only [Act.put, List.setIfInBounds_toArray, List.set_cons_zero, List.set_cons_succ]
            refine wpAnyH_take (i := 20) (oi := { dst := some 170, op := Op.move (Operand.tmp 12), type := 37, pos := "law.go:253", after := #[{ on := 19, ground := Ground.guard }], guard := some (19, false) }) (v := ?v20a) rfl (by kernel_rfl) (by kernel_rfl) (by kernel_rfl) (fun _ _ _ h => h) (Or.inl ⟨by rfl, ?y20a⟩) (by assumption) ?r20a
            case y20a => (intro x hx; (try dsimp only at hx); go_simp; try with_reducible rfl)
            try simp only [Act.put, List.setIfInBounds_toArray, List.set_cons_zero, List.set_cons_succ]
            refine wpAnyH_take (i := 21) (oi := { dst := some 171, op := Op.load 54 (Operand.tmp 22), type := 54, pos := "law.go:253", after := #[{ on := 19, ground := Ground.guard }], guard := some (19, false) }) (v := ?v21a) rfl (by kernel_rfl) (by kernel_rfl) (by kernel_rfl) (fun _ _ _ h => h) (Or.inl ⟨by rfl, ?y21a⟩) (by assumption) ?r21a
            case y21a => (intro x hx; (try dsimp only at hx); go_simp; try with_reducible rfl)
            try simp only [Act.put, List.setIfInBounds_toArray, List.set_cons_zero, List.set_cons_succ]
            refine wpAnyH_take (i := 23) (oi := { dst := some 173, op := Op.fieldAddr 54 (Operand.tmp 22) 3, type := 0, pos := "law.go:253", after := #[{ on := 19, ground := Ground.guard }], guard := some (19, false) }) (v := ?v23a) rfl (by kernel_rfl) (by kernel_rfl) (by kernel_rfl) (fun _ _ _ h => h) (Or.inl ⟨by rfl, ?y23a⟩) (by assumption) ?r23a
            case y23a => (intro x hx; (try dsimp only at hx); go_simp; try with_reducible rfl)
            try simp only [Act.put, List.setIfInBounds_toArray, List.set_cons_zero, List.set_cons_succ]
            refine wpAnyH_take (i := 24) (oi := { dst := some 174, op := Op.load 28 (Operand.tmp 173), type := 28, pos := "law.go:253", after := #[{ on := 23, ground := Ground.data }, { on := 19, ground := Ground.guard }], guard := some (19, false) }) (v := ?v24a) rfl (by kernel_rfl) (by kernel_rfl) (by kernel_rfl) (fun _ _ _ h => h) (Or.inl ⟨by rfl, ?y24a⟩) (by assumption) ?r24a
            case y24a => (intro x hx; (try dsimp only at hx); go_simp; try with_reducible rfl)
            try simp only [Act.put, List.setIfInBounds_toArray, List.set_cons_zero, List.set_cons_succ]
            refine wpAnyH_take (i := 25) (oi := { dst := some 175, op := Op.binOp BinOp.eql 3 (Operand.tmp 174) (Operand.const (Value.int IntKind.i64 0)) 3, type := 4, pos := "law.go:253", after := #[{ on := 24, ground := Ground.data }, { on := 19, ground := Ground.guard }], guard := some (19, false) }) (v := ?v25a) rfl (by kernel_rfl) (by kernel_rfl) (by kernel_rfl) (fun _ _ _ h => h) (Or.inl ⟨by rfl, ?y25a⟩) (by assumption) ?r25a
            case y25a => (intro x hx; (try dsimp only at hx); go_simp; try with_reducible rfl)
            try simp only [Act.put, List.setIfInBounds_toArray, List.set_cons_zero, List.set_cons_succ]
            refine wpAnyH_ready (rs := [22]) (by kernel_rfl) (by simp) ?_
            refine AllReadyH.cons (o := { dst := some 172, op := Op.call { callee := Callee.value (Operand.func 15), args := #[Operand.tmp 170, Operand.tmp 171], argTypes := #[37, 54] }, type := 4, pos := "law.go:253", after := #[{ on := 20, ground := Ground.data }, { on := 21, ground := Ground.data }, { on := 19, ground := Ground.chain }, { on := 19, ground := Ground.guard }], guard := some (19, false) }) rfl (fun K hK => ?_) AllReadyH.nil
            go_simp
            go_at_call 15
            refine (J.see_x gj bm B P S _ x.k x.b pp e _ (HM5.out.below (drew_below _)).j HYO.out (by have := HGEO.out; omega) (by rw [J.jfold_len]; unfold J.start; rw [List.length_map, HBL.out]; have := HGEO.out; omega)).mono ?_
            rintro e7 u7 ⟨rfl, hj7, hg7⟩
            rw [HSEE.out]
            have HM7 := hide ((HM5.out.below (drew_below _)).see hj7 hg7)
            have hSnew : (fun u => u.cell? ⟨q22, 0, none⟩ = some (.int .i64 x.k) ∧ u.cell? ⟨q22, 1, none⟩ = some (.int .i64 x.b) ∧ u.cell? ⟨q22, 2, none⟩ = some (.int .i64 pp) ∧ u.cell? ⟨q22, 3, none⟩ = some (.int .i64 e) ∧ u.cell? ⟨q18, 0, none⟩ = some (.int .i64 x.k) ∧ u.cell? ⟨q18, 1, none⟩ = some (.int .i64 x.b)) u7 := s32_of HM7.out
            clear hj7 hg7
            go_wp2_with fail
            refine hK.out _ _ hSnew (fun hHeld22 => ?_)
            clear hK K hSnew
            clear hHeld
            have hHeld := hHeld22
            clear hHeld22
            try simp only [Act.put, List.setIfInBounds_toArray, List.set_cons_zero, List.set_cons_succ]
            refine wpAnyH_take (i := 26) (oi := { dst := some 176, op := Op.move (Operand.tmp 175), type := 4, pos := "law.go:253", after := #[{ on := 25, ground := Ground.data }, { on := 22, ground := Ground.chain }, { on := 19, ground := Ground.guard }], guard := some (19, false) }) (v := ?v26a) rfl (by kernel_rfl) (by kernel_rfl) (by kernel_rfl) (fun _ _ _ h => h) (Or.inl ⟨by rfl, ?y26a⟩) (by assumption) ?r26a
            case y26a => (intro x hx; (try dsimp only at hx); go_simp; try with_reducible rfl)
            try simp only [Act.put, List.setIfInBounds_toArray, List.set_cons_zero, List.set_cons_succ]
            refine wpAnyH_take (i := 27) (oi := { dst := some 177, op := Op.fieldAddr 54 (Operand.tmp 22) 3, type := 0, pos := "law.go:253", after := #[{ on := 26, ground := Ground.guard }], guard := some (26, false) }) (v := undef) rfl (by kernel_rfl) (by kernel_rfl) (by kernel_rfl) (fun _ _ _ h => h) (Or.inr ⟨by rfl, rfl⟩) (by assumption) ?_
            try simp only [Act.put, List.setIfInBounds_toArray, List.set_cons_zero, List.set_cons_succ]
            refine wpAnyH_take (i := 28) (oi := { dst := some 178, op := Op.load 28 (Operand.tmp 177), type := 28, pos := "law.go:253", after := #[{ on := 27, ground := Ground.data }, { on := 26, ground := Ground.guard }], guard := some (26, false) }) (v := undef) rfl (by kernel_rfl) (by kernel_rfl) (by kernel_rfl) (fun _ _ _ h => h) (Or.inr ⟨by rfl, rfl⟩) (by assumption) ?_
            try simp only [Act.put, List.setIfInBounds_toArray, List.set_cons_zero, List.set_cons_succ]
            refine wpAnyH_take (i := 29) (oi := { dst := some 179, op := Op.binOp BinOp.eql 3 (Operand.tmp 178) (Operand.const (Value.int IntKind.i64 44)) 3, type := 4, pos := "law.go:253", after := #[{ on := 28, ground := Ground.data }, { on := 26, ground := Ground.guard }], guard := some (26, false) }) (v := undef) rfl (by kernel_rfl) (by kernel_rfl) (by kernel_rfl) (fun _ _ _ h => h) (Or.inr ⟨by rfl, rfl⟩) (by assumption) ?_
            try simp only [Act.put, List.setIfInBounds_toArray, List.set_cons_zero, List.set_cons_succ]
            refine wpAnyH_take (i := 30) (oi := { dst := some 180, op := Op.pick (Operand.tmp 176) (Operand.const (Value.bool true)) (Operand.tmp 179), type := 4, pos := "law.go:253", after := #[{ on := 26, ground := Ground.data }, { on := 29, ground := Ground.data }, { on := 19, ground := Ground.guard }], guard := some (19, false) }) (v := ?v30a) rfl (by kernel_rfl) (by kernel_rfl) (by kernel_rfl) (fun _ _ _ h => h) (Or.inl ⟨by rfl, ?y30a⟩) (by assumption) ?r30a
            case y30a => (intro x hx; (try dsimp only at hx); go_simp; try with_reducible rfl)
            try simp only [Act.put, List.setIfInBounds_toArray, List.set_cons_zero, List.set_cons_succ]
            refine wpAnyH_take (i := 31) (oi := { dst := some 181, op := Op.move (Operand.tmp 180), type := 4, pos := "law.go:253", after := #[{ on := 30, ground := Ground.data }, { on := 26, ground := Ground.chain }, { on := 19, ground := Ground.guard }], guard := some (19, false) }) (v := ?v31a) rfl (by kernel_rfl) (by kernel_rfl) (by kernel_rfl) (fun _ _ _ h => h) (Or.inl ⟨by rfl, ?y31a⟩) (by assumption) ?r31a
            case y31a => (intro x hx; (try dsimp only at hx); go_simp; try with_reducible rfl)
            try simp only [Act.put, List.setIfInBounds_toArray, List.set_cons_zero, List.set_cons_succ]
            refine wpAnyH_take (i := 32) (oi := { dst := some 182, op := Op.fieldAddr 54 (Operand.tmp 22) 3, type := 0, pos := "law.go:253", after := #[{ on := 31, ground := Ground.guard }], guard := some (31, false) }) (v := undef) rfl (by kernel_rfl) (by kernel_rfl) (by kernel_rfl) (fun _ _ _ h => h) (Or.inr ⟨by rfl, rfl⟩) (by assumption) ?_
            try simp only [Act.put, List.setIfInBounds_toArray, List.set_cons_zero, List.set_cons_succ]
            refine wpAnyH_take (i := 33) (oi := { dst := some 183, op := Op.load 28 (Operand.tmp 182), type := 28, pos := "law.go:253", after := #[{ on := 32, ground := Ground.data }, { on := 31, ground := Ground.guard }], guard := some (31, false) }) (v := undef) rfl (by kernel_rfl) (by kernel_rfl) (by kernel_rfl) (fun _ _ _ h => h) (Or.inr ⟨by rfl, rfl⟩) (by assumption) ?_
            try simp only [Act.put, List.setIfInBounds_toArray, List.set_cons_zero, List.set_cons_succ]
            refine wpAnyH_take (i := 34) (oi := { dst := some 184, op := Op.binOp BinOp.eql 3 (Operand.tmp 183) (Operand.const (Value.int IntKind.i64 45)) 3, type := 4, pos := "law.go:253", after := #[{ on := 33, ground := Ground.data }, { on := 31, ground := Ground.guard }], guard := some (31, false) }) (v := undef) rfl (by kernel_rfl) (by kernel_rfl) (by kernel_rfl) (fun _ _ _ h => h) (Or.inr ⟨by rfl, rfl⟩) (by assumption) ?_
            try simp only [Act.put, List.setIfInBounds_toArray, List.set_cons_zero, List.set_cons_succ]
            refine wpAnyH_take (i := 35) (oi := { dst := some 185, op := Op.pick (Operand.tmp 181) (Operand.const (Value.bool true)) (Operand.tmp 184), type := 4, pos := "law.go:253", after := #[{ on := 31, ground := Ground.data }, { on := 34, ground := Ground.data }, { on := 19, ground := Ground.guard }], guard := some (19, false) }) (v := ?v35a) rfl (by kernel_rfl) (by kernel_rfl) (by kernel_rfl) (fun _ _ _ h => h) (Or.inl ⟨by rfl, ?y35a⟩) (by assumption) ?r35a
            case y35a => (intro x hx; (try dsimp only at hx); go_simp; try with_reducible rfl)
            try simp only [Act.put, List.setIfInBounds_toArray, List.set_cons_zero, List.set_cons_succ]
            refine wpAnyH_take (i := 36) (oi := { dst := some 186, op := Op.binOp BinOp.neq 4 (Operand.tmp 172) (Operand.tmp 185) 4, type := 4, pos := "law.go:253", after := #[{ on := 22, ground := Ground.data }, { on := 35, ground := Ground.data }, { on := 19, ground := Ground.guard }], guard := some (19, false) }) (v := ?v36a) rfl (by kernel_rfl) (by kernel_rfl) (by kernel_rfl) (fun _ _ _ h => h) (Or.inl ⟨by rfl, ?y36a⟩) (by assumption) ?r36a
            case y36a => (intro x hx; (try dsimp only at hx); go_simp; try with_reducible rfl)
            try simp only [Act.put, List.setIfInBounds_toArray, List.set_cons_zero, List.set_cons_succ]
            refine wpAnyH_take (i := 37) (oi := { dst := some 187, op := Op.pick (Operand.tmp 169) (Operand.const (Value.bool true)) (Operand.tmp 186), type := 4, pos := "law.go:253", after := #[{ on := 19, ground := Ground.data }, { on := 36, ground := Ground.data }], guard := none }) (v := ?v37a) rfl (by kernel_rfl) (by kernel_rfl) (by kernel_rfl) (fun _ _ _ h => h) (Or.inl ⟨by rfl, ?y37a⟩) (by assumption) ?r37a
            case y37a => (intro x hx; (try dsimp only at hx); go_simp; try with_reducible rfl)
            try simp only [Act.put, List.setIfInBounds_toArray, List.set_cons_zero, List.set_cons_succ]
            refine wpAnyH_done (by kernel_rfl) ?_ _
            go_wp2
            go_meet
            exact ⟨rfl, HM7.out⟩
          have q0 : (e == 0) = false := by simp [hea]
          by_cases heb : e = 44
          · have HSEE : Hid ((J.see P (J.jfold P (J.start true P bs) (C.tr.map Cmd.j)) ⟨x.k, x.b, pp, e⟩).isSome = true) := by rw [HSEE0.out]; rw [heb]; rfl
            have q44 : (e == 44) = true := by rw [heb]; rfl
            clear hea
            clear heb
            refine wp_region_held_drew (S := (fun u => u.cell? ⟨q22, 0, none⟩ = some (.int .i64 x.k) ∧ u.cell? ⟨q22, 1, none⟩ = some (.int .i64 x.b) ∧ u.cell? ⟨q22, 2, none⟩ = some (.int .i64 pp) ∧ u.cell? ⟨q22, 3, none⟩ = some (.int .i64 e) ∧ u.cell? ⟨q18, 0, none⟩ = some (.int .i64 x.k) ∧ u.cell? ⟨q18, 1, none⟩ = some (.int .i64 x.b))) (by kernel_rfl) (s32_of (HM5.out.below (drew_below _))) (fun hHeld => ?_)
            refine wpAnyH_take (i := 0) (oi := { dst := some 150, op := Op.move (Operand.tmp 21), type := 46, pos := "law.go:253", after := #[], guard := none }) (v := ?v0b) rfl (by kernel_rfl) (by kernel_rfl) (by kernel_rfl) (fun _ _ _ h => h) (Or.inl ⟨by rfl, ?y0b⟩) (by assumption) ?r0b
            case y0b => (intro x hx; (try dsimp only at hx); go_simp; try with_reducible rfl)
            try simp only [Act.put, List.setIfInBounds_toArray, List.set_cons_zero, List.set_cons_succ]
            refine wpAnyH_take (i := 1) (oi := { dst := some 151, op := Op.call { callee := Callee.builtin Builtin.len, args := #[Operand.tmp 150], argTypes := #[46] }, type := 3, pos := "law.go:253", after := #[{ on := 0, ground := Ground.data }], guard := none }) (v := ?v1b) rfl (by kernel_rfl) (by kernel_rfl) (by kernel_rfl) (fun _ _ _ h => h) (Or.inl ⟨by rfl, ?y1b⟩) (by assumption) ?r1b
            case y1b => (intro x hx; (try dsimp only at hx); go_simp; try with_reducible rfl)
            try simp only [Act.put, List.setIfInBounds_toArray, List.set_cons_zero, List.set_cons_succ]
            refine wpAnyH_take (i := 2) (oi := { dst := some 152, op := Op.move (Operand.tmp 19), type := 3, pos := "law.go:253", after := #[], guard := none }) (v := ?v2b) rfl (by kernel_rfl) (by kernel_rfl) (by kernel_rfl) (fun _ _ _ h => h) (Or.inl ⟨by rfl, ?y2b⟩) (by assumption) ?r2b
            case y2b => (intro x hx; (try dsimp only at hx); go_simp; try with_reducible rfl)
            try simp only [Act.put, List.setIfInBounds_toArray, List.set_cons_zero, List.set_cons_succ]
            refine wpAnyH_take (i := 3) (oi := { dst := some 153, op := Op.binOp BinOp.add 3 (Operand.tmp 152) (Operand.const (Value.int IntKind.i64 1)) 3, type := 3, pos := "law.go:253", after := #[{ on := 2, ground := Ground.data }], guard := none }) (v := ?v3b) rfl (by kernel_rfl) (by kernel_rfl) (by kernel_rfl) (fun _ _ _ h => h) (Or.inl ⟨by rfl, ?y3b⟩) (by assumption) ?r3b
            case y3b => (intro x hx; (try dsimp only at hx); go_simp; try with_reducible rfl)
            try simp only [Act.put, List.setIfInBounds_toArray, List.set_cons_zero, List.set_cons_succ]
            refine wpAnyH_take (i := 4) (oi := { dst := some 154, op := Op.binOp BinOp.neq 3 (Operand.tmp 151) (Operand.tmp 153) 3, type := 4, pos := "law.go:253", after := #[{ on := 1, ground := Ground.data }, { on := 3, ground := Ground.data }], guard := none }) (v := ?v4b) rfl (by kernel_rfl) (by kernel_rfl) (by kernel_rfl) (fun _ _ _ h => h) (Or.inl ⟨by rfl, ?y4b⟩) (by assumption) ?r4b
            case y4b => (intro x hx; (try dsimp only at hx); go_simp; try with_reducible rfl)
            try simp only [Act.put, List.setIfInBounds_toArray, List.set_cons_zero, List.set_cons_succ]
            refine wpAnyH_take (i := 5) (oi := { dst := some 155, op := Op.move (Operand.tmp 154), type := 4, pos := "law.go:253", after := #[{ on := 4, ground := Ground.data }], guard := none }) (v := ?v5b) rfl (by kernel_rfl) (by kernel_rfl) (by kernel_rfl) (fun _ _ _ h => h) (Or.inl ⟨by rfl, ?y5b⟩) (by assumption) ?r5b
            case y5b => (intro x hx; (try dsimp only at hx); go_simp; try with_reducible rfl)
            try simp only [Act.put, List.setIfInBounds_toArray, List.set_cons_zero, List.set_cons_succ]
            refine wpAnyH_take (i := 6) (oi := { dst := some 156, op := Op.fieldAddr 54 (Operand.tmp 22) 0, type := 0, pos := "law.go:253", after := #[{ on := 5, ground := Ground.guard }], guard := some (5, false) }) (v := ?v6b) rfl (by kernel_rfl) (by kernel_rfl) (by kernel_rfl) (fun _ _ _ h => h) (Or.inl ⟨by rfl, ?y6b⟩) (by assumption) ?r6b
            case y6b => (intro x hx; (try dsimp only at hx); go_simp; try with_reducible rfl)
            try simp only [Act.put, List.setIfInBounds_toArray, List.set_cons_zero, List.set_cons_succ]
            refine wpAnyH_take (i := 7) (oi := { dst := some 157, op := Op.load 3 (Operand.tmp 156), type := 3, pos := "law.go:253", after := #[{ on := 6, ground := Ground.data }, { on := 5, ground := Ground.guard }], guard := some (5, false) }) (v := ?v7b) rfl (by kernel_rfl) (by kernel_rfl) (by kernel_rfl) (fun _ _ _ h => h) (Or.inl ⟨by rfl, ?y7b⟩) (by assumption) ?r7b
            case y7b => (intro x hx; (try dsimp only at hx); go_simp; try with_reducible rfl)
            try simp only [Act.put, List.setIfInBounds_toArray, List.set_cons_zero, List.set_cons_succ]
            refine wpAnyH_take (i := 8) (oi := { dst := some 158, op := Op.fieldAddr 45 (Operand.tmp 18) 0, type := 0, pos := "law.go:253", after := #[{ on := 5, ground := Ground.guard }], guard := some (5, false) }) (v := ?v8b) rfl (by kernel_rfl) (by kernel_rfl) (by kernel_rfl) (fun _ _ _ h => h) (Or.inl ⟨by rfl, ?y8b⟩) (by assumption) ?r8b
            case y8b => (intro x hx; (try dsimp only at hx); go_simp; try with_reducible rfl)
            try simp only [Act.put, List.setIfInBounds_toArray, List.set_cons_zero, List.set_cons_succ]
            refine wpAnyH_take (i := 9) (oi := { dst := some 159, op := Op.load 3 (Operand.tmp 158), type := 3, pos := "law.go:253", after := #[{ on := 8, ground := Ground.data }, { on := 5, ground := Ground.guard }], guard := some (5, false) }) (v := ?v9b) rfl (by kernel_rfl) (by kernel_rfl) (by kernel_rfl) (fun _ _ _ h => h) (Or.inl ⟨by rfl, ?y9b⟩) (by assumption) ?r9b
            case y9b => (intro x hx; (try dsimp only at hx); go_simp; try with_reducible rfl)
            try simp only [Act.put, List.setIfInBounds_toArray, List.set_cons_zero, List.set_cons_succ]
            refine wpAnyH_take (i := 10) (oi := { dst := some 160, op := Op.binOp BinOp.neq 3 (Operand.tmp 157) (Operand.tmp 159) 3, type := 4, pos := "law.go:253", after := #[{ on := 7, ground := Ground.data }, { on := 9, ground := Ground.data }, { on := 5, ground := Ground.guard }], guard := some (5, false) }) (v := ?v10b) rfl (by kernel_rfl) (by kernel_rfl) (by kernel_rfl) (fun _ _ _ h => h) (Or.inl ⟨by rfl, ?y10b⟩) (by assumption) ?r10b
            case y10b => (intro x hx; (try dsimp only at hx); go_simp; try with_reducible rfl)
            try simp only [Act.put, List.setIfInBounds_toArray, List.set_cons_zero, List.set_cons_succ]
            refine wpAnyH_take (i := 11) (oi := { dst := some 161, op := Op.pick (Operand.tmp 155) (Operand.const (Value.bool true)) (Operand.tmp 160), type := 4, pos := "law.go:253", after := #[{ on := 5, ground := Ground.data }, { on := 10, ground := Ground.data }], guard := none }) (v := ?v11b) rfl (by kernel_rfl) (by kernel_rfl) (by kernel_rfl) (fun _ _ _ h => h) (Or.inl ⟨by rfl, ?y11b⟩) (by assumption) ?r11b
            case y11b => (intro x hx; (try dsimp only at hx); go_simp; try with_reducible rfl)
            try simp only [Act.put, List.setIfInBounds_toArray, List.set_cons_zero, List.set_cons_succ]
            refine wpAnyH_take (i := 12) (oi := { dst := some 162, op := Op.move (Operand.tmp 161), type := 4, pos := "law.go:253", after := #[{ on := 11, ground := Ground.data }, { on := 5, ground := Ground.chain }], guard := none }) (v := ?v12b) rfl (by kernel_rfl) (by kernel_rfl) (by kernel_rfl) (fun _ _ _ h => h) (Or.inl ⟨by rfl, ?y12b⟩) (by assumption) ?r12b
            case y12b => (intro x hx; (try dsimp only at hx); go_simp; try with_reducible rfl)
            try simp only [Act.put, List.setIfInBounds_toArray, List.set_cons_zero, List.set_cons_succ]
            refine wpAnyH_take (i := 13) (oi := { dst := some 163, op := Op.fieldAddr 54 (Operand.tmp 22) 1, type := 0, pos := "law.go:253", after := #[{ on := 12, ground := Ground.guard }], guard := some (12, false) }) (v := ?v13b) rfl (by kernel_rfl) (by kernel_rfl) (by kernel_rfl) (fun _ _ _ h => h) (Or.inl ⟨by rfl, ?y13b⟩) (by assumption) ?r13b
            case y13b => (intro x hx; (try dsimp only at hx); go_simp; try with_reducible rfl)
            try simp only [Act.put, List.setIfInBounds_toArray, List.set_cons_zero, List.set_cons_succ]
            refine wpAnyH_take (i := 14) (oi := { dst := some 164, op := Op.load 3 (Operand.tmp 163), type := 3, pos := "law.go:253", after := #[{ on := 13, ground := Ground.data }, { on := 12, ground := Ground.guard }], guard := some (12, false) }) (v := ?v14b) rfl (by kernel_rfl) (by kernel_rfl) (by kernel_rfl) (fun _ _ _ h => h) (Or.inl ⟨by rfl, ?y14b⟩) (by assumption) ?r14b
            case y14b => (intro x hx; (try dsimp only at hx); go_simp; try with_reducible rfl)
            try simp only [Act.put, List.setIfInBounds_toArray, List.set_cons_zero, List.set_cons_succ]
            refine wpAnyH_take (i := 15) (oi := { dst := some 165, op := Op.fieldAddr 45 (Operand.tmp 18) 1, type := 0, pos := "law.go:253", after := #[{ on := 12, ground := Ground.guard }], guard := some (12, false) }) (v := ?v15b) rfl (by kernel_rfl) (by kernel_rfl) (by kernel_rfl) (fun _ _ _ h => h) (Or.inl ⟨by rfl, ?y15b⟩) (by assumption) ?r15b
            case y15b => (intro x hx; (try dsimp only at hx); go_simp; try with_reducible rfl)
            try simp only [Act.put, List.setIfInBounds_toArray, List.set_cons_zero, List.set_cons_succ]
            refine wpAnyH_take (i := 16) (oi := { dst := some 166, op := Op.load 3 (Operand.tmp 165), type := 3, pos := "law.go:253", after := #[{ on := 15, ground := Ground.data }, { on := 12, ground := Ground.guard }], guard := some (12, false) }) (v := ?v16b) rfl (by kernel_rfl) (by kernel_rfl) (by kernel_rfl) (fun _ _ _ h => h) (Or.inl ⟨by rfl, ?y16b⟩) (by assumption) ?r16b
            case y16b => (intro x hx; (try dsimp only at hx); go_simp; try with_reducible rfl)
            try simp only [Act.put, List.setIfInBounds_toArray, List.set_cons_zero, List.set_cons_succ]
            refine wpAnyH_take (i := 17) (oi := { dst := some 167, op := Op.binOp BinOp.neq 3 (Operand.tmp 164) (Operand.tmp 166) 3, type := 4, pos := "law.go:253", after := #[{ on := 14, ground := Ground.data }, { on := 16, ground := Ground.data }, { on := 12, ground := Ground.guard }], guard := some (12, false) }) (v := ?v17b) rfl (by kernel_rfl) (by kernel_rfl) (by kernel_rfl) (fun _ _ _ h => h) (Or.inl ⟨by rfl, ?y17b⟩) (by assumption) ?r17b
            case y17b => (intro x hx; (try dsimp only at hx); go_simp; try with_reducible rfl)
            try simp only [Act.put, List.setIfInBounds_toArray, List.set_cons_zero, List.set_cons_succ]
            refine wpAnyH_take (i := 18) (oi := { dst := some 168, op := Op.pick (Operand.tmp 162) (Operand.const (Value.bool true)) (Operand.tmp 167), type := 4, pos := "law.go:253", after := #[{ on := 12, ground := Ground.data }, { on := 17, ground := Ground.data }], guard := none }) (v := ?v18b) rfl (by kernel_rfl) (by kernel_rfl) (by kernel_rfl) (fun _ _ _ h => h) (Or.inl ⟨by rfl, ?y18b⟩) (by assumption) ?r18b
            case y18b => (intro x hx; (try dsimp only at hx); go_simp; try with_reducible rfl)
            try simp only [Act.put, List.setIfInBounds_toArray, List.set_cons_zero, List.set_cons_succ]
            refine wpAnyH_take (i := 19) (oi := { dst := some 169, op := Op.move (Operand.tmp 168), type := 4, pos := "law.go:253", after := #[{ on := 18, ground := Ground.data }, { on := 12, ground := Ground.chain }], guard := none }) (v := ?v19b) rfl (by kernel_rfl) (by kernel_rfl) (by kernel_rfl) (fun _ _ _ h => h) (Or.inl ⟨by rfl, ?y19b⟩) (by assumption) ?r19b
            case y19b => (intro x hx; (try dsimp only at hx); go_simp; try with_reducible rfl)
            try simp only [Act.put, List.setIfInBounds_toArray, List.set_cons_zero, List.set_cons_succ]
            refine wpAnyH_take (i := 20) (oi := { dst := some 170, op := Op.move (Operand.tmp 12), type := 37, pos := "law.go:253", after := #[{ on := 19, ground := Ground.guard }], guard := some (19, false) }) (v := ?v20b) rfl (by kernel_rfl) (by kernel_rfl) (by kernel_rfl) (fun _ _ _ h => h) (Or.inl ⟨by rfl, ?y20b⟩) (by assumption) ?r20b
            case y20b => (intro x hx; (try dsimp only at hx); go_simp; try with_reducible rfl)
            try simp only [Act.put, List.setIfInBounds_toArray, List.set_cons_zero, List.set_cons_succ]
            refine wpAnyH_take (i := 21) (oi := { dst := some 171, op := Op.load 54 (Operand.tmp 22), type := 54, pos := "law.go:253", after := #[{ on := 19, ground := Ground.guard }], guard := some (19, false) }) (v := ?v21b) rfl (by kernel_rfl) (by kernel_rfl) (by kernel_rfl) (fun _ _ _ h => h) (Or.inl ⟨by rfl, ?y21b⟩) (by assumption) ?r21b
            case y21b => (intro x hx; (try dsimp only at hx); go_simp; try with_reducible rfl)
            try simp only [Act.put, List.setIfInBounds_toArray, List.set_cons_zero, List.set_cons_succ]
            refine wpAnyH_take (i := 23) (oi := { dst := some 173, op := Op.fieldAddr 54 (Operand.tmp 22) 3, type := 0, pos := "law.go:253", after := #[{ on := 19, ground := Ground.guard }], guard := some (19, false) }) (v := ?v23b) rfl (by kernel_rfl) (by kernel_rfl) (by kernel_rfl) (fun _ _ _ h => h) (Or.inl ⟨by rfl, ?y23b⟩) (by assumption) ?r23b
            case y23b => (intro x hx; (try dsimp only at hx); go_simp; try with_reducible rfl)
            try simp only [Act.put, List.setIfInBounds_toArray, List.set_cons_zero, List.set_cons_succ]
            refine wpAnyH_take (i := 24) (oi := { dst := some 174, op := Op.load 28 (Operand.tmp 173), type := 28, pos := "law.go:253", after := #[{ on := 23, ground := Ground.data }, { on := 19, ground := Ground.guard }], guard := some (19, false) }) (v := ?v24b) rfl (by kernel_rfl) (by kernel_rfl) (by kernel_rfl) (fun _ _ _ h => h) (Or.inl ⟨by rfl, ?y24b⟩) (by assumption) ?r24b
            case y24b => (intro x hx; (try dsimp only at hx); go_simp; try with_reducible rfl)
            try simp only [Act.put, List.setIfInBounds_toArray, List.set_cons_zero, List.set_cons_succ]
            refine wpAnyH_take (i := 25) (oi := { dst := some 175, op := Op.binOp BinOp.eql 3 (Operand.tmp 174) (Operand.const (Value.int IntKind.i64 0)) 3, type := 4, pos := "law.go:253", after := #[{ on := 24, ground := Ground.data }, { on := 19, ground := Ground.guard }], guard := some (19, false) }) (v := ?v25b) rfl (by kernel_rfl) (by kernel_rfl) (by kernel_rfl) (fun _ _ _ h => h) (Or.inl ⟨by rfl, ?y25b⟩) (by assumption) ?r25b
            case y25b => (intro x hx; (try dsimp only at hx); go_simp; try with_reducible rfl)
            try simp only [Act.put, List.setIfInBounds_toArray, List.set_cons_zero, List.set_cons_succ]
            refine wpAnyH_ready (rs := [22]) (by kernel_rfl) (by simp) ?_
            refine AllReadyH.cons (o := { dst := some 172, op := Op.call { callee := Callee.value (Operand.func 15), args := #[Operand.tmp 170, Operand.tmp 171], argTypes := #[37, 54] }, type := 4, pos := "law.go:253", after := #[{ on := 20, ground := Ground.data }, { on := 21, ground := Ground.data }, { on := 19, ground := Ground.chain }, { on := 19, ground := Ground.guard }], guard := some (19, false) }) rfl (fun K hK => ?_) AllReadyH.nil
            go_simp
            go_at_call 15
            refine (J.see_x gj bm B P S _ x.k x.b pp e _ (HM5.out.below (drew_below _)).j HYO.out (by have := HGEO.out; omega) (by rw [J.jfold_len]; unfold J.start; rw [List.length_map, HBL.out]; have := HGEO.out; omega)).mono ?_
            rintro e7 u7 ⟨rfl, hj7, hg7⟩
            rw [HSEE.out]
            have HM7 := hide ((HM5.out.below (drew_below _)).see hj7 hg7)
            have hSnew : (fun u => u.cell? ⟨q22, 0, none⟩ = some (.int .i64 x.k) ∧ u.cell? ⟨q22, 1, none⟩ = some (.int .i64 x.b) ∧ u.cell? ⟨q22, 2, none⟩ = some (.int .i64 pp) ∧ u.cell? ⟨q22, 3, none⟩ = some (.int .i64 e) ∧ u.cell? ⟨q18, 0, none⟩ = some (.int .i64 x.k) ∧ u.cell? ⟨q18, 1, none⟩ = some (.int .i64 x.b)) u7 := s32_of HM7.out
            clear hj7 hg7
            go_wp2_with fail
            refine hK.out _ _ hSnew (fun hHeld22 => ?_)
            clear hK K hSnew
            clear hHeld
            have hHeld := hHeld22
            clear hHeld22
            try simp only [Act.put, List.setIfInBounds_toArray, List.set_cons_zero, List.set_cons_succ]
            refine wpAnyH_take (i := 26) (oi := { dst := some 176, op := Op.move (Operand.tmp 175), type := 4, pos := "law.go:253", after := #[{ on := 25, ground := Ground.data }, { on := 22, ground := Ground.chain }, { on := 19, ground := Ground.guard }], guard := some (19, false) }) (v := ?v26b) rfl (by kernel_rfl) (by kernel_rfl) (by kernel_rfl) (fun _ _ _ h => h) (Or.inl ⟨by rfl, ?y26b⟩) (by assumption) ?r26b
            case y26b => (intro x hx; (try dsimp only at hx); go_simp; try with_reducible rfl)
            try simp only [Act.put, List.setIfInBounds_toArray, List.set_cons_zero, List.set_cons_succ]
            refine wpAnyH_take (i := 27) (oi := { dst := some 177, op := Op.fieldAddr 54 (Operand.tmp 22) 3, type := 0, pos := "law.go:253", after := #[{ on := 26, ground := Ground.guard }], guard := some (26, false) }) (v := ?v27b) rfl (by kernel_rfl) (by kernel_rfl) (by kernel_rfl) (fun _ _ _ h => h) (Or.inl ⟨by rfl, ?y27b⟩) (by assumption) ?r27b
            case y27b => (intro x hx; (try dsimp only at hx); go_simp; try with_reducible rfl)
            try simp only [Act.put, List.setIfInBounds_toArray, List.set_cons_zero, List.set_cons_succ]
            refine wpAnyH_take (i := 28) (oi := { dst := some 178, op := Op.load 28 (Operand.tmp 177), type := 28, pos := "law.go:253", after := #[{ on := 27, ground := Ground.data }, { on := 26, ground := Ground.guard }], guard := some (26, false) }) (v := ?v28b) rfl (by kernel_rfl) (by kernel_rfl) (by kernel_rfl) (fun _ _ _ h => h) (Or.inl ⟨by rfl, ?y28b⟩) (by assumption) ?r28b
            case y28b => (intro x hx; (try dsimp only at hx); go_simp; try with_reducible rfl)
            try simp only [Act.put, List.setIfInBounds_toArray, List.set_cons_zero, List.set_cons_succ]
            refine wpAnyH_take (i := 29) (oi := { dst := some 179, op := Op.binOp BinOp.eql 3 (Operand.tmp 178) (Operand.const (Value.int IntKind.i64 44)) 3, type := 4, pos := "law.go:253", after := #[{ on := 28, ground := Ground.data }, { on := 26, ground := Ground.guard }], guard := some (26, false) }) (v := ?v29b) rfl (by kernel_rfl) (by kernel_rfl) (by kernel_rfl) (fun _ _ _ h => h) (Or.inl ⟨by rfl, ?y29b⟩) (by assumption) ?r29b
            case y29b => (intro x hx; (try dsimp only at hx); go_simp; try with_reducible rfl)
            try simp only [Act.put, List.setIfInBounds_toArray, List.set_cons_zero, List.set_cons_succ]
            refine wpAnyH_take (i := 30) (oi := { dst := some 180, op := Op.pick (Operand.tmp 176) (Operand.const (Value.bool true)) (Operand.tmp 179), type := 4, pos := "law.go:253", after := #[{ on := 26, ground := Ground.data }, { on := 29, ground := Ground.data }, { on := 19, ground := Ground.guard }], guard := some (19, false) }) (v := ?v30b) rfl (by kernel_rfl) (by kernel_rfl) (by kernel_rfl) (fun _ _ _ h => h) (Or.inl ⟨by rfl, ?y30b⟩) (by assumption) ?r30b
            case y30b => (intro x hx; (try dsimp only at hx); go_simp; try with_reducible rfl)
            try simp only [Act.put, List.setIfInBounds_toArray, List.set_cons_zero, List.set_cons_succ]
            refine wpAnyH_take (i := 31) (oi := { dst := some 181, op := Op.move (Operand.tmp 180), type := 4, pos := "law.go:253", after := #[{ on := 30, ground := Ground.data }, { on := 26, ground := Ground.chain }, { on := 19, ground := Ground.guard }], guard := some (19, false) }) (v := ?v31b) rfl (by kernel_rfl) (by kernel_rfl) (by kernel_rfl) (fun _ _ _ h => h) (Or.inl ⟨by rfl, ?y31b⟩) (by assumption) ?r31b
            case y31b => (intro x hx; (try dsimp only at hx); go_simp; try with_reducible rfl)
            try simp only [Act.put, List.setIfInBounds_toArray, List.set_cons_zero, List.set_cons_succ]
            refine wpAnyH_take (i := 32) (oi := { dst := some 182, op := Op.fieldAddr 54 (Operand.tmp 22) 3, type := 0, pos := "law.go:253", after := #[{ on := 31, ground := Ground.guard }], guard := some (31, false) }) (v := undef) rfl (by kernel_rfl) (by kernel_rfl) (by kernel_rfl) (fun _ _ _ h => h) (Or.inr ⟨by rfl, rfl⟩) (by assumption) ?_
            try simp only [Act.put, List.setIfInBounds_toArray, List.set_cons_zero, List.set_cons_succ]
            refine wpAnyH_take (i := 33) (oi := { dst := some 183, op := Op.load 28 (Operand.tmp 182), type := 28, pos := "law.go:253", after := #[{ on := 32, ground := Ground.data }, { on := 31, ground := Ground.guard }], guard := some (31, false) }) (v := undef) rfl (by kernel_rfl) (by kernel_rfl) (by kernel_rfl) (fun _ _ _ h => h) (Or.inr ⟨by rfl, rfl⟩) (by assumption) ?_
            try simp only [Act.put, List.setIfInBounds_toArray, List.set_cons_zero, List.set_cons_succ]
            refine wpAnyH_take (i := 34) (oi := { dst := some 184, op := Op.binOp BinOp.eql 3 (Operand.tmp 183) (Operand.const (Value.int IntKind.i64 45)) 3, type := 4, pos := "law.go:253", after := #[{ on := 33, ground := Ground.data }, { on := 31, ground := Ground.guard }], guard := some (31, false) }) (v := undef) rfl (by kernel_rfl) (by kernel_rfl) (by kernel_rfl) (fun _ _ _ h => h) (Or.inr ⟨by rfl, rfl⟩) (by assumption) ?_
            try simp only [Act.put, List.setIfInBounds_toArray, List.set_cons_zero, List.set_cons_succ]
            refine wpAnyH_take (i := 35) (oi := { dst := some 185, op := Op.pick (Operand.tmp 181) (Operand.const (Value.bool true)) (Operand.tmp 184), type := 4, pos := "law.go:253", after := #[{ on := 31, ground := Ground.data }, { on := 34, ground := Ground.data }, { on := 19, ground := Ground.guard }], guard := some (19, false) }) (v := ?v35b) rfl (by kernel_rfl) (by kernel_rfl) (by kernel_rfl) (fun _ _ _ h => h) (Or.inl ⟨by rfl, ?y35b⟩) (by assumption) ?r35b
            case y35b => (intro x hx; (try dsimp only at hx); go_simp; try with_reducible rfl)
            try simp only [Act.put, List.setIfInBounds_toArray, List.set_cons_zero, List.set_cons_succ]
            refine wpAnyH_take (i := 36) (oi := { dst := some 186, op := Op.binOp BinOp.neq 4 (Operand.tmp 172) (Operand.tmp 185) 4, type := 4, pos := "law.go:253", after := #[{ on := 22, ground := Ground.data }, { on := 35, ground := Ground.data }, { on := 19, ground := Ground.guard }], guard := some (19, false) }) (v := ?v36b) rfl (by kernel_rfl) (by kernel_rfl) (by kernel_rfl) (fun _ _ _ h => h) (Or.inl ⟨by rfl, ?y36b⟩) (by assumption) ?r36b
            case y36b => (intro x hx; (try dsimp only at hx); go_simp; try with_reducible rfl)
            try simp only [Act.put, List.setIfInBounds_toArray, List.set_cons_zero, List.set_cons_succ]
            refine wpAnyH_take (i := 37) (oi := { dst := some 187, op := Op.pick (Operand.tmp 169) (Operand.const (Value.bool true)) (Operand.tmp 186), type := 4, pos := "law.go:253", after := #[{ on := 19, ground := Ground.data }, { on := 36, ground := Ground.data }], guard := none }) (v := ?v37b) rfl (by kernel_rfl) (by kernel_rfl) (by kernel_rfl) (fun _ _ _ h => h) (Or.inl ⟨by rfl, ?y37b⟩) (by assumption) ?r37b
            case y37b => (intro x hx; (try dsimp only at hx); go_simp; try with_reducible rfl)
            try simp only [Act.put, List.setIfInBounds_toArray, List.set_cons_zero, List.set_cons_succ]
            refine wpAnyH_done (by kernel_rfl) ?_ _
            go_wp2
            go_meet
            exact ⟨rfl, HM7.out⟩
          have q44 : (e == 44) = false := by simp [heb]
          by_cases hec : e = 45
          · have HSEE : Hid ((J.see P (J.jfold P (J.start true P bs) (C.tr.map Cmd.j)) ⟨x.k, x.b, pp, e⟩).isSome = true) := by rw [HSEE0.out]; rw [hec]; rfl
            have q45 : (e == 45) = true := by rw [hec]; rfl
            clear hea heb
            clear hec
            refine wp_region_held_drew (S := (fun u => u.cell? ⟨q22, 0, none⟩ = some (.int .i64 x.k) ∧ u.cell? ⟨q22, 1, none⟩ = some (.int .i64 x.b) ∧ u.cell? ⟨q22, 2, none⟩ = some (.int .i64 pp) ∧ u.cell? ⟨q22, 3, none⟩ = some (.int .i64 e) ∧ u.cell? ⟨q18, 0, none⟩ = some (.int .i64 x.k) ∧ u.cell? ⟨q18, 1, none⟩ = some (.int .i64 x.b))) (by kernel_rfl) (s32_of (HM5.out.below (drew_below _))) (fun hHeld => ?_)
            refine wpAnyH_take (i := 0) (oi := { dst := some 150, op := Op.move (Operand.tmp 21), type := 46, pos := "law.go:253", after := #[], guard := none }) (v := ?v0c) rfl (by kernel_rfl) (by kernel_rfl) (by kernel_rfl) (fun _ _ _ h => h) (Or.inl ⟨by rfl, ?y0c⟩) (by assumption) ?r0c
            case y0c => (intro x hx; (try dsimp only at hx); go_simp; try with_reducible rfl)
            try simp only [Act.put, List.setIfInBounds_toArray, List.set_cons_zero, List.set_cons_succ]
            refine wpAnyH_take (i := 1) (oi := { dst := some 151, op := Op.call { callee := Callee.builtin Builtin.len, args := #[Operand.tmp 150], argTypes := #[46] }, type := 3, pos := "law.go:253", after := #[{ on := 0, ground := Ground.data }], guard := none }) (v := ?v1c) rfl (by kernel_rfl) (by kernel_rfl) (by kernel_rfl) (fun _ _ _ h => h) (Or.inl ⟨by rfl, ?y1c⟩) (by assumption) ?r1c
            case y1c => (intro x hx; (try dsimp only at hx); go_simp; try with_reducible rfl)
            try simp only [Act.put, List.setIfInBounds_toArray, List.set_cons_zero, List.set_cons_succ]
            refine wpAnyH_take (i := 2) (oi := { dst := some 152, op := Op.move (Operand.tmp 19), type := 3, pos := "law.go:253", after := #[], guard := none }) (v := ?v2c) rfl (by kernel_rfl) (by kernel_rfl) (by kernel_rfl) (fun _ _ _ h => h) (Or.inl ⟨by rfl, ?y2c⟩) (by assumption) ?r2c
            case y2c => (intro x hx; (try dsimp only at hx); go_simp; try with_reducible rfl)
            try simp only [Act.put, List.setIfInBounds_toArray, List.set_cons_zero, List.set_cons_succ]
            refine wpAnyH_take (i := 3) (oi := { dst := some 153, op := Op.binOp BinOp.add 3 (Operand.tmp 152) (Operand.const (Value.int IntKind.i64 1)) 3, type := 3, pos := "law.go:253", after := #[{ on := 2, ground := Ground.data }], guard := none }) (v := ?v3c) rfl (by kernel_rfl) (by kernel_rfl) (by kernel_rfl) (fun _ _ _ h => h) (Or.inl ⟨by rfl, ?y3c⟩) (by assumption) ?r3c
            case y3c => (intro x hx; (try dsimp only at hx); go_simp; try with_reducible rfl)
            try simp only [Act.put, List.setIfInBounds_toArray, List.set_cons_zero, List.set_cons_succ]
            refine wpAnyH_take (i := 4) (oi := { dst := some 154, op := Op.binOp BinOp.neq 3 (Operand.tmp 151) (Operand.tmp 153) 3, type := 4, pos := "law.go:253", after := #[{ on := 1, ground := Ground.data }, { on := 3, ground := Ground.data }], guard := none }) (v := ?v4c) rfl (by kernel_rfl) (by kernel_rfl) (by kernel_rfl) (fun _ _ _ h => h) (Or.inl ⟨by rfl, ?y4c⟩) (by assumption) ?r4c
            case y4c => (intro x hx; (try dsimp only at hx); go_simp; try with_reducible rfl)
            try simp only [Act.put, List.setIfInBounds_toArray, List.set_cons_zero, List.set_cons_succ]
            refine wpAnyH_take (i := 5) (oi := { dst := some 155, op := Op.move (Operand.tmp 154), type := 4, pos := "law.go:253", after := #[{ on := 4, ground := Ground.data }], guard := none }) (v := ?v5c) rfl (by kernel_rfl) (by kernel_rfl) (by kernel_rfl) (fun _ _ _ h => h) (Or.inl ⟨by rfl, ?y5c⟩) (by assumption) ?r5c
            case y5c => (intro x hx; (try dsimp only at hx); go_simp; try with_reducible rfl)
            try simp only [Act.put, List.setIfInBounds_toArray, List.set_cons_zero, List.set_cons_succ]
            refine wpAnyH_take (i := 6) (oi := { dst := some 156, op := Op.fieldAddr 54 (Operand.tmp 22) 0, type := 0, pos := "law.go:253", after := #[{ on := 5, ground := Ground.guard }], guard := some (5, false) }) (v := ?v6c) rfl (by kernel_rfl) (by kernel_rfl) (by kernel_rfl) (fun _ _ _ h => h) (Or.inl ⟨by rfl, ?y6c⟩) (by assumption) ?r6c
            case y6c => (intro x hx; (try dsimp only at hx); go_simp; try with_reducible rfl)
            try simp only [Act.put, List.setIfInBounds_toArray, List.set_cons_zero, List.set_cons_succ]
            refine wpAnyH_take (i := 7) (oi := { dst := some 157, op := Op.load 3 (Operand.tmp 156), type := 3, pos := "law.go:253", after := #[{ on := 6, ground := Ground.data }, { on := 5, ground := Ground.guard }], guard := some (5, false) }) (v := ?v7c) rfl (by kernel_rfl) (by kernel_rfl) (by kernel_rfl) (fun _ _ _ h => h) (Or.inl ⟨by rfl, ?y7c⟩) (by assumption) ?r7c
            case y7c => (intro x hx; (try dsimp only at hx); go_simp; try with_reducible rfl)
            try simp only [Act.put, List.setIfInBounds_toArray, List.set_cons_zero, List.set_cons_succ]
            refine wpAnyH_take (i := 8) (oi := { dst := some 158, op := Op.fieldAddr 45 (Operand.tmp 18) 0, type := 0, pos := "law.go:253", after := #[{ on := 5, ground := Ground.guard }], guard := some (5, false) }) (v := ?v8c) rfl (by kernel_rfl) (by kernel_rfl) (by kernel_rfl) (fun _ _ _ h => h) (Or.inl ⟨by rfl, ?y8c⟩) (by assumption) ?r8c
            case y8c => (intro x hx; (try dsimp only at hx); go_simp; try with_reducible rfl)
            try simp only [Act.put, List.setIfInBounds_toArray, List.set_cons_zero, List.set_cons_succ]
            refine wpAnyH_take (i := 9) (oi := { dst := some 159, op := Op.load 3 (Operand.tmp 158), type := 3, pos := "law.go:253", after := #[{ on := 8, ground := Ground.data }, { on := 5, ground := Ground.guard }], guard := some (5, false) }) (v := ?v9c) rfl (by kernel_rfl) (by kernel_rfl) (by kernel_rfl) (fun _ _ _ h => h) (Or.inl ⟨by rfl, ?y9c⟩) (by assumption) ?r9c
            case y9c => (intro x hx; (try dsimp only at hx); go_simp; try with_reducible rfl)
            try simp only [Act.put, List.setIfInBounds_toArray, List.set_cons_zero, List.set_cons_succ]
            refine wpAnyH_take (i := 10) (oi := { dst := some 160, op := Op.binOp BinOp.neq 3 (Operand.tmp 157) (Operand.tmp 159) 3, type := 4, pos := "law.go:253", after := #[{ on := 7, ground := Ground.data }, { on := 9, ground := Ground.data }, { on := 5, ground := Ground.guard }], guard := some (5, false) }) (v := ?v10c) rfl (by kernel_rfl) (by kernel_rfl) (by kernel_rfl) (fun _ _ _ h => h) (Or.inl ⟨by rfl, ?y10c⟩) (by assumption) ?r10c
            case y10c => (intro x hx; (try dsimp only at hx); go_simp; try with_reducible rfl)
            try simp only [Act.put, List.setIfInBounds_toArray, List.set_cons_zero, List.set_cons_succ]
            refine wpAnyH_take (i := 11) (oi := { dst := some 161, op := Op.pick (Operand.tmp 155) (Operand.const (Value.bool true)) (Operand.tmp 160), type := 4, pos := "law.go:253", after := #[{ on := 5, ground := Ground.data }, { on := 10, ground := Ground.data }], guard := none }) (v := ?v11c) rfl (by kernel_rfl) (by kernel_rfl) (by kernel_rfl) (fun _ _ _ h => h) (Or.inl ⟨by rfl, ?y11c⟩) (by assumption) ?r11c
            case y11c => (intro x hx; (try dsimp only at hx); go_simp; try with_reducible rfl)
            try simp only [Act.put, List.setIfInBounds_toArray, List.set_cons_zero, List.set_cons_succ]
            refine wpAnyH_take (i := 12) (oi := { dst := some 162, op := Op.move (Operand.tmp 161), type := 4, pos := "law.go:253", after := #[{ on := 11, ground := Ground.data }, { on := 5, ground := Ground.chain }], guard := none }) (v := ?v12c) rfl (by kernel_rfl) (by kernel_rfl) (by kernel_rfl) (fun _ _ _ h => h) (Or.inl ⟨by rfl, ?y12c⟩) (by assumption) ?r12c
            case y12c => (intro x hx; (try dsimp only at hx); go_simp; try with_reducible rfl)
            try simp only [Act.put, List.setIfInBounds_toArray, List.set_cons_zero, List.set_cons_succ]
            refine wpAnyH_take (i := 13) (oi := { dst := some 163, op := Op.fieldAddr 54 (Operand.tmp 22) 1, type := 0, pos := "law.go:253", after := #[{ on := 12, ground := Ground.guard }], guard := some (12, false) }) (v := ?v13c) rfl (by kernel_rfl) (by kernel_rfl) (by kernel_rfl) (fun _ _ _ h => h) (Or.inl ⟨by rfl, ?y13c⟩) (by assumption) ?r13c
            case y13c => (intro x hx; (try dsimp only at hx); go_simp; try with_reducible rfl)
            try simp only [Act.put, List.setIfInBounds_toArray, List.set_cons_zero, List.set_cons_succ]
            refine wpAnyH_take (i := 14) (oi := { dst := some 164, op := Op.load 3 (Operand.tmp 163), type := 3, pos := "law.go:253", after := #[{ on := 13, ground := Ground.data }, { on := 12, ground := Ground.guard }], guard := some (12, false) }) (v := ?v14c) rfl (by kernel_rfl) (by kernel_rfl) (by kernel_rfl) (fun _ _ _ h => h) (Or.inl ⟨by rfl, ?y14c⟩) (by assumption) ?r14c
            case y14c => (intro x hx; (try dsimp only at hx); go_simp; try with_reducible rfl)
            try simp only [Act.put, List.setIfInBounds_toArray, List.set_cons_zero, List.set_cons_succ]
            refine wpAnyH_take (i := 15) (oi := { dst := some 165, op := Op.fieldAddr 45 (Operand.tmp 18) 1, type := 0, pos := "law.go:253", after := #[{ on := 12, ground := Ground.guard }], guard := some (12, false) }) (v := ?v15c) rfl (by kernel_rfl) (by kernel_rfl) (by kernel_rfl) (fun _ _ _ h => h) (Or.inl ⟨by rfl, ?y15c⟩) (by assumption) ?r15c
            case y15c => (intro x hx; (try dsimp only at hx); go_simp; try with_reducible rfl)
            try simp only [Act.put, List.setIfInBounds_toArray, List.set_cons_zero, List.set_cons_succ]
            refine wpAnyH_take (i := 16) (oi := { dst := some 166, op := Op.load 3 (Operand.tmp 165), type := 3, pos := "law.go:253", after := #[{ on := 15, ground := Ground.data }, { on := 12, ground := Ground.guard }], guard := some (12, false) }) (v := ?v16c) rfl (by kernel_rfl) (by kernel_rfl) (by kernel_rfl) (fun _ _ _ h => h) (Or.inl ⟨by rfl, ?y16c⟩) (by assumption) ?r16c
            case y16c => (intro x hx; (try dsimp only at hx); go_simp; try with_reducible rfl)
            try simp only [Act.put, List.setIfInBounds_toArray, List.set_cons_zero, List.set_cons_succ]
            refine wpAnyH_take (i := 17) (oi := { dst := some 167, op := Op.binOp BinOp.neq 3 (Operand.tmp 164) (Operand.tmp 166) 3, type := 4, pos := "law.go:253", after := #[{ on := 14, ground := Ground.data }, { on := 16, ground := Ground.data }, { on := 12, ground := Ground.guard }], guard := some (12, false) }) (v := ?v17c) rfl (by kernel_rfl) (by kernel_rfl) (by kernel_rfl) (fun _ _ _ h => h) (Or.inl ⟨by rfl, ?y17c⟩) (by assumption) ?r17c
            case y17c => (intro x hx; (try dsimp only at hx); go_simp; try with_reducible rfl)
            try simp only [Act.put, List.setIfInBounds_toArray, List.set_cons_zero, List.set_cons_succ]
            refine wpAnyH_take (i := 18) (oi := { dst := some 168, op := Op.pick (Operand.tmp 162) (Operand.const (Value.bool true)) (Operand.tmp 167), type := 4, pos := "law.go:253", after := #[{ on := 12, ground := Ground.data }, { on := 17, ground := Ground.data }], guard := none }) (v := ?v18c) rfl (by kernel_rfl) (by kernel_rfl) (by kernel_rfl) (fun _ _ _ h => h) (Or.inl ⟨by rfl, ?y18c⟩) (by assumption) ?r18c
            case y18c => (intro x hx; (try dsimp only at hx); go_simp; try with_reducible rfl)
            try simp only [Act.put, List.setIfInBounds_toArray, List.set_cons_zero, List.set_cons_succ]
            refine wpAnyH_take (i := 19) (oi := { dst := some 169, op := Op.move (Operand.tmp 168), type := 4, pos := "law.go:253", after := #[{ on := 18, ground := Ground.data }, { on := 12, ground := Ground.chain }], guard := none }) (v := ?v19c) rfl (by kernel_rfl) (by kernel_rfl) (by kernel_rfl) (fun _ _ _ h => h) (Or.inl ⟨by rfl, ?y19c⟩) (by assumption) ?r19c
            case y19c => (intro x hx; (try dsimp only at hx); go_simp; try with_reducible rfl)
            try simp only [Act.put, List.setIfInBounds_toArray, List.set_cons_zero, List.set_cons_succ]
            refine wpAnyH_take (i := 20) (oi := { dst := some 170, op := Op.move (Operand.tmp 12), type := 37, pos := "law.go:253", after := #[{ on := 19, ground := Ground.guard }], guard := some (19, false) }) (v := ?v20c) rfl (by kernel_rfl) (by kernel_rfl) (by kernel_rfl) (fun _ _ _ h => h) (Or.inl ⟨by rfl, ?y20c⟩) (by assumption) ?r20c
            case y20c => (intro x hx; (try dsimp only at hx); go_simp; try with_reducible rfl)
            try simp only [Act.put, List.setIfInBounds_toArray, List.set_cons_zero, List.set_cons_succ]
            refine wpAnyH_take (i := 21) (oi := { dst := some 171, op := Op.load 54 (Operand.tmp 22), type := 54, pos := "law.go:253", after := #[{ on := 19, ground := Ground.guard }], guard := some (19, false) }) (v := ?v21c) rfl (by kernel_rfl) (by kernel_rfl) (by kernel_rfl) (fun _ _ _ h => h) (Or.inl ⟨by rfl, ?y21c⟩) (by assumption) ?r21c
            case y21c => (intro x hx; (try dsimp only at hx); go_simp; try with_reducible rfl)
            try simp only [Act.put, List.setIfInBounds_toArray, List.set_cons_zero, List.set_cons_succ]
            refine wpAnyH_take (i := 23) (oi := { dst := some 173, op := Op.fieldAddr 54 (Operand.tmp 22) 3, type := 0, pos := "law.go:253", after := #[{ on := 19, ground := Ground.guard }], guard := some (19, false) }) (v := ?v23c) rfl (by kernel_rfl) (by kernel_rfl) (by kernel_rfl) (fun _ _ _ h => h) (Or.inl ⟨by rfl, ?y23c⟩) (by assumption) ?r23c
            case y23c => (intro x hx; (try dsimp only at hx); go_simp; try with_reducible rfl)
            try simp only [Act.put, List.setIfInBounds_toArray, List.set_cons_zero, List.set_cons_succ]
            refine wpAnyH_take (i := 24) (oi := { dst := some 174, op := Op.load 28 (Operand.tmp 173), type := 28, pos := "law.go:253", after := #[{ on := 23, ground := Ground.data }, { on := 19, ground := Ground.guard }], guard := some (19, false) }) (v := ?v24c) rfl (by kernel_rfl) (by kernel_rfl) (by kernel_rfl) (fun _ _ _ h => h) (Or.inl ⟨by rfl, ?y24c⟩) (by assumption) ?r24c
            case y24c => (intro x hx; (try dsimp only at hx); go_simp; try with_reducible rfl)
            try simp only [Act.put, List.setIfInBounds_toArray, List.set_cons_zero, List.set_cons_succ]
            refine wpAnyH_take (i := 25) (oi := { dst := some 175, op := Op.binOp BinOp.eql 3 (Operand.tmp 174) (Operand.const (Value.int IntKind.i64 0)) 3, type := 4, pos := "law.go:253", after := #[{ on := 24, ground := Ground.data }, { on := 19, ground := Ground.guard }], guard := some (19, false) }) (v := ?v25c) rfl (by kernel_rfl) (by kernel_rfl) (by kernel_rfl) (fun _ _ _ h => h) (Or.inl ⟨by rfl, ?y25c⟩) (by assumption) ?r25c
            case y25c => (intro x hx; (try dsimp only at hx); go_simp; try with_reducible rfl)
            try simp only [Act.put, List.setIfInBounds_toArray, List.set_cons_zero, List.set_cons_succ]
            refine wpAnyH_ready (rs := [22]) (by kernel_rfl) (by simp) ?_
            refine AllReadyH.cons (o := { dst := some 172, op := Op.call { callee := Callee.value (Operand.func 15), args := #[Operand.tmp 170, Operand.tmp 171], argTypes := #[37, 54] }, type := 4, pos := "law.go:253", after := #[{ on := 20, ground := Ground.data }, { on := 21, ground := Ground.data }, { on := 19, ground := Ground.chain }, { on := 19, ground := Ground.guard }], guard := some (19, false) }) rfl (fun K hK => ?_) AllReadyH.nil
            go_simp
            go_at_call 15
            refine (J.see_x gj bm B P S _ x.k x.b pp e _ (HM5.out.below (drew_below _)).j HYO.out (by have := HGEO.out; omega) (by rw [J.jfold_len]; unfold J.start; rw [List.length_map, HBL.out]; have := HGEO.out; omega)).mono ?_
            rintro e7 u7 ⟨rfl, hj7, hg7⟩
            rw [HSEE.out]
            have HM7 := hide ((HM5.out.below (drew_below _)).see hj7 hg7)
            have hSnew : (fun u => u.cell? ⟨q22, 0, none⟩ = some (.int .i64 x.k) ∧ u.cell? ⟨q22, 1, none⟩ = some (.int .i64 x.b) ∧ u.cell? ⟨q22, 2, none⟩ = some (.int .i64 pp) ∧ u.cell? ⟨q22, 3, none⟩ = some (.int .i64 e) ∧ u.cell? ⟨q18, 0, none⟩ = some (.int .i64 x.k) ∧ u.cell? ⟨q18, 1, none⟩ = some (.int .i64 x.b)) u7 := s32_of HM7.out
            clear hj7 hg7
            go_wp2_with fail
            refine hK.out _ _ hSnew (fun hHeld22 => ?_)
            clear hK K hSnew
            clear hHeld
            have hHeld := hHeld22
            clear hHeld22
            try simp only [Act.put, List.setIfInBounds_toArray, List.set_cons_zero, List.set_cons_succ]
            refine wpAnyH_take (i := 26) (oi := { dst := some 176, op := Op.move (Operand.tmp 175), type := 4, pos := "law.go:253", after := #[{ on := 25, ground := Ground.data }, { on := 22, ground := Ground.chain }, { on := 19, ground := Ground.guard }], guard := some (19, false) }) (v := ?v26c) rfl (by kernel_rfl) (by kernel_rfl) (by kernel_rfl) (fun _ _ _ h => h) (Or.inl ⟨by rfl, ?y26c⟩) (by assumption) ?r26c
            case y26c => (intro x hx; (try dsimp only at hx); go_simp; try with_reducible rfl)
            try simp only [Act.put, List.setIfInBounds_toArray, List.set_cons_zero, List.set_cons_succ]
            refine wpAnyH_take (i := 27) (oi := { dst := some 177, op := Op.fieldAddr 54 (Operand.tmp 22) 3, type := 0, pos := "law.go:253", after := #[{ on := 26, ground := Ground.guard }], guard := some (26, false) }) (v := ?v27c) rfl (by kernel_rfl) (by kernel_rfl) (by kernel_rfl) (fun _ _ _ h => h) (Or.inl ⟨by rfl, ?y27c⟩) (by assumption) ?r27c
            case y27c => (intro x hx; (try dsimp only at hx); go_simp; try with_reducible rfl)
            try simp only [Act.put, List.setIfInBounds_toArray, List.set_cons_zero, List.set_cons_succ]
            refine wpAnyH_take (i := 28) (oi := { dst := some 178, op := Op.load 28 (Operand.tmp 177), type := 28, pos := "law.go:253", after := #[{ on := 27, ground := Ground.data }, { on := 26, ground := Ground.guard }], guard := some (26, false) }) (v := ?v28c) rfl (by kernel_rfl) (by kernel_rfl) (by kernel_rfl) (fun _ _ _ h => h) (Or.inl ⟨by rfl, ?y28c⟩) (by assumption) ?r28c
            case y28c => (intro x hx; (try dsimp only at hx); go_simp; try with_reducible rfl)
            try simp only [Act.put, List.setIfInBounds_toArray, List.set_cons_zero, List.set_cons_succ]
            refine wpAnyH_take (i := 29) (oi := { dst := some 179, op := Op.binOp BinOp.eql 3 (Operand.tmp 178) (Operand.const (Value.int IntKind.i64 44)) 3, type := 4, pos := "law.go:253", after := #[{ on := 28, ground := Ground.data }, { on := 26, ground := Ground.guard }], guard := some (26, false) }) (v := ?v29c) rfl (by kernel_rfl) (by kernel_rfl) (by kernel_rfl) (fun _ _ _ h => h) (Or.inl ⟨by rfl, ?y29c⟩) (by assumption) ?r29c
            case y29c => (intro x hx; (try dsimp only at hx); go_simp; try with_reducible rfl)
            try simp only [Act.put, List.setIfInBounds_toArray, List.set_cons_zero, List.set_cons_succ]
            refine wpAnyH_take (i := 30) (oi := { dst := some 180, op := Op.pick (Operand.tmp 176) (Operand.const (Value.bool true)) (Operand.tmp 179), type := 4, pos := "law.go:253", after := #[{ on := 26, ground := Ground.data }, { on := 29, ground := Ground.data }, { on := 19, ground := Ground.guard }], guard := some (19, false) }) (v := ?v30c) rfl (by kernel_rfl) (by kernel_rfl) (by kernel_rfl) (fun _ _ _ h => h) (Or.inl ⟨by rfl, ?y30c⟩) (by assumption) ?r30c
            case y30c => (intro x hx; (try dsimp only at hx); go_simp; try with_reducible rfl)
            try simp only [Act.put, List.setIfInBounds_toArray, List.set_cons_zero, List.set_cons_succ]
            refine wpAnyH_take (i := 31) (oi := { dst := some 181, op := Op.move (Operand.tmp 180), type := 4, pos := "law.go:253", after := #[{ on := 30, ground := Ground.data }, { on := 26, ground := Ground.chain }, { on := 19, ground := Ground.guard }], guard := some (19, false) }) (v := ?v31c) rfl (by kernel_rfl) (by kernel_rfl) (by kernel_rfl) (fun _ _ _ h => h) (Or.inl ⟨by rfl, ?y31c⟩) (by assumption) ?r31c
            case y31c => (intro x hx; (try dsimp only at hx); go_simp; try with_reducible rfl)
            try simp only [Act.put, List.setIfInBounds_toArray, List.set_cons_zero, List.set_cons_succ]
            refine wpAnyH_take (i := 32) (oi := { dst := some 182, op := Op.fieldAddr 54 (Operand.tmp 22) 3, type := 0, pos := "law.go:253", after := #[{ on := 31, ground := Ground.guard }], guard := some (31, false) }) (v := ?v32c) rfl (by kernel_rfl) (by kernel_rfl) (by kernel_rfl) (fun _ _ _ h => h) (Or.inl ⟨by rfl, ?y32c⟩) (by assumption) ?r32c
            case y32c => (intro x hx; (try dsimp only at hx); go_simp; try with_reducible rfl)
            try simp only [Act.put, List.setIfInBounds_toArray, List.set_cons_zero, List.set_cons_succ]
            refine wpAnyH_take (i := 33) (oi := { dst := some 183, op := Op.load 28 (Operand.tmp 182), type := 28, pos := "law.go:253", after := #[{ on := 32, ground := Ground.data }, { on := 31, ground := Ground.guard }], guard := some (31, false) }) (v := ?v33c) rfl (by kernel_rfl) (by kernel_rfl) (by kernel_rfl) (fun _ _ _ h => h) (Or.inl ⟨by rfl, ?y33c⟩) (by assumption) ?r33c
            case y33c => (intro x hx; (try dsimp only at hx); go_simp; try with_reducible rfl)
            try simp only [Act.put, List.setIfInBounds_toArray, List.set_cons_zero, List.set_cons_succ]
            refine wpAnyH_take (i := 34) (oi := { dst := some 184, op := Op.binOp BinOp.eql 3 (Operand.tmp 183) (Operand.const (Value.int IntKind.i64 45)) 3, type := 4, pos := "law.go:253", after := #[{ on := 33, ground := Ground.data }, { on := 31, ground := Ground.guard }], guard := some (31, false) }) (v := ?v34c) rfl (by kernel_rfl) (by kernel_rfl) (by kernel_rfl) (fun _ _ _ h => h) (Or.inl ⟨by rfl, ?y34c⟩) (by assumption) ?r34c
            case y34c => (intro x hx; (try dsimp only at hx); go_simp; try with_reducible rfl)
            try simp only [Act.put, List.setIfInBounds_toArray, List.set_cons_zero, List.set_cons_succ]
            refine wpAnyH_take (i := 35) (oi := { dst := some 185, op := Op.pick (Operand.tmp 181) (Operand.const (Value.bool true)) (Operand.tmp 184), type := 4, pos := "law.go:253", after := #[{ on := 31, ground := Ground.data }, { on := 34, ground := Ground.data }, { on := 19, ground := Ground.guard }], guard := some (19, false) }) (v := ?v35c) rfl (by kernel_rfl) (by kernel_rfl) (by kernel_rfl) (fun _ _ _ h => h) (Or.inl ⟨by rfl, ?y35c⟩) (by assumption) ?r35c
            case y35c => (intro x hx; (try dsimp only at hx); go_simp; try with_reducible rfl)
            try simp only [Act.put, List.setIfInBounds_toArray, List.set_cons_zero, List.set_cons_succ]
            refine wpAnyH_take (i := 36) (oi := { dst := some 186, op := Op.binOp BinOp.neq 4 (Operand.tmp 172) (Operand.tmp 185) 4, type := 4, pos := "law.go:253", after := #[{ on := 22, ground := Ground.data }, { on := 35, ground := Ground.data }, { on := 19, ground := Ground.guard }], guard := some (19, false) }) (v := ?v36c) rfl (by kernel_rfl) (by kernel_rfl) (by kernel_rfl) (fun _ _ _ h => h) (Or.inl ⟨by rfl, ?y36c⟩) (by assumption) ?r36c
            case y36c => (intro x hx; (try dsimp only at hx); go_simp; try with_reducible rfl)
            try simp only [Act.put, List.setIfInBounds_toArray, List.set_cons_zero, List.set_cons_succ]
            refine wpAnyH_take (i := 37) (oi := { dst := some 187, op := Op.pick (Operand.tmp 169) (Operand.const (Value.bool true)) (Operand.tmp 186), type := 4, pos := "law.go:253", after := #[{ on := 19, ground := Ground.data }, { on := 36, ground := Ground.data }], guard := none }) (v := ?v37c) rfl (by kernel_rfl) (by kernel_rfl) (by kernel_rfl) (fun _ _ _ h => h) (Or.inl ⟨by rfl, ?y37c⟩) (by assumption) ?r37c
            case y37c => (intro x hx; (try dsimp only at hx); go_simp; try with_reducible rfl)
            try simp only [Act.put, List.setIfInBounds_toArray, List.set_cons_zero, List.set_cons_succ]
            refine wpAnyH_done (by kernel_rfl) ?_ _
            go_wp2
            go_meet
            exact ⟨rfl, HM7.out⟩
          have q45 : (e == 45) = false := by simp [hec]
          have HSEE : Hid ((J.see P (J.jfold P (J.start true P bs) (C.tr.map Cmd.j)) ⟨x.k, x.b, pp, e⟩).isSome = false) := by rw [HSEE0.out]; unfold J.taken; exact decide_eq_false (by omega)
          clear hea heb hec
          refine wp_region_held_drew (S := (fun u => u.cell? ⟨q22, 0, none⟩ = some (.int .i64 x.k) ∧ u.cell? ⟨q22, 1, none⟩ = some (.int .i64 x.b) ∧ u.cell? ⟨q22, 2, none⟩ = some (.int .i64 pp) ∧ u.cell? ⟨q22, 3, none⟩ = some (.int .i64 e) ∧ u.cell? ⟨q18, 0, none⟩ = some (.int .i64 x.k) ∧ u.cell? ⟨q18, 1, none⟩ = some (.int .i64 x.b))) (by kernel_rfl) (s32_of (HM5.out.below (drew_below _))) (fun hHeld => ?_)
          refine wpAnyH_take (i := 0) (oi := { dst := some 150, op := Op.move (Operand.tmp 21), type := 46, pos := "law.go:253", after := #[], guard := none }) (v := ?v0d) rfl (by kernel_rfl) (by kernel_rfl) (by kernel_rfl) (fun _ _ _ h => h) (Or.inl ⟨by rfl, ?y0d⟩) (by assumption) ?r0d
          case y0d => (intro x hx; (try dsimp only at hx); go_simp; try with_reducible rfl)
          try simp only [Act.put, List.setIfInBounds_toArray, List.set_cons_zero, List.set_cons_succ]
          refine wpAnyH_take (i := 1) (oi := { dst := some 151, op := Op.call { callee := Callee.builtin Builtin.len, args := #[Operand.tmp 150], argTypes := #[46] }, type := 3, pos := "law.go:253", after := #[{ on := 0, ground := Ground.data }], guard := none }) (v := ?v1d) rfl (by kernel_rfl) (by kernel_rfl) (by kernel_rfl) (fun _ _ _ h => h) (Or.inl ⟨by rfl, ?y1d⟩) (by assumption) ?r1d
          case y1d => (intro x hx; (try dsimp only at hx); go_simp; try with_reducible rfl)
          try simp only [Act.put, List.setIfInBounds_toArray, List.set_cons_zero, List.set_cons_succ]
          refine wpAnyH_take (i := 2) (oi := { dst := some 152, op := Op.move (Operand.tmp 19), type := 3, pos := "law.go:253", after := #[], guard := none }) (v := ?v2d) rfl (by kernel_rfl) (by kernel_rfl) (by kernel_rfl) (fun _ _ _ h => h) (Or.inl ⟨by rfl, ?y2d⟩) (by assumption) ?r2d
          case y2d => (intro x hx; (try dsimp only at hx); go_simp; try with_reducible rfl)
          try simp only [Act.put, List.setIfInBounds_toArray, List.set_cons_zero, List.set_cons_succ]
          refine wpAnyH_take (i := 3) (oi := { dst := some 153, op := Op.binOp BinOp.add 3 (Operand.tmp 152) (Operand.const (Value.int IntKind.i64 1)) 3, type := 3, pos := "law.go:253", after := #[{ on := 2, ground := Ground.data }], guard := none }) (v := ?v3d) rfl (by kernel_rfl) (by kernel_rfl) (by kernel_rfl) (fun _ _ _ h => h) (Or.inl ⟨by rfl, ?y3d⟩) (by assumption) ?r3d
          case y3d => (intro x hx; (try dsimp only at hx); go_simp; try with_reducible rfl)
          try simp only [Act.put, List.setIfInBounds_toArray, List.set_cons_zero, List.set_cons_succ]
          refine wpAnyH_take (i := 4) (oi := { dst := some 154, op := Op.binOp BinOp.neq 3 (Operand.tmp 151) (Operand.tmp 153) 3, type := 4, pos := "law.go:253", after := #[{ on := 1, ground := Ground.data }, { on := 3, ground := Ground.data }], guard := none }) (v := ?v4d) rfl (by kernel_rfl) (by kernel_rfl) (by kernel_rfl) (fun _ _ _ h => h) (Or.inl ⟨by rfl, ?y4d⟩) (by assumption) ?r4d
          case y4d => (intro x hx; (try dsimp only at hx); go_simp; try with_reducible rfl)
          try simp only [Act.put, List.setIfInBounds_toArray, List.set_cons_zero, List.set_cons_succ]
          refine wpAnyH_take (i := 5) (oi := { dst := some 155, op := Op.move (Operand.tmp 154), type := 4, pos := "law.go:253", after := #[{ on := 4, ground := Ground.data }], guard := none }) (v := ?v5d) rfl (by kernel_rfl) (by kernel_rfl) (by kernel_rfl) (fun _ _ _ h => h) (Or.inl ⟨by rfl, ?y5d⟩) (by assumption) ?r5d
          case y5d => (intro x hx; (try dsimp only at hx); go_simp; try with_reducible rfl)
          try simp only [Act.put, List.setIfInBounds_toArray, List.set_cons_zero, List.set_cons_succ]
          refine wpAnyH_take (i := 6) (oi := { dst := some 156, op := Op.fieldAddr 54 (Operand.tmp 22) 0, type := 0, pos := "law.go:253", after := #[{ on := 5, ground := Ground.guard }], guard := some (5, false) }) (v := ?v6d) rfl (by kernel_rfl) (by kernel_rfl) (by kernel_rfl) (fun _ _ _ h => h) (Or.inl ⟨by rfl, ?y6d⟩) (by assumption) ?r6d
          case y6d => (intro x hx; (try dsimp only at hx); go_simp; try with_reducible rfl)
          try simp only [Act.put, List.setIfInBounds_toArray, List.set_cons_zero, List.set_cons_succ]
          refine wpAnyH_take (i := 7) (oi := { dst := some 157, op := Op.load 3 (Operand.tmp 156), type := 3, pos := "law.go:253", after := #[{ on := 6, ground := Ground.data }, { on := 5, ground := Ground.guard }], guard := some (5, false) }) (v := ?v7d) rfl (by kernel_rfl) (by kernel_rfl) (by kernel_rfl) (fun _ _ _ h => h) (Or.inl ⟨by rfl, ?y7d⟩) (by assumption) ?r7d
          case y7d => (intro x hx; (try dsimp only at hx); go_simp; try with_reducible rfl)
          try simp only [Act.put, List.setIfInBounds_toArray, List.set_cons_zero, List.set_cons_succ]
          refine wpAnyH_take (i := 8) (oi := { dst := some 158, op := Op.fieldAddr 45 (Operand.tmp 18) 0, type := 0, pos := "law.go:253", after := #[{ on := 5, ground := Ground.guard }], guard := some (5, false) }) (v := ?v8d) rfl (by kernel_rfl) (by kernel_rfl) (by kernel_rfl) (fun _ _ _ h => h) (Or.inl ⟨by rfl, ?y8d⟩) (by assumption) ?r8d
          case y8d => (intro x hx; (try dsimp only at hx); go_simp; try with_reducible rfl)
          try simp only [Act.put, List.setIfInBounds_toArray, List.set_cons_zero, List.set_cons_succ]
          refine wpAnyH_take (i := 9) (oi := { dst := some 159, op := Op.load 3 (Operand.tmp 158), type := 3, pos := "law.go:253", after := #[{ on := 8, ground := Ground.data }, { on := 5, ground := Ground.guard }], guard := some (5, false) }) (v := ?v9d) rfl (by kernel_rfl) (by kernel_rfl) (by kernel_rfl) (fun _ _ _ h => h) (Or.inl ⟨by rfl, ?y9d⟩) (by assumption) ?r9d
          case y9d => (intro x hx; (try dsimp only at hx); go_simp; try with_reducible rfl)
          try simp only [Act.put, List.setIfInBounds_toArray, List.set_cons_zero, List.set_cons_succ]
          refine wpAnyH_take (i := 10) (oi := { dst := some 160, op := Op.binOp BinOp.neq 3 (Operand.tmp 157) (Operand.tmp 159) 3, type := 4, pos := "law.go:253", after := #[{ on := 7, ground := Ground.data }, { on := 9, ground := Ground.data }, { on := 5, ground := Ground.guard }], guard := some (5, false) }) (v := ?v10d) rfl (by kernel_rfl) (by kernel_rfl) (by kernel_rfl) (fun _ _ _ h => h) (Or.inl ⟨by rfl, ?y10d⟩) (by assumption) ?r10d
          case y10d => (intro x hx; (try dsimp only at hx); go_simp; try with_reducible rfl)
          try simp only [Act.put, List.setIfInBounds_toArray, List.set_cons_zero, List.set_cons_succ]
          refine wpAnyH_take (i := 11) (oi := { dst := some 161, op := Op.pick (Operand.tmp 155) (Operand.const (Value.bool true)) (Operand.tmp 160), type := 4, pos := "law.go:253", after := #[{ on := 5, ground := Ground.data }, { on := 10, ground := Ground.data }], guard := none }) (v := ?v11d) rfl (by kernel_rfl) (by kernel_rfl) (by kernel_rfl) (fun _ _ _ h => h) (Or.inl ⟨by rfl, ?y11d⟩) (by assumption) ?r11d
          case y11d => (intro x hx; (try dsimp only at hx); go_simp; try with_reducible rfl)
          try simp only [Act.put, List.setIfInBounds_toArray, List.set_cons_zero, List.set_cons_succ]
          refine wpAnyH_take (i := 12) (oi := { dst := some 162, op := Op.move (Operand.tmp 161), type := 4, pos := "law.go:253", after := #[{ on := 11, ground := Ground.data }, { on := 5, ground := Ground.chain }], guard := none }) (v := ?v12d) rfl (by kernel_rfl) (by kernel_rfl) (by kernel_rfl) (fun _ _ _ h => h) (Or.inl ⟨by rfl, ?y12d⟩) (by assumption) ?r12d
          case y12d => (intro x hx; (try dsimp only at hx); go_simp; try with_reducible rfl)
          try simp only [Act.put, List.setIfInBounds_toArray, List.set_cons_zero, List.set_cons_succ]
          refine wpAnyH_take (i := 13) (oi := { dst := some 163, op := Op.fieldAddr 54 (Operand.tmp 22) 1, type := 0, pos := "law.go:253", after := #[{ on := 12, ground := Ground.guard }], guard := some (12, false) }) (v := ?v13d) rfl (by kernel_rfl) (by kernel_rfl) (by kernel_rfl) (fun _ _ _ h => h) (Or.inl ⟨by rfl, ?y13d⟩) (by assumption) ?r13d
          case y13d => (intro x hx; (try dsimp only at hx); go_simp; try with_reducible rfl)
          try simp only [Act.put, List.setIfInBounds_toArray, List.set_cons_zero, List.set_cons_succ]
          refine wpAnyH_take (i := 14) (oi := { dst := some 164, op := Op.load 3 (Operand.tmp 163), type := 3, pos := "law.go:253", after := #[{ on := 13, ground := Ground.data }, { on := 12, ground := Ground.guard }], guard := some (12, false) }) (v := ?v14d) rfl (by kernel_rfl) (by kernel_rfl) (by kernel_rfl) (fun _ _ _ h => h) (Or.inl ⟨by rfl, ?y14d⟩) (by assumption) ?r14d
          case y14d => (intro x hx; (try dsimp only at hx); go_simp; try with_reducible rfl)
          try simp only [Act.put, List.setIfInBounds_toArray, List.set_cons_zero, List.set_cons_succ]
          refine wpAnyH_take (i := 15) (oi := { dst := some 165, op := Op.fieldAddr 45 (Operand.tmp 18) 1, type := 0, pos := "law.go:253", after := #[{ on := 12, ground := Ground.guard }], guard := some (12, false) }) (v := ?v15d) rfl (by kernel_rfl) (by kernel_rfl) (by kernel_rfl) (fun _ _ _ h => h) (Or.inl ⟨by rfl, ?y15d⟩) (by assumption) ?r15d
          case y15d => (intro x hx; (try dsimp only at hx); go_simp; try with_reducible rfl)
          try simp only [Act.put, List.setIfInBounds_toArray, List.set_cons_zero, List.set_cons_succ]
          refine wpAnyH_take (i := 16) (oi := { dst := some 166, op := Op.load 3 (Operand.tmp 165), type := 3, pos := "law.go:253", after := #[{ on := 15, ground := Ground.data }, { on := 12, ground := Ground.guard }], guard := some (12, false) }) (v := ?v16d) rfl (by kernel_rfl) (by kernel_rfl) (by kernel_rfl) (fun _ _ _ h => h) (Or.inl ⟨by rfl, ?y16d⟩) (by assumption) ?r16d
          case y16d => (intro x hx; (try dsimp only at hx); go_simp; try with_reducible rfl)
          try simp only [Act.put, List.setIfInBounds_toArray, List.set_cons_zero, List.set_cons_succ]
          refine wpAnyH_take (i := 17) (oi := { dst := some 167, op := Op.binOp BinOp.neq 3 (Operand.tmp 164) (Operand.tmp 166) 3, type := 4, pos := "law.go:253", after := #[{ on := 14, ground := Ground.data }, { on := 16, ground := Ground.data }, { on := 12, ground := Ground.guard }], guard := some (12, false) }) (v := ?v17d) rfl (by kernel_rfl) (by kernel_rfl) (by kernel_rfl) (fun _ _ _ h => h) (Or.inl ⟨by rfl, ?y17d⟩) (by assumption) ?r17d
          case y17d => (intro x hx; (try dsimp only at hx); go_simp; try with_reducible rfl)
          try simp only [Act.put, List.setIfInBounds_toArray, List.set_cons_zero, List.set_cons_succ]
          refine wpAnyH_take (i := 18) (oi := { dst := some 168, op := Op.pick (Operand.tmp 162) (Operand.const (Value.bool true)) (Operand.tmp 167), type := 4, pos := "law.go:253", after := #[{ on := 12, ground := Ground.data }, { on := 17, ground := Ground.data }], guard := none }) (v := ?v18d) rfl (by kernel_rfl) (by kernel_rfl) (by kernel_rfl) (fun _ _ _ h => h) (Or.inl ⟨by rfl, ?y18d⟩) (by assumption) ?r18d
          case y18d => (intro x hx; (try dsimp only at hx); go_simp; try with_reducible rfl)
          try simp only [Act.put, List.setIfInBounds_toArray, List.set_cons_zero, List.set_cons_succ]
          refine wpAnyH_take (i := 19) (oi := { dst := some 169, op := Op.move (Operand.tmp 168), type := 4, pos := "law.go:253", after := #[{ on := 18, ground := Ground.data }, { on := 12, ground := Ground.chain }], guard := none }) (v := ?v19d) rfl (by kernel_rfl) (by kernel_rfl) (by kernel_rfl) (fun _ _ _ h => h) (Or.inl ⟨by rfl, ?y19d⟩) (by assumption) ?r19d
          case y19d => (intro x hx; (try dsimp only at hx); go_simp; try with_reducible rfl)
          try simp only [Act.put, List.setIfInBounds_toArray, List.set_cons_zero, List.set_cons_succ]
          refine wpAnyH_take (i := 20) (oi := { dst := some 170, op := Op.move (Operand.tmp 12), type := 37, pos := "law.go:253", after := #[{ on := 19, ground := Ground.guard }], guard := some (19, false) }) (v := ?v20d) rfl (by kernel_rfl) (by kernel_rfl) (by kernel_rfl) (fun _ _ _ h => h) (Or.inl ⟨by rfl, ?y20d⟩) (by assumption) ?r20d
          case y20d => (intro x hx; (try dsimp only at hx); go_simp; try with_reducible rfl)
          try simp only [Act.put, List.setIfInBounds_toArray, List.set_cons_zero, List.set_cons_succ]
          refine wpAnyH_take (i := 21) (oi := { dst := some 171, op := Op.load 54 (Operand.tmp 22), type := 54, pos := "law.go:253", after := #[{ on := 19, ground := Ground.guard }], guard := some (19, false) }) (v := ?v21d) rfl (by kernel_rfl) (by kernel_rfl) (by kernel_rfl) (fun _ _ _ h => h) (Or.inl ⟨by rfl, ?y21d⟩) (by assumption) ?r21d
          case y21d => (intro x hx; (try dsimp only at hx); go_simp; try with_reducible rfl)
          try simp only [Act.put, List.setIfInBounds_toArray, List.set_cons_zero, List.set_cons_succ]
          refine wpAnyH_take (i := 23) (oi := { dst := some 173, op := Op.fieldAddr 54 (Operand.tmp 22) 3, type := 0, pos := "law.go:253", after := #[{ on := 19, ground := Ground.guard }], guard := some (19, false) }) (v := ?v23d) rfl (by kernel_rfl) (by kernel_rfl) (by kernel_rfl) (fun _ _ _ h => h) (Or.inl ⟨by rfl, ?y23d⟩) (by assumption) ?r23d
          case y23d => (intro x hx; (try dsimp only at hx); go_simp; try with_reducible rfl)
          try simp only [Act.put, List.setIfInBounds_toArray, List.set_cons_zero, List.set_cons_succ]
          refine wpAnyH_take (i := 24) (oi := { dst := some 174, op := Op.load 28 (Operand.tmp 173), type := 28, pos := "law.go:253", after := #[{ on := 23, ground := Ground.data }, { on := 19, ground := Ground.guard }], guard := some (19, false) }) (v := ?v24d) rfl (by kernel_rfl) (by kernel_rfl) (by kernel_rfl) (fun _ _ _ h => h) (Or.inl ⟨by rfl, ?y24d⟩) (by assumption) ?r24d
          case y24d => (intro x hx; (try dsimp only at hx); go_simp; try with_reducible rfl)
          try simp only [Act.put, List.setIfInBounds_toArray, List.set_cons_zero, List.set_cons_succ]
          refine wpAnyH_take (i := 25) (oi := { dst := some 175, op := Op.binOp BinOp.eql 3 (Operand.tmp 174) (Operand.const (Value.int IntKind.i64 0)) 3, type := 4, pos := "law.go:253", after := #[{ on := 24, ground := Ground.data }, { on := 19, ground := Ground.guard }], guard := some (19, false) }) (v := ?v25d) rfl (by kernel_rfl) (by kernel_rfl) (by kernel_rfl) (fun _ _ _ h => h) (Or.inl ⟨by rfl, ?y25d⟩) (by assumption) ?r25d
          case y25d => (intro x hx; (try dsimp only at hx); go_simp; try with_reducible rfl)
          try simp only [Act.put, List.setIfInBounds_toArray, List.set_cons_zero, List.set_cons_succ]
          refine wpAnyH_ready (rs := [22]) (by kernel_rfl) (by simp) ?_
          refine AllReadyH.cons (o := { dst := some 172, op := Op.call { callee := Callee.value (Operand.func 15), args := #[Operand.tmp 170, Operand.tmp 171], argTypes := #[37, 54] }, type := 4, pos := "law.go:253", after := #[{ on := 20, ground := Ground.data }, { on := 21, ground := Ground.data }, { on := 19, ground := Ground.chain }, { on := 19, ground := Ground.guard }], guard := some (19, false) }) rfl (fun K hK => ?_) AllReadyH.nil
          go_simp
          go_at_call 15
          refine (J.see_x gj bm B P S _ x.k x.b pp e _ (HM5.out.below (drew_below _)).j HYO.out (by have := HGEO.out; omega) (by rw [J.jfold_len]; unfold J.start; rw [List.length_map, HBL.out]; have := HGEO.out; omega)).mono ?_
          rintro e7 u7 ⟨rfl, hj7, hg7⟩
          rw [HSEE.out]
          have HM7 := hide ((HM5.out.below (drew_below _)).see hj7 hg7)
          have hSnew : (fun u => u.cell? ⟨q22, 0, none⟩ = some (.int .i64 x.k) ∧ u.cell? ⟨q22, 1, none⟩ = some (.int .i64 x.b) ∧ u.cell? ⟨q22, 2, none⟩ = some (.int .i64 pp) ∧ u.cell? ⟨q22, 3, none⟩ = some (.int .i64 e) ∧ u.cell? ⟨q18, 0, none⟩ = some (.int .i64 x.k) ∧ u.cell? ⟨q18, 1, none⟩ = some (.int .i64 x.b)) u7 := s32_of HM7.out
          clear hj7 hg7
          go_wp2_with fail
          refine hK.out _ _ hSnew (fun hHeld22 => ?_)
          clear hK K hSnew
          clear hHeld
          have hHeld := hHeld22
          clear hHeld22
          try simp only [Act.put, List.setIfInBounds_toArray, List.set_cons_zero, List.set_cons_succ]
          refine wpAnyH_take (i := 26) (oi := { dst := some 176, op := Op.move (Operand.tmp 175), type := 4, pos := "law.go:253", after := #[{ on := 25, ground := Ground.data }, { on := 22, ground := Ground.chain }, { on := 19, ground := Ground.guard }], guard := some (19, false) }) (v := ?v26d) rfl (by kernel_rfl) (by kernel_rfl) (by kernel_rfl) (fun _ _ _ h => h) (Or.inl ⟨by rfl, ?y26d⟩) (by assumption) ?r26d
          case y26d => (intro x hx; (try dsimp only at hx); go_simp; try with_reducible rfl)
          try simp only [Act.put, List.setIfInBounds_toArray, List.set_cons_zero, List.set_cons_succ]
          refine wpAnyH_take (i := 27) (oi := { dst := some 177, op := Op.fieldAddr 54 (Operand.tmp 22) 3, type := 0, pos := "law.go:253", after := #[{ on := 26, ground := Ground.guard }], guard := some (26, false) }) (v := ?v27d) rfl (by kernel_rfl) (by kernel_rfl) (by kernel_rfl) (fun _ _ _ h => h) (Or.inl ⟨by rfl, ?y27d⟩) (by assumption) ?r27d
          case y27d => (intro x hx; (try dsimp only at hx); go_simp; try with_reducible rfl)
          try simp only [Act.put, List.setIfInBounds_toArray, List.set_cons_zero, List.set_cons_succ]
          refine wpAnyH_take (i := 28) (oi := { dst := some 178, op := Op.load 28 (Operand.tmp 177), type := 28, pos := "law.go:253", after := #[{ on := 27, ground := Ground.data }, { on := 26, ground := Ground.guard }], guard := some (26, false) }) (v := ?v28d) rfl (by kernel_rfl) (by kernel_rfl) (by kernel_rfl) (fun _ _ _ h => h) (Or.inl ⟨by rfl, ?y28d⟩) (by assumption) ?r28d
          case y28d => (intro x hx; (try dsimp only at hx); go_simp; try with_reducible rfl)
          try simp only [Act.put, List.setIfInBounds_toArray, List.set_cons_zero, List.set_cons_succ]
          refine wpAnyH_take (i := 29) (oi := { dst := some 179, op := Op.binOp BinOp.eql 3 (Operand.tmp 178) (Operand.const (Value.int IntKind.i64 44)) 3, type := 4, pos := "law.go:253", after := #[{ on := 28, ground := Ground.data }, { on := 26, ground := Ground.guard }], guard := some (26, false) }) (v := ?v29d) rfl (by kernel_rfl) (by kernel_rfl) (by kernel_rfl) (fun _ _ _ h => h) (Or.inl ⟨by rfl, ?y29d⟩) (by assumption) ?r29d
          case y29d => (intro x hx; (try dsimp only at hx); go_simp; try with_reducible rfl)
          try simp only [Act.put, List.setIfInBounds_toArray, List.set_cons_zero, List.set_cons_succ]
          refine wpAnyH_take (i := 30) (oi := { dst := some 180, op := Op.pick (Operand.tmp 176) (Operand.const (Value.bool true)) (Operand.tmp 179), type := 4, pos := "law.go:253", after := #[{ on := 26, ground := Ground.data }, { on := 29, ground := Ground.data }, { on := 19, ground := Ground.guard }], guard := some (19, false) }) (v := ?v30d) rfl (by kernel_rfl) (by kernel_rfl) (by kernel_rfl) (fun _ _ _ h => h) (Or.inl ⟨by rfl, ?y30d⟩) (by assumption) ?r30d
          case y30d => (intro x hx; (try dsimp only at hx); go_simp; try with_reducible rfl)
          try simp only [Act.put, List.setIfInBounds_toArray, List.set_cons_zero, List.set_cons_succ]
          refine wpAnyH_take (i := 31) (oi := { dst := some 181, op := Op.move (Operand.tmp 180), type := 4, pos := "law.go:253", after := #[{ on := 30, ground := Ground.data }, { on := 26, ground := Ground.chain }, { on := 19, ground := Ground.guard }], guard := some (19, false) }) (v := ?v31d) rfl (by kernel_rfl) (by kernel_rfl) (by kernel_rfl) (fun _ _ _ h => h) (Or.inl ⟨by rfl, ?y31d⟩) (by assumption) ?r31d
          case y31d => (intro x hx; (try dsimp only at hx); go_simp; try with_reducible rfl)
          try simp only [Act.put, List.setIfInBounds_toArray, List.set_cons_zero, List.set_cons_succ]
          refine wpAnyH_take (i := 32) (oi := { dst := some 182, op := Op.fieldAddr 54 (Operand.tmp 22) 3, type := 0, pos := "law.go:253", after := #[{ on := 31, ground := Ground.guard }], guard := some (31, false) }) (v := ?v32d) rfl (by kernel_rfl) (by kernel_rfl) (by kernel_rfl) (fun _ _ _ h => h) (Or.inl ⟨by rfl, ?y32d⟩) (by assumption) ?r32d
          case y32d => (intro x hx; (try dsimp only at hx); go_simp; try with_reducible rfl)
          try simp only [Act.put, List.setIfInBounds_toArray, List.set_cons_zero, List.set_cons_succ]
          refine wpAnyH_take (i := 33) (oi := { dst := some 183, op := Op.load 28 (Operand.tmp 182), type := 28, pos := "law.go:253", after := #[{ on := 32, ground := Ground.data }, { on := 31, ground := Ground.guard }], guard := some (31, false) }) (v := ?v33d) rfl (by kernel_rfl) (by kernel_rfl) (by kernel_rfl) (fun _ _ _ h => h) (Or.inl ⟨by rfl, ?y33d⟩) (by assumption) ?r33d
          case y33d => (intro x hx; (try dsimp only at hx); go_simp; try with_reducible rfl)
          try simp only [Act.put, List.setIfInBounds_toArray, List.set_cons_zero, List.set_cons_succ]
          refine wpAnyH_take (i := 34) (oi := { dst := some 184, op := Op.binOp BinOp.eql 3 (Operand.tmp 183) (Operand.const (Value.int IntKind.i64 45)) 3, type := 4, pos := "law.go:253", after := #[{ on := 33, ground := Ground.data }, { on := 31, ground := Ground.guard }], guard := some (31, false) }) (v := ?v34d) rfl (by kernel_rfl) (by kernel_rfl) (by kernel_rfl) (fun _ _ _ h => h) (Or.inl ⟨by rfl, ?y34d⟩) (by assumption) ?r34d
          case y34d => (intro x hx; (try dsimp only at hx); go_simp; try with_reducible rfl)
          try simp only [Act.put, List.setIfInBounds_toArray, List.set_cons_zero, List.set_cons_succ]
          refine wpAnyH_take (i := 35) (oi := { dst := some 185, op := Op.pick (Operand.tmp 181) (Operand.const (Value.bool true)) (Operand.tmp 184), type := 4, pos := "law.go:253", after := #[{ on := 31, ground := Ground.data }, { on := 34, ground := Ground.data }, { on := 19, ground := Ground.guard }], guard := some (19, false) }) (v := ?v35d) rfl (by kernel_rfl) (by kernel_rfl) (by kernel_rfl) (fun _ _ _ h => h) (Or.inl ⟨by rfl, ?y35d⟩) (by assumption) ?r35d
          case y35d => (intro x hx; (try dsimp only at hx); go_simp; try with_reducible rfl)
          try simp only [Act.put, List.setIfInBounds_toArray, List.set_cons_zero, List.set_cons_succ]
          refine wpAnyH_take (i := 36) (oi := { dst := some 186, op := Op.binOp BinOp.neq 4 (Operand.tmp 172) (Operand.tmp 185) 4, type := 4, pos := "law.go:253", after := #[{ on := 22, ground := Ground.data }, { on := 35, ground := Ground.data }, { on := 19, ground := Ground.guard }], guard := some (19, false) }) (v := ?v36d) rfl (by kernel_rfl) (by kernel_rfl) (by kernel_rfl) (fun _ _ _ h => h) (Or.inl ⟨by rfl, ?y36d⟩) (by assumption) ?r36d
          case y36d => (intro x hx; (try dsimp only at hx); go_simp; try with_reducible rfl)
          try simp only [Act.put, List.setIfInBounds_toArray, List.set_cons_zero, List.set_cons_succ]
          refine wpAnyH_take (i := 37) (oi := { dst := some 187, op := Op.pick (Operand.tmp 169) (Operand.const (Value.bool true)) (Operand.tmp 186), type := 4, pos := "law.go:253", after := #[{ on := 19, ground := Ground.data }, { on := 36, ground := Ground.data }], guard := none }) (v := ?v37d) rfl (by kernel_rfl) (by kernel_rfl) (by kernel_rfl) (fun _ _ _ h => h) (Or.inl ⟨by rfl, ?y37d⟩) (by assumption) ?r37d
          case y37d => (intro x hx; (try dsimp only at hx); go_simp; try with_reducible rfl)
          try simp only [Act.put, List.setIfInBounds_toArray, List.set_cons_zero, List.set_cons_succ]
          refine wpAnyH_done (by kernel_rfl) ?_ _
          go_wp2
          go_meet
          exact ⟨rfl, HM7.out⟩
        case rest =>
        obtain ⟨rfl, HM8⟩ := hcut
        clear HM5 HSEE0 
        obtain ⟨w8, hw8⟩ : ∃ u, u = wc := ⟨_, rfl⟩
        subst hw8
        obtain ⟨z0, z1, z2⟩ := cells3 (HM8.out.hd.blk (g := b4) (o := (.cells #[.int .i64 (B : Int), .int .i64 (P : Int), .int .i64 (S : Int)] 23 (0, 0))) (by simp))
        have hcp : (nt : Int) ≤ (c4 : Int) := by have := HN1.out; omega
        have hcp2 : nt ≤ c4 := by omega
        go_upto_region 35 with (first
          | (go_at_call 7; refine (J.new_ok B P S (some ⟨gm, 0, none⟩) B cm bs true _ HE0.out (by have h9 := marks_reads (HM8.out.hd.blk (g := gm) (o := .cells (bs.map Value.bool).toArray 4 (0, 0)) (by simp)); rw [HBL.out] at h9; exact h9)).mono ?_; rintro e10 u10 ⟨gj2, bm2, rfl, hj10, hb10, hg1, hg2⟩; have HJ10 := hide hj10; have HB10 := hide hb10; have HG2 := hide hg2; clear hj10 hb10 hg1 hg2 z0 z1 z2))
        go_wp2_with (first
          | (go_at_call 16; refine (J.replayed_any gj2 bm2 B P S (J.start true P bs) (some ⟨g4, 0, none⟩) nt _ (C.tr.map Cmd.j) _ HJ10.out (HRC.out _ ((HM8.out.below HB10.out).hd.blk (g := g4) (o := .cells cs4 54 (0, 0)) (by simp))) (by omega) (by have := HGEO.out; omega) (by unfold J.start; rw [List.length_map, HBL.out]; have := HGEO.out; omega) (fun y hy _ => by cases hy; have h8 := lt_of_block (HM8.out.hd.blk (g := g4) (o := .cells cs4 54 (0, 0)) (by simp)); have h9 := HG2.out; simp only; omega)).mono ?_; rintro e11 u11 ⟨rfl, hj11, hg11⟩; have HJ11 := hide hj11; have HB11 := hide (J.below_far1 HB10.out HB10.out.size hg11 HG2.out); obtain ⟨y0, y1, y2, y3⟩ := cells4 ((HM8.out.below HB11.out).hd.blk (g := q22) (o := (.cells #[.int .i64 x.k, .int .i64 x.b, .int .i64 pp, .int .i64 e] 54 (0, 0))) (by simp)); clear hj11 hg11)
          | (go_at_call 17; refine (J.refused_any gj2 bm2 B P S _ ⟨x.k, x.b, pp, e⟩ _ HJ11.out HYO.out (by have := HGEO.out; omega) (by rw [J.jfold_len]; unfold J.start; rw [List.length_map, HBL.out]; have := HGEO.out; omega)).mono ?_; rintro e12 u12 ⟨rfl, hg12⟩; rw [HREF.out]; have HM12 := hide (HM8.out.below (J.below_far1 HB11.out HB11.out.size hg12 HG2.out)); clear hg12 y0 y1 y2 y3))
        go_roundw
        case rel =>
          have HREL : ∃ (F : Nat → Prop) (C : Ch), JS w _ p gj bm [(bp, .cells #[.slice (some ⟨gd, 0, none⟩) d1 d1, .slice (some ⟨gs, 0, none⟩) d2 d2] 43 (0, 0)), (gd, .cells (zrow8 d1) 5 (0, 0)), (gs, .cells (zrow8 d2) 5 (0, 0)), (gm, .cells (bs.map Value.bool).toArray 4 (0, 0)), (b4, (.cells #[.int .i64 (B : Int), .int .i64 (P : Int), .int .i64 (S : Int)] 23 (0, 0)))] F C B P S (J.jfold P (J.start true P bs) (C.tr.map Cmd.j)) ∧ JFin C bs B P S (i + 1) := ⟨F', C', by rw [JStep.fold HTT.out]; exact HM12.out.less (fun z hz => List.mem_cons_of_mem _ (List.mem_cons_of_mem _ (List.mem_cons_of_mem _ hz))), HFIN.out⟩
          first | exact ⟨i + 1, by omega, by go_num, HREL⟩ | ((repeat apply Exists.intro); exact ⟨⟨i + 1, by omega, by go_num, HREL⟩, rfl⟩)
        case measure => simp [intOf]; omega
    · have dm : decide ((i : Int) < (on : Int)) = false := decide_eq_false (by omega)
      go_upto_region 37 with fail
      refine wp_region_held_drew (S := (fun u => u.cell? ⟨b4, 0, none⟩ = some (.int .i64 (B : Int)) ∧ u.cell? ⟨b4, 1, none⟩ = some (.int .i64 (P : Int)) ∧ u.cell? ⟨b4, 2, none⟩ = some (.int .i64 (S : Int)))) (by kernel_rfl) (cells3 (HM.out.hd.blk (g := b4) (o := (.cells #[.int .i64 (B : Int), .int .i64 (P : Int), .int .i64 (S : Int)] 23 (0, 0))) (by simp))) (fun hHeld => ?_)
      refine wpAnyH_take (i := 0) (oi := { dst := some 206, op := Op.load 23 (Operand.tmp 4), type := 23, pos := "law.go:260", after := #[], guard := none }) (v := ?v0e) rfl (by kernel_rfl) (by kernel_rfl) (by kernel_rfl) (fun _ _ _ h => h) (Or.inl ⟨by rfl, ?y0e⟩) (by assumption) ?r0e
      case y0e => (intro x hx; (try dsimp only at hx); go_simp; try with_reducible rfl)
      try simp only [Act.put, List.setIfInBounds_toArray, List.set_cons_zero, List.set_cons_succ]
      refine wpAnyH_take (i := 1) (oi := { dst := some 207, op := Op.move (Operand.tmp 11), type := 33, pos := "law.go:260", after := #[], guard := none }) (v := ?v1e) rfl (by kernel_rfl) (by kernel_rfl) (by kernel_rfl) (fun _ _ _ h => h) (Or.inl ⟨by rfl, ?y1e⟩) (by assumption) ?r1e
      case y1e => (intro x hx; (try dsimp only at hx); go_simp; try with_reducible rfl)
      try simp only [Act.put, List.setIfInBounds_toArray, List.set_cons_zero, List.set_cons_succ]
      refine wpAnyH_take (i := 2) (oi := { dst := some 208, op := Op.move (Operand.tmp 9), type := 27, pos := "law.go:260", after := #[], guard := none }) (v := ?v2e) rfl (by kernel_rfl) (by kernel_rfl) (by kernel_rfl) (fun _ _ _ h => h) (Or.inl ⟨by rfl, ?y2e⟩) (by assumption) ?r2e
      case y2e => (intro x hx; (try dsimp only at hx); go_simp; try with_reducible rfl)
      try simp only [Act.put, List.setIfInBounds_toArray, List.set_cons_zero, List.set_cons_succ]
      refine wpAnyH_ready (rs := [3]) (by kernel_rfl) (by simp) ?_
      refine AllReadyH.cons (o := { dst := some 209, op := Op.call { callee := Callee.value (Operand.func 9), args := #[Operand.tmp 208], argTypes := #[27] }, type := 46, pos := "law.go:260", after := #[{ on := 2, ground := Ground.data }], guard := none }) rfl (fun K hK => ?_) AllReadyH.nil
      go_simp
      go_at_call 9
      refine (Trace_any _ p F C (HM.out.below (drew_below _)).hd.ch (by have := HFI.out.tr; omega)).mono ?_
      rintro e9 u9 ⟨v9, rfl, ho9, hb9⟩
      obtain ⟨a9, c9, hv9⟩ := trace_shape ho9
      subst hv9
      have HRC := hide (trace_all ho9 HFI.out.tok)
      have HM9 := hide ((HM.out.below (drew_below _)).below hb9)
      have hSnew : (fun u => u.cell? ⟨b4, 0, none⟩ = some (.int .i64 (B : Int)) ∧ u.cell? ⟨b4, 1, none⟩ = some (.int .i64 (P : Int)) ∧ u.cell? ⟨b4, 2, none⟩ = some (.int .i64 (S : Int))) u9 := (cells3 (HM9.out.hd.blk (g := b4) (o := (.cells #[.int .i64 (B : Int), .int .i64 (P : Int), .int .i64 (S : Int)] 23 (0, 0))) (by simp)))
      clear ho9 hb9
      go_wp2_with fail
      refine hK.out _ _ hSnew (fun hHeld3 => ?_)
      clear hK K hSnew
      clear hHeld
      have hHeld := hHeld3
      clear hHeld3
      try simp only [Act.put, List.setIfInBounds_toArray, List.set_cons_zero, List.set_cons_succ]
      refine wpAnyH_ready (rs := [4]) (by kernel_rfl) (by simp) ?_
      refine AllReadyH.cons (o := { dst := some 210, op := Op.call { callee := Callee.value (Operand.func 18), args := #[Operand.tmp 206, Operand.tmp 207, Operand.const (Value.bool true), Operand.tmp 209], argTypes := #[23, 33, 4, 46] }, type := 4, pos := "law.go:260", after := #[{ on := 0, ground := Ground.data }, { on := 1, ground := Ground.data }, { on := 3, ground := Ground.data }, { on := 3, ground := Ground.chain }], guard := none }) rfl (fun K hK => ?_) AllReadyH.nil
      go_simp
      go_at_call 18
      refine (J.checks_walk B P S (some ⟨gm, 0, none⟩) B cm bs true a9 C.tr.length c9 (C.tr.map Cmd.j) _ (by have := HGEO.out; unfold J.Wf; omega) (by have := HGEO.out; unfold J.Wf; omega) (by have := HGEO.out; unfold J.Wf; omega) (by have h9 := marks_reads (HM9.out.hd.blk (g := gm) (o := .cells (bs.map Value.bool).toArray 4 (0, 0)) (by simp)); rw [HBL.out] at h9; exact h9) (by have := HGEO.out; omega) HRC.out (by have := HFI.out.tr; omega)).mono ?_
      rintro e10 u10 ⟨rfl, hb10⟩
      have HM10 := hide (HM9.out.below hb10)
      have hSnew : (fun u => u.cell? ⟨b4, 0, none⟩ = some (.int .i64 (B : Int)) ∧ u.cell? ⟨b4, 1, none⟩ = some (.int .i64 (P : Int)) ∧ u.cell? ⟨b4, 2, none⟩ = some (.int .i64 (S : Int))) u10 := (cells3 (HM10.out.hd.blk (g := b4) (o := (.cells #[.int .i64 (B : Int), .int .i64 (P : Int), .int .i64 (S : Int)] 23 (0, 0))) (by simp)))
      clear hb10
      go_wp2_with fail
      refine hK.out _ _ hSnew (fun hHeld4 => ?_)
      clear hK K hSnew
      clear hHeld
      have hHeld := hHeld4
      clear hHeld4
      try simp only [Act.put, List.setIfInBounds_toArray, List.set_cons_zero, List.set_cons_succ]
      refine wpAnyH_take (i := 5) (oi := { dst := some 8, op := Op.assign (Operand.tmp 210), type := 4, pos := "law.go:260", after := #[{ on := 4, ground := Ground.data }, { on := 4, ground := Ground.chain }, { on := 0, ground := Ground.phase }, { on := 1, ground := Ground.phase }, { on := 2, ground := Ground.phase }, { on := 3, ground := Ground.phase }, { on := 4, ground := Ground.phase }], guard := none }) (v := ?v5e) rfl (by kernel_rfl) (by kernel_rfl) (by kernel_rfl) (fun _ _ _ h => h) (Or.inl ⟨by rfl, ?y5e⟩) (by assumption) ?r5e
      case y5e => (intro x hx; (try dsimp only at hx); go_simp; try with_reducible rfl)
      try simp only [Act.put, List.setIfInBounds_toArray, List.set_cons_zero, List.set_cons_succ]
      refine wpAnyH_done (by kernel_rfl) ?_ _
      go_wp2
      go_ret
      exact ⟨rfl, HM10.out.hd.bel⟩
end Go.Proofs.Ytjhphkfpcpfdnaa
