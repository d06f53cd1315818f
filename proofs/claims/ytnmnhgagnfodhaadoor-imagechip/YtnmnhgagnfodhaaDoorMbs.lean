/-
  SEAT YtnmnhgagnfodhaaDoor: Vf.
-/
import Derived.Test.YtnmnhgagnfodhaaDoorMa
import Derived.Test.YtnmnhgagnfodhaaDoorMbr
import Derived.Deep.CutBlock
import Derived.Deep.RegionHeld3
namespace Go.Proofs.YtnmnhgagnfodhaaDoor.Cp
open Go.RowKit Go.Conc
set_option linter.unusedVariables false
set_option maxRecDepth 100000 in
theorem ic_no (w : World) (ba : Option Addr) (bn bc : Nat) (bad : List Int) (hR : ReadsI w ba bn bad) (hbn : bn ≤ 9223372036854775807) (sa : Option Addr) (n c : Nat) (xs : List Sp) (hS : ReadsS w sa n xs) (hn : n ≤ 9223372036854775807) (ht : Tab w) (hne : NewE 8 4 1 bad [] ≠ 0) :
  Calls Tryd.prog 3 #[.slice ba bn bc, .slice sa n c] w fun e w' => e = .returned (.bool true) ∧ Below w.heap.size w w' := by
 have HR := hide hR
 have HT := hide ht
 obtain ⟨ne, hnee⟩ : ∃ z, z = NewE 8 4 1 bad [] := ⟨_, rfl⟩
 have dne : (ne != 0) = true := by rw [hnee]; simpa using hne
 have HNE := hide hnee
 have HN0 := hide hne
 clear hR hS ht hnee hne
 go_enter Tryd.func3, Tryd.ntmps3
 go_wp2_with (first
  | (go_at_call 4; refine (heads_any _ HT.out).mono ?_; rintro e u1 ⟨rfl, b1⟩; have HB1 := hide b1; have HR1 := hide (HR.out.below b1); clear b1)
  | (go_at_call 5; refine (New_any _ 8 4 1 ba bn bc bad HR1.out hbn none 0 0 [] (readsF_nil _) (by omega)).mono ?_; rintro e u2 hnew; have hv1 := hnew.no HN0.out; rw [← HNE.out] at hv1; subst hv1; have HB2 := hide (below_trans HB1.out hnew.bel); clear hnew)
  | (go_at_call 6; refine (no_any _ _).mono ?_; rintro e u3 ⟨rfl, rfl⟩))
 go_ret
 exact ⟨rfl, HB2.out⟩
theorem pl_at' {w : World} {B k ln c : Nat} {a : Option Addr} {L : List Pl} (hl : ln = L.length) (h : w.ownsRow B 45 2 (.slice a ln c) ln (flatP L)) (hk : k < ln) : ∃ g q, a = some ⟨g, 0, none⟩ ∧ q ∈ L ∧ g < w.heap.size ∧ w.cell? ⟨g, k * 2, none⟩ = some (.int .i64 q.x) ∧ w.cell? ⟨g, k * 2 + 1, none⟩ = some (.int .i64 q.y) := by
 subst hl
 exact pl_at h hk
theorem hd_of {w u : World} {p : Nat} {F : Nat → Prop} {C : Ch} (h : ChipAt u p F C) (hf : ∀ k, F k → w.heap.size ≤ k) (hb : Below w.heap.size w u) : HD w u p F [] C := ⟨hb, h, hf, fun x hx => by cases hx⟩
theorem ownB_rd {w : World} {B g n c : Nat} {ms : List Bool} (h : OwnB w B g n c ms) (hl : ms.length = n) : ReadsB w (some ⟨g, 0, none⟩) n ms := by
 have h9 := h.reads n (Nat.le_refl _)
 rw [List.take_of_length_le (by omega)] at h9
 exact h9
set_option maxHeartbeats 8000000 in
set_option maxRecDepth 100000 in
theorem ic_yes (w : World) (ba : Option Addr) (bn bc : Nat) (bad : List Int) (hR : ReadsI w ba bn bad) (hbn : bn ≤ 9223372036854775807) (sa : Option Addr) (n c : Nat) (xs : List Sp) (hS : ReadsS w sa n xs) (hn : n ≤ 9223372036854775807) (ht : Tab w) (hne : NewE 8 4 1 bad [] = 0) :
  Calls Tryd.prog 3 #[.slice ba bn bc, .slice sa n c] w fun e w' => e = .returned (.bool true) ∧ Below w.heap.size w w' := by
 have HR := hide hR
 have HT := hide ht
 have HS := hide hS
 have HNE := hide hne
 obtain ⟨C0, hC0⟩ : ∃ C, C = newC 8 4 1 bad [] := ⟨_, rfl⟩
 have HC0 := hide hC0
 have HCI0 : Hid (CI C0 0) := by unfold Hid; rw [hC0]; exact new_ci bad
 clear hR hS ht hne hC0
 go_enter Tryd.func3, Tryd.ntmps3
 go_upto_region 6 with (first
  | (go_at_call 4; refine (heads_any _ HT.out).mono ?_; rintro e u1 ⟨rfl, b1⟩; have HB1 := hide b1; have HR1 := hide (HR.out.below b1); clear b1)
  | (go_at_call 5; refine (New_any _ 8 4 1 ba bn bc bad HR1.out hbn none 0 0 [] (readsF_nil _) (by omega)).mono ?_; rintro e u2 hnew; obtain ⟨p, hE, hch⟩ := hnew.yes HNE.out; subst hE; have HH0 : Hid (∃ F, HD w u2 p F [] C0) := ⟨_, ⟨below_trans HB1.out hnew.bel, (by rw [HC0.out]; exact hch), (fun k hk => by have h9 := hk.1; have := HB1.out.size; omega), (fun x hx => by cases hx)⟩⟩; clear hnew hch)
  | (go_at_call 6; refine (no_any _ _).mono ?_; rintro e u3 ⟨rfl, hu3⟩; subst u3))
 have HI0 : Hid (∃ (F : Nat → Prop) (C : Ch), HD w u2 p F [] C ∧ CI C 0) := by
  obtain ⟨F, h9⟩ := HH0.out
  exact ⟨F, C0, h9, HCI0.out⟩
 clear HH0 HCI0 HC0 HNE HR HR1
 go_wp2
 go_loopw [7] (fun s7 wr => ∃ i : Nat, i ≤ n ∧ i ≤ 40 ∧ s7 = .int .i64 i ∧ Hid (∃ (F : Nat → Prop) (C : Ch), HD w wr p F [] C ∧ CI C i)) (fun s7 _ => 40 - (intOf s7).toNat)
 case atStart => exact ⟨0, Nat.zero_le _, Nat.zero_le _, rfl, HI0⟩
 case round =>
  clear HI0 HB1
  obtain ⟨i, hi, hi40, rfl, HQ⟩ := hrel
  obtain ⟨F, C, hM, hci⟩ := HQ.out
  have HM := hide hM
  have HCI := hide hci
  have HPO := hide hM.ch.pok
  clear HQ hM hci
  by_cases hlt : i < n ∧ i < 40
  ·obtain ⟨hln, hl40⟩ := hlt
   have d1 : decide ((i : Int) < (n : Int)) = true := decide_eq_true (by omega)
   have d2 : decide ((i : Int) < 40) = true := decide_eq_true (by omega)
   have i1 : (i : Int) < (n : Int) := by omega
   obtain ⟨gS, oS, s, hsa, hso, k0, k1, k2, k3, k4, k5⟩ := HS.out.pos hln
   subst hsa
   have HSO := hide hso
   have HST : Hid (∀ u : World, Below w.heap.size w u → (u.cell? ⟨gS, oS + i * 6, none⟩ = some (.int .i64 s.k) ∧ u.cell? ⟨gS, oS + i * 6 + 1, none⟩ = some (.int .i64 s.b) ∧ u.cell? ⟨gS, oS + i * 6 + 2, none⟩ = some (.int .i64 s.p) ∧ u.cell? ⟨gS, oS + i * 6 + 3, none⟩ = some (.int .i64 s.t) ∧ u.cell? ⟨gS, oS + i * 6 + 4, none⟩ = some (.slice s.da s.dn s.dc) ∧ u.cell? ⟨gS, oS + i * 6 + 5, none⟩ = some (.int .u8 s.f))) := fun u hb => ⟨(hb.cell (block_lt_of_cell k0)).trans k0, (hb.cell (block_lt_of_cell k1)).trans k1, (hb.cell (block_lt_of_cell k2)).trans k2, (hb.cell (block_lt_of_cell k3)).trans k3, (hb.cell (block_lt_of_cell k4)).trans k4, (hb.cell (block_lt_of_cell k5)).trans k5⟩
   clear hso k0 k1 k2 k3 k4 k5
   obtain ⟨C', hC'⟩ : ∃ D, D = doneC C s := ⟨_, rfl⟩
   have HC' := hide hC'
   have HCI' : Hid (CI C' (i + 1)) := by rw [HC'.out]; exact done_ci HCI.out s
   clear hC'
   go_upto_region 10 with (first | (go_at_call 7; refine (Image_any _ p _ C HM.out.ch HCI.out.ok).mono ?_; rintro eA9 vA hI; obtain ⟨gcA, ccA, gmA, cmA, oA, rfl, hc1, hc2, hm, hrd⟩ := img_held HM.out HCI.out hI; have HM1 := hide hm; have HRDA := hide hrd; have HCCA := hide (And.intro hc1 hc2); clear hI hm hrd hc1 hc2))
   clear HM
   have HM2 := hide ((HM1.out.below (below_alloc vA (.cells #[.int .i64 8, .int .i64 4, .int .i64 1, .slice (some ⟨gcA, 0, none⟩) 10016 ccA, .slice (some ⟨gmA, 0, none⟩) 8 cmA] 35))).hold (alloc_new vA (.cells #[.int .i64 8, .int .i64 4, .int .i64 1, .slice (some ⟨gcA, 0, none⟩) 10016 ccA, .slice (some ⟨gmA, 0, none⟩) 8 cmA] 35)) (fun hz => by have := HM1.out.ch.fin _ hz; omega) HM1.out.bel.size)
   generalize hUA : vA.alloc (.cells #[.int .i64 8, .int .i64 4, .int .i64 1, .slice (some ⟨gcA, 0, none⟩) 10016 ccA, .slice (some ⟨gmA, 0, none⟩) 8 cmA] 35) = UA at HM2 ⊢
   generalize hqA : vA.heap.size = q8 at HM2 ⊢
   clear hUA hqA HM1
   obtain ⟨k0, k1, k2, k3, k4, k5⟩ := HST.out _ HM2.out.bel
   go_upto_region 11 with (first | (go_at_call 8; refine (done_any HM2.out HCI.out (by omega) s (HSO.out.rd.below HM2.out.bel) HSO.out.dn HSO.out.f HSO.out.t).mono ?_; rintro e4 u4 ⟨rfl, hm4⟩; rw [← HC'.out] at hm4; obtain ⟨F', hm4⟩ := hm4; have HM4 := hide hm4; clear hm4 k0 k1 k2 k3 k4 k5))
   clear HM2
   go_upto_region 12 with (first | (go_at_call 7; refine (Image_any _ p _ C' HM4.out.ch HCI'.out.ok).mono ?_; rintro eB9 vB hI; obtain ⟨gcB, ccB, gmB, cmB, oB, rfl, hc1, hc2, hm, hrd⟩ := img_held HM4.out HCI'.out hI; have HM5 := hide hm; have HRDB := hide hrd; have HCCB := hide (And.intro hc1 hc2); clear hI hm hrd hc1 hc2))
   clear HM4
   have HM6 := hide ((HM5.out.below (below_alloc vB (.cells #[.int .i64 8, .int .i64 4, .int .i64 1, .slice (some ⟨gcB, 0, none⟩) 10016 ccB, .slice (some ⟨gmB, 0, none⟩) 8 cmB] 35))).hold (alloc_new vB (.cells #[.int .i64 8, .int .i64 4, .int .i64 1, .slice (some ⟨gcB, 0, none⟩) 10016 ccB, .slice (some ⟨gmB, 0, none⟩) 8 cmB] 35)) (fun hz => by have := HM5.out.ch.fin _ hz; omega) HM5.out.bel.size)
   generalize hUB : vB.alloc (.cells #[.int .i64 8, .int .i64 4, .int .i64 1, .slice (some ⟨gcB, 0, none⟩) 10016 ccB, .slice (some ⟨gmB, 0, none⟩) 8 cmB] 35) = UB at HM6 ⊢
   generalize hqB : vB.heap.size = q9 at HM6 ⊢
   clear hUB hqB HM5
   obtain ⟨x0, x1, x2, x3, x4⟩ := cells5 (HM6.out.blk (g := q8) (o := (.cells #[.int .i64 8, .int .i64 4, .int .i64 1, .slice (some ⟨gcA, 0, none⟩) 10016 ccA, .slice (some ⟨gmA, 0, none⟩) 8 cmA] 35 (0, 0))) (by simp))
   obtain ⟨y0, y1, y2, y3, y4⟩ := cells5 (HM6.out.blk (g := q9) (o := (.cells #[.int .i64 8, .int .i64 4, .int .i64 1, .slice (some ⟨gcB, 0, none⟩) 10016 ccB, .slice (some ⟨gmB, 0, none⟩) 8 cmB] 35 (0, 0))) (by simp))
   obtain ⟨L, hL⟩ : ∃ L, L = dfL (imgL C) (imgL C') (mks C) (mks C') 313 4 32 := ⟨_, rfl⟩
   have HL := hide hL
   have HTO : Hid (∀ q ∈ L, touB s q.x q.y = true) := by
    intro q hq
    have hp' := HM6.out.ch.pok
    have hci9 := HCI'.out
    rw [hL] at hq
    rw [HC'.out] at hq hp' hci9
    exact diff_touched HCI.out s hci9 HPO.out hp' hq
   clear hL
   go_upto_region 15 with (first
    | (go_at_call 9; refine (diff_img (some ⟨gcA, 0, none⟩) (some ⟨gmA, 0, none⟩) (some ⟨gcB, 0, none⟩) (some ⟨gmB, 0, none⟩) ccA cmA ccB cmB (imgL C) (imgL C') (mks C) (mks C') _ (HRDA.out _ (HM6.out.blk (g := gcA) (o := oA) (by simp))) (marks_row (mks_len HCI.out) (HM6.out.blk (g := gmA) (o := (Obj.cells ((mks C).map Value.bool).toArray 4 (0, 0))) (by simp))) (HRDB.out _ (HM6.out.blk (g := gcB) (o := oB) (by simp))) (marks_row (mks_len HCI'.out) (HM6.out.blk (g := gmB) (o := (Obj.cells ((mks C').map Value.bool).toArray 4 (0, 0))) (by simp))) HCCA.out HCCB.out).mono ?_; rintro e7 u7 ⟨v7, rfl, ho7, hb7⟩; rw [← HL.out] at ho7; obtain ⟨a7, c7, hv7⟩ := pl_shape ho7; subst hv7; have HL7 := hide ho7; have HM7 := hide ((HM6.out.below hb7).less (K' := []) (fun z hz => by cases hz)); clear ho7 hb7 x0 x1 x2 x3 x4 y0 y1 y2 y3 y4)
    | (go_at_call 6; refine (no_any _ _).mono ?_; rintro e8 u8 ⟨rfl, hu8⟩; subst u8))
   have HLQ := HL
   clear HM6 HRDA HRDB HCCA HCCB HL HCI HPO
   obtain ⟨ln, hln9⟩ : ∃ m, m = L.length := ⟨_, rfl⟩
   rw [← hln9] at HL7 ⊢
   have HLN := hide hln9
   have hll : ln ≤ 64 := by rw [hln9, HLQ.out]; exact dfL_len _ _ _ _ _ _ _
   clear hln9
   go_wp2
   go_loopw [12] (fun s12 wk => ∃ k : Nat, k ≤ ln ∧ s12 = .int .i64 k ∧ Hid (HD w wk p F' [] C') ∧ Hid (wk.ownsRow UB.heap.size 45 2 (.slice a7 ln c7) ln (flatP L))) (fun s12 _ => ln - (intOf s12).toNat)
   case atStart => exact ⟨0, Nat.zero_le _, rfl, HM7, HL7⟩
   case round =>
    clear HM7 HL7
    obtain ⟨k, hk, rfl, HMr, HLr⟩ := hrel
    by_cases hlk : k < ln
    ·have dk : decide ((k : Int) < (ln : Int)) = true := decide_eq_true (by omega)
     have dk1 : (k : Int) < (ln : Int) := by omega
     obtain ⟨gl, q, rfl, hq, hgl, l0, l1⟩ := pl_at' HLN.out HLr.out hlk
     have HTOU := hide (HTO.out q hq)
     go_upto_region 18 with fail
     refine wp_region_held_drew (S := (fun u => (u.cell? ⟨gS, oS + i * 6, none⟩ = some (.int .i64 s.k) ∧ u.cell? ⟨gS, oS + i * 6 + 1, none⟩ = some (.int .i64 s.b) ∧ u.cell? ⟨gS, oS + i * 6 + 2, none⟩ = some (.int .i64 s.p) ∧ u.cell? ⟨gS, oS + i * 6 + 3, none⟩ = some (.int .i64 s.t) ∧ u.cell? ⟨gS, oS + i * 6 + 4, none⟩ = some (.slice s.da s.dn s.dc) ∧ u.cell? ⟨gS, oS + i * 6 + 5, none⟩ = some (.int .u8 s.f)) ∧ u.cell? ⟨gl, k * 2, none⟩ = some (.int .i64 q.x) ∧ u.cell? ⟨gl, k * 2 + 1, none⟩ = some (.int .i64 q.y))) (by kernel_rfl) (⟨HST.out _ (HMr.out.below (drew_below _)).bel, l0, l1⟩) (fun hHeld => ?_)
     refine tk 0 ?_
     refine tk 1 ?_
     refine tk 2 ?_
     refine tk 3 ?_
     refine tk 4 ?_
     refine tk 5 ?_
     refine tk 6 ?_
     refine tk 7 ?_
     refine rd 8 (fun K hK => ?_)
     go_simp
     go_at_call 10
     refine (touched_any s q.x q.y _).mono ?_
     rintro e9 u9 ⟨rfl, hb9⟩
     rw [HTOU.out]
     have HM9 := hide ((HMr.out.below (drew_below _)).below hb9)
     have HL9 := hide (owns_bel (owns_bel HLr.out (drew_below _)) hb9)
     have hSnew : (fun u => (u.cell? ⟨gS, oS + i * 6, none⟩ = some (.int .i64 s.k) ∧ u.cell? ⟨gS, oS + i * 6 + 1, none⟩ = some (.int .i64 s.b) ∧ u.cell? ⟨gS, oS + i * 6 + 2, none⟩ = some (.int .i64 s.p) ∧ u.cell? ⟨gS, oS + i * 6 + 3, none⟩ = some (.int .i64 s.t) ∧ u.cell? ⟨gS, oS + i * 6 + 4, none⟩ = some (.slice s.da s.dn s.dc) ∧ u.cell? ⟨gS, oS + i * 6 + 5, none⟩ = some (.int .u8 s.f)) ∧ u.cell? ⟨gl, k * 2, none⟩ = some (.int .i64 q.x) ∧ u.cell? ⟨gl, k * 2 + 1, none⟩ = some (.int .i64 q.y)) u9 := ⟨HST.out _ HM9.out.bel, (hb9.cell (Nat.lt_of_lt_of_le hgl (Nat.le_refl _))).trans l0, (hb9.cell (Nat.lt_of_lt_of_le hgl (Nat.le_refl _))).trans l1⟩
     clear hb9
     go_wp2_with fail
     clear hHeld
     refine hK.out _ _ hSnew (fun hHeld => ?_)
     clear hK K hSnew
     try simp only [Act.put, zSt, zS0, zS1]
     refine tk 9 ?_
     refine wpAnyH_done (by kernel_rfl) ?_ _
     go_wp2
     go_roundw
     case rel => exact ⟨k + 1, by omega, by go_num, HM9, HL9⟩
     case measure => simp [intOf]; omega
    ·have dk : decide ((k : Int) < (ln : Int)) = false := decide_eq_false (by omega)
     go_wp2
     go_roundw
     case rel => exact ⟨i + 1, by omega, by omega, by go_num, F', C', HMr.out, HCI'.out⟩
     case measure => simp [intOf]; omega
  ·have hex : (i < n ∧ decide ((i : Int) < (n : Int)) = true ∧ decide ((i : Int) < 40) = false) ∨ (¬ i < n ∧ decide ((i : Int) < (n : Int)) = false) := by
    by_cases hin : i < n
    ·exact Or.inl ⟨hin, decide_eq_true (by omega), decide_eq_false (by omega)⟩
    ·exact Or.inr ⟨hin, decide_eq_false (by omega)⟩
   clear hlt HPO HS
   rcases hex with ⟨i2, d1, d2⟩ | ⟨i2, d1⟩
   all_goals
    have hpo := HM.out.ch.pok
    have hzl : (imgL C).length = 10016 := by rw [img_len hpo HCI.out.ok, HCI.out.B, HCI.out.P, HCI.out.S]; rfl
    have hzb := img_byt hpo
    have hml := mks_len HCI.out
    obtain ⟨zs, hzs⟩ : ∃ z, z = imgL C := ⟨_, rfl⟩
    obtain ⟨ms, hms⟩ : ∃ z, z = mks C := ⟨_, rfl⟩
    obtain ⟨M, hMok, hMb, hMp, hMs, hMc, hMm, hMn⟩ := img_of (b := 8) (p := 4) (s := 1) hd_chk hzl hml hzb
    obtain ⟨np, hnp⟩ : ∃ m, m = (packL M).length := ⟨_, rfl⟩
    have hnpl : np ≤ 900000000 := by rw [hnp]; exact pack_len M hMok
    rw [← hzs] at hzl hMc
    rw [← hms] at hml hMm
    have HMK : Hid (M.Ok ∧ (8 : Int) = (M.b : Int) ∧ (4 : Int) = (M.p : Int) ∧ (1 : Int) = (M.s : Int) ∧ M.cs = zs ∧ M.ms = ms ∧ M.b = 8) := ⟨hMok, hMb, hMp, hMs, hMc, hMm, hMn⟩
    have HNP := hide hnp
    have HZL := hide hzl
    have HML := hide hml
    have HZS := hide hzs
    have HMS := hide hms
    clear hpo hzb hMok hMb hMp hMs hMc hMm hMn hnp hzs hms hzl hml
    go_upto_region 21 with (first | (go_at_call 7; refine (Image_any _ p _ C HM.out.ch HCI.out.ok).mono ?_; rintro eT9 vT hI; obtain ⟨gcT, ccT, gmT, cmT, oT, rfl, hc1, hc2, hm, hrd⟩ := img_held HM.out HCI.out hI; have HM1 := hide hm; have HRDT := hide hrd; have HCCT := hide (And.intro hc1 hc2); clear hI hm hrd hc1 hc2))
    clear HM
    have HM2 := hide ((HM1.out.below (below_alloc vT (.cells #[.int .i64 8, .int .i64 4, .int .i64 1, .slice (some ⟨gcT, 0, none⟩) 10016 ccT, .slice (some ⟨gmT, 0, none⟩) 8 cmT] 35))).hold (alloc_new vT (.cells #[.int .i64 8, .int .i64 4, .int .i64 1, .slice (some ⟨gcT, 0, none⟩) 10016 ccT, .slice (some ⟨gmT, 0, none⟩) 8 cmT] 35)) (fun hz => by have := HM1.out.ch.fin _ hz; omega) HM1.out.bel.size)
    generalize hUT : vT.alloc (.cells #[.int .i64 8, .int .i64 4, .int .i64 1, .slice (some ⟨gcT, 0, none⟩) 10016 ccT, .slice (some ⟨gmT, 0, none⟩) 8 cmT] 35) = UT at HM2 ⊢
    generalize hqT : vT.heap.size = q13 at HM2 ⊢
    clear hUT hqT HM1
    have HT1 : Hid (TL w UT q13 gcT ccT gmT cmT zs ms) := ⟨HM2.out.bel, HT.out.below HM2.out.bel, by rw [HZS.out]; exact HRDT.out _ (HM2.out.blk (g := gcT) (o := oT) (by simp)), by rw [HMS.out]; exact marks_row (mks_len HCI.out) (HM2.out.blk (g := gmT) (o := (Obj.cells ((mks C).map Value.bool).toArray 4 (0, 0))) (by simp)), HM2.out.blk (g := q13) (o := (.cells #[.int .i64 8, .int .i64 4, .int .i64 1, .slice (some ⟨gcT, 0, none⟩) 10016 ccT, .slice (some ⟨gmT, 0, none⟩) 8 cmT] 35 (0, 0))) (by simp)⟩
    clear HM2 HRDT HZS HMS HCI
    obtain ⟨x0, x1, x2, x3, x4⟩ := cells5 HT1.out.bx
    go_upto_region 22 with (first
     | (go_at_call 11; refine (packs_n HMK.out.1 HMK.out.2.1 HMK.out.2.2.1 HMK.out.2.2.2.1 HMK.out.2.2.2.2.1 HMK.out.2.2.2.2.2.1 HMK.out.2.2.2.2.2.2 _ HT1.out.rd HT1.out.rb (by omega) HCCT.out.1 HCCT.out.2 HT1.out.tab).mono ?_; rintro e5 u5 ⟨gb, cb, rfl, ho5, hb5⟩; rw [← HNP.out] at ho5 ⊢; have HT5 := hide (HT1.out.below hb5); have HO5 := hide ho5; clear ho5 hb5 x0 x1 x2 x3 x4))
    clear HT1
    obtain ⟨q1, q2, q3, q4⟩ := own_caps HO5.out
    go_upto_region 23 with (first
     | (go_at_call 12; refine (read_n gb 0 np cb (packL M) _ HNP.out.symm (own_rd HO5.out (pack_byt M HMK.out.1)) (by omega) q1 q2 q4 HT5.out.tab).mono ?_; rintro e6 u6 ⟨hres, hb6⟩; obtain ⟨gx, cx, gy, rfl, ho6, hm6⟩ := res_of HMK.out.1 HMK.out.2.1 HMK.out.2.2.1 HMK.out.2.2.2.1 HMK.out.2.2.2.2.1 HMK.out.2.2.2.2.2.1 HMK.out.2.2.2.2.2.2 HZL.out hres; have HT6 := hide (HT5.out.below hb6); have HO6 := hide ho6; have HM6 := hide hm6; clear ho6 hm6 hb6 hres q1 q2 q3 q4))
    clear HT5 HO5
    have hcx := own_caps HO6.out
    have HCX : Hid (10016 ≤ cx ∧ cx ≤ 9223372036854775807) := ⟨hcx.1, hcx.2.1⟩
    clear hcx
    have HT7 := hide (HT6.out.below (below_alloc u6 (.cells #[.int .i64 8, .int .i64 4, .int .i64 1, .slice (some ⟨gx, 0, none⟩) 10016 cx, .slice (some ⟨gy, 0, none⟩) 8 8] 35)))
    have HX7 : Hid (TL w _ u6.heap.size gx cx gy 8 zs ms) := ⟨HT7.out.bel, HT7.out.tab, Reads.below (own_rd HO6.out (by have := HT6.out.rd.2.1; exact this)) (below_alloc u6 (.cells #[.int .i64 8, .int .i64 4, .int .i64 1, .slice (some ⟨gx, 0, none⟩) 10016 cx, .slice (some ⟨gy, 0, none⟩) 8 8] 35)), ReadsB.below (ownB_rd HM6.out HML.out) (below_alloc u6 (.cells #[.int .i64 8, .int .i64 4, .int .i64 1, .slice (some ⟨gx, 0, none⟩) 10016 cx, .slice (some ⟨gy, 0, none⟩) 8 8] 35)), alloc_new u6 (.cells #[.int .i64 8, .int .i64 4, .int .i64 1, .slice (some ⟨gx, 0, none⟩) 10016 cx, .slice (some ⟨gy, 0, none⟩) 8 8] 35)⟩
    generalize hUX : u6.alloc (.cells #[.int .i64 8, .int .i64 4, .int .i64 1, .slice (some ⟨gx, 0, none⟩) 10016 cx, .slice (some ⟨gy, 0, none⟩) 8 8] 35) = UX at HT7 HX7 ⊢
    generalize hqx : u6.heap.size = q16 at HX7 ⊢
    clear hUX hqx HT6 HO6 HM6
    obtain ⟨x0, x1, x2, x3, x4⟩ := cells5 HT7.out.bx
    obtain ⟨y0, y1, y2, y3, y4⟩ := cells5 HX7.out.bx
    go_upto_region 25 with (first
     | (go_at_call 6; refine (no_any _ _).mono ?_; rintro e8 u8 ⟨rfl, hu8⟩; subst u8)
     | (go_at_call 13; refine (alike_eq 8 4 1 (some ⟨gx, 0, none⟩) (some ⟨gcT, 0, none⟩) 10016 cx ccT zs (some ⟨gy, 0, none⟩) (some ⟨gmT, 0, none⟩) 8 8 cmT ms _ HX7.out.rd HT7.out.rd HX7.out.rb HT7.out.rb (by omega)).mono ?_; rintro e9 u9 ⟨rfl, hb9⟩; have HTa := hide (HT7.out.below hb9); have HXa := hide (HX7.out.below hb9); clear hb9 x0 x1 x2 x3 x4 y0 y1 y2 y3 y4))
    clear HT7 HX7
    obtain ⟨y0, y1, y2, y3, y4⟩ := cells5 HXa.out.bx
    go_upto_region 26 with (first
     | (go_at_call 14; refine (Load_any _ 8 4 1 (some ⟨gx, 0, none⟩) 10016 cx HCX.out.1 zs HXa.out.rd (some ⟨gy, 0, none⟩) 8 8 ms HXa.out.rb none 0 0 [] (readsF_nil _) (by omega)).mono ?_; rintro e7 u7 hld; obtain ⟨p2, hE, hch⟩ := hld.yes loadE_zero; subst hE; have HT8 := hide (HTa.out.below hld.bel); have HX8 := hide (HXa.out.below hld.bel); have hch2 : ∃ F2 : Nat → Prop, ChipAt u7 p2 F2 (loadC 8 4 1 zs ms []) ∧ ∀ k, F2 k → w.heap.size ≤ k := ⟨_, hch, fun k hk => by have h9 := hk.1; have h8 := HXa.out.bel.size; omega⟩; clear hld hch y0 y1 y2 y3 y4))
    obtain ⟨F2, hd8, hf2⟩ := hch2
    have HD8 := hide hd8
    have HF2 := hide hf2
    clear hd8 hf2 HTa HXa
    refine wp_region_held_drew (S := (fun u : World => u.cell? ⟨q13, 0, none⟩ = some (.int .i64 8) ∧ u.cell? ⟨q13, 1, none⟩ = some (.int .i64 4) ∧ u.cell? ⟨q13, 2, none⟩ = some (.int .i64 1) ∧ u.cell? ⟨q13, 3, none⟩ = some (.slice (some ⟨gcT, 0, none⟩) 10016 ccT) ∧ u.cell? ⟨q13, 4, none⟩ = some (.slice (some ⟨gmT, 0, none⟩) 8 cmT))) (by kernel_rfl) (cells5 (HT8.out.below (drew_below _)).bx) (fun hHeld => ?_)
    refine tk 0 ?_
    refine rd 1 (fun K hK => ?_)
    go_simp
    go_at_call 6
    refine (no_any _ _).mono ?_
    rintro e10 u10 ⟨rfl, hu10⟩
    subst u10
    have hSnew : (fun u : World => u.cell? ⟨q13, 0, none⟩ = some (.int .i64 8) ∧ u.cell? ⟨q13, 1, none⟩ = some (.int .i64 4) ∧ u.cell? ⟨q13, 2, none⟩ = some (.int .i64 1) ∧ u.cell? ⟨q13, 3, none⟩ = some (.slice (some ⟨gcT, 0, none⟩) 10016 ccT) ∧ u.cell? ⟨q13, 4, none⟩ = some (.slice (some ⟨gmT, 0, none⟩) 8 cmT)) _ := cells5 (HT8.out.below (drew_below _)).bx
    go_wp2_with fail
    clear hHeld
    refine hK.out _ _ hSnew (fun hHeld => ?_)
    clear hK K hSnew
    try simp only [Act.put, zSt, zS0, zS1]
    refine tk 2 ?_
    refine tk 3 ?_
    refine tk 4 ?_
    refine tk 5 ?_
    refine tk 6 ?_
    refine tk 7 ?_
    refine tk 8 ?_
    refine tk 10 ?_
    refine rd 9 (fun K hK => ?_)
    go_simp
    go_at_call 7
    refine (Image_any _ p2 _ _ (HD8.out.below (drew_below _)) (load_ci zs ms).ok).mono ?_
    rintro e11 u11 hI
    obtain ⟨gcD, ccD, gmD, cmD, oD, rfl, _, _, hmD, hrdD⟩ := img_held (hd_of (HD8.out.below (drew_below _)) HF2.out (HT8.out.below (drew_below _)).bel) (load_ci zs ms) hI
    rw [load_img HZL.out] at hrdD
    rw [load_mks HML.out] at hmD
    have HRD := hide (hrdD _ (hmD.blk (g := gcD) (o := oD) (by simp)))
    have HRM := hide (marks_row HML.out (hmD.blk (g := gmD) (o := .cells (ms.map Value.bool).toArray 4 (0, 0)) (by simp)))
    have HT9 := hide ((HT8.out.below (drew_below _)).below hI.bel)
    have HX9 := hide ((HX8.out.below (drew_below _)).below hI.bel)
    have HD9 := hide ((HD8.out.below (drew_below _)).below hI.bel)
    have hSnew : (fun u : World => u.cell? ⟨q13, 0, none⟩ = some (.int .i64 8) ∧ u.cell? ⟨q13, 1, none⟩ = some (.int .i64 4) ∧ u.cell? ⟨q13, 2, none⟩ = some (.int .i64 1) ∧ u.cell? ⟨q13, 3, none⟩ = some (.slice (some ⟨gcT, 0, none⟩) 10016 ccT) ∧ u.cell? ⟨q13, 4, none⟩ = some (.slice (some ⟨gmT, 0, none⟩) 8 cmT)) u11 := cells5 HT9.out.bx
    clear hI hmD hrdD
    go_wp2_with fail
    clear hHeld
    refine hK.out _ _ hSnew (fun hHeld => ?_)
    clear hK K hSnew
    try simp only [Act.put, zSt, zS0, zS1]
    refine rd 11 (fun K hK => ?_)
    go_simp
    go_at_call 13
    refine (alike_eq 8 4 1 (some ⟨gcD, 0, none⟩) (some ⟨gcT, 0, none⟩) 10016 ccD ccT zs (some ⟨gmD, 0, none⟩) (some ⟨gmT, 0, none⟩) 8 cmD cmT ms _ HRD.out HT9.out.rd HRM.out HT9.out.rb (by omega)).mono ?_
    rintro e12 u12 ⟨rfl, hb12⟩
    have HT10 := hide (HT9.out.below hb12)
    have HX10 := hide (HX9.out.below hb12)
    have HD10 := hide (HD9.out.below hb12)
    have hSnew : (fun u : World => u.cell? ⟨q13, 0, none⟩ = some (.int .i64 8) ∧ u.cell? ⟨q13, 1, none⟩ = some (.int .i64 4) ∧ u.cell? ⟨q13, 2, none⟩ = some (.int .i64 1) ∧ u.cell? ⟨q13, 3, none⟩ = some (.slice (some ⟨gcT, 0, none⟩) 10016 ccT) ∧ u.cell? ⟨q13, 4, none⟩ = some (.slice (some ⟨gmT, 0, none⟩) 8 cmT)) u12 := cells5 HT10.out.bx
    clear hb12
    go_wp2_with fail
    clear hHeld
    refine hK.out _ _ hSnew (fun hHeld => ?_)
    clear hK K hSnew
    try simp only [Act.put, zSt, zS0, zS1]
    refine tk 12 ?_
    refine tk 13 ?_
    refine wpAnyH_done (by kernel_rfl) ?_ _
    clear HT9 HX9 HD9 HRD HRM HT8 HX8 HD8
    clear HMK HNP HF2
    go_wp2
    go_loopw [20] (fun s20 wk => ∃ k : Nat, k ≤ 32 ∧ s20 = .int .i64 k ∧ Hid (TL w wk q16 gx cx gy 8 zs ms) ∧ Hid (ChipAt wk p2 F2 (loadC 8 4 1 zs ms []))) (fun s20 _ => 32 - (intOf s20).toNat)
    case atStart => exact ⟨0, Nat.zero_le _, rfl, HX10, HD10⟩
    case round =>
     clear HX10 HD10 HT10
     obtain ⟨k, hk, rfl, HXk, HDk⟩ := hrel
     by_cases hlk : k < 32
     ·have dk : decide ((k : Int) < 32) = true := decide_eq_true (by omega)
      obtain ⟨a4, ha4⟩ : ∃ m, m = k / 4 := ⟨_, rfl⟩
      obtain ⟨b4, hb4⟩ : ∃ m, m = k % 4 := ⟨_, rfl⟩
      have e1 : Int.tdiv (k : Int) 4 = (a4 : Int) := by rw [ha4, Int.tdiv_eq_ediv_of_nonneg (by omega)]; omega
      have e2 : (k : Int) / 4 = (a4 : Int) := by omega
      have e3 : Int.tmod (k : Int) 4 = (b4 : Int) := by rw [hb4, Int.tmod_eq_emod_of_nonneg (by omega)]; omega
      have e4 : (k : Int) % 4 = (b4 : Int) := by omega
      have HA4 : Hid ((a4 : Int) = ((k / 4 : Nat) : Int)) := by unfold Hid; rw [ha4]
      have HB4 : Hid ((b4 : Int) = ((k % 4 : Nat) : Int)) := by unfold Hid; rw [hb4]
      clear ha4 hb4
      go_upto_region 32 with fail
      have HP1 := hide (alloc_new wr (.cells #[.int .i64 (a4 : Int), .int .i64 (b4 : Int)] 45))
      have HX1 := hide (HXk.out.below (below_alloc wr (.cells #[.int .i64 (a4 : Int), .int .i64 (b4 : Int)] 45)))
      have HD1 := hide (HDk.out.below (below_alloc wr (.cells #[.int .i64 (a4 : Int), .int .i64 (b4 : Int)] 45)))
      generalize hU1 : wr.alloc (.cells #[.int .i64 (a4 : Int), .int .i64 (b4 : Int)] 45) = U1 at HP1 HX1 HD1 ⊢
      generalize hq21 : wr.heap.size = q21 at HP1 ⊢
      clear hU1 hq21 HXk HDk e1 e2 e3 e4
      obtain ⟨y0, y1, y2, y3, y4⟩ := cells5 HX1.out.bx
      obtain ⟨p0, p1⟩ := cells2 HP1.out
      go_upto_region 33 with (first
       | (go_at_call 15; refine (pg_img gx (some ⟨gy, 0, none⟩) cx 8 k _ _ zs _ HCX.out.1 HCX.out.2 HX1.out.rd hlk HA4.out HB4.out).mono ?_; rintro e5 u5 ⟨g1, k1, g2, k2, rfl, r1, r2, hb5⟩; have HX5 := hide (HX1.out.below hb5); have HD5 := hide (HD1.out.below hb5); have HP5 := hide ((hb5.block _ (lt_of_block HP1.out)).trans HP1.out); have HR1 := hide r1; have HR2 := hide r2; clear r1 r2 hb5 y0 y1 y2 y3 y4 p0 p1))
      clear HX1 HD1 HP1
      have HG6 := hide (alloc_new u5 (.cells #[.slice (some ⟨g1, 0, none⟩) 256 k1, .slice (some ⟨g2, 0, none⟩) 57 k2] 53))
      have HX6 := hide (HX5.out.below (below_alloc u5 (.cells #[.slice (some ⟨g1, 0, none⟩) 256 k1, .slice (some ⟨g2, 0, none⟩) 57 k2] 53)))
      have HD6 := hide (HD5.out.below (below_alloc u5 (.cells #[.slice (some ⟨g1, 0, none⟩) 256 k1, .slice (some ⟨g2, 0, none⟩) 57 k2] 53)))
      have HP6 := hide (((below_alloc u5 (.cells #[.slice (some ⟨g1, 0, none⟩) 256 k1, .slice (some ⟨g2, 0, none⟩) 57 k2] 53)).block _ (lt_of_block HP5.out)).trans HP5.out)
      have HR16 := hide (HR1.out.below (below_alloc u5 (.cells #[.slice (some ⟨g1, 0, none⟩) 256 k1, .slice (some ⟨g2, 0, none⟩) 57 k2] 53)))
      have HR26 := hide (HR2.out.below (below_alloc u5 (.cells #[.slice (some ⟨g1, 0, none⟩) 256 k1, .slice (some ⟨g2, 0, none⟩) 57 k2] 53)))
      generalize hU6 : u5.alloc (.cells #[.slice (some ⟨g1, 0, none⟩) 256 k1, .slice (some ⟨g2, 0, none⟩) 57 k2] 53) = U6 at HG6 HX6 HD6 HP6 HR16 HR26 ⊢
      generalize hq22 : u5.heap.size = q22 at HG6 ⊢
      clear hU6 hq22 HX5 HD5 HP5 HR1 HR2
      obtain ⟨p0, p1⟩ := cells2 HP6.out
      go_upto_region 34 with (first
       | (go_at_call 16; refine (rd_img p2 k F2 _ _ zs ms _ HD6.out hlk HA4.out HB4.out).mono ?_; rintro e7 u7 ⟨b1, h1, b2, h2, rfl, r1, r2, hb7⟩; have HX7 := hide (HX6.out.below hb7); have HD7 := hide (HD6.out.below hb7); have HG7 := hide ((hb7.block _ (lt_of_block HG6.out)).trans HG6.out); have HR17 := hide (HR16.out.below hb7); have HR27 := hide (HR26.out.below hb7); have HS1 := hide r1; have HS2 := hide r2; clear r1 r2 hb7 p0 p1))
      clear HX6 HD6 HP6 HG6 HR16 HR26
      have HH8 := hide (alloc_new u7 (.cells #[.slice b1 256 h1, .slice b2 57 h2] 53))
      have HB8 := hide (below_alloc u7 (.cells #[.slice b1 256 h1, .slice b2 57 h2] 53))
      generalize hU8 : u7.alloc (.cells #[.slice b1 256 h1, .slice b2 57 h2] 53) = U8 at HH8 HB8 ⊢
      generalize hq24 : u7.heap.size = q24 at HH8 ⊢
      have HX8 := hide (HX7.out.below HB8.out)
      have HD8 := hide (HD7.out.below HB8.out)
      have HG8 := hide ((HB8.out.block _ (lt_of_block HG7.out)).trans HG7.out)
      obtain ⟨y0, y1⟩ := cells2 HG8.out
      obtain ⟨p0, p1⟩ := cells2 HH8.out
      have T1 : True := trivial
      go_wp2_with (first
       | (go_at_call 6; refine (no_any _ _).mono ?_; rintro e9 u9 ⟨rfl, hu9⟩; subst u9)
       | (go_at_call 17; have zz := T1; clear T1 zz; refine (same_dec (some ⟨g1, 0, none⟩) b1 256 256 k1 h1 _ _ _ (HR17.out.below HB8.out) (HS1.out.below HB8.out)).mono ?_; rintro e9 u9 ⟨rfl, hu9⟩; subst u9; rw [decide_eq_true rfl])
       | (go_at_call 17; refine (same_dec (some ⟨g2, 0, none⟩) b2 57 57 k2 h2 _ _ _ (HR27.out.below HB8.out) (HS2.out.below HB8.out)).mono ?_; rintro e9 u9 ⟨rfl, hu9⟩; subst u9; rw [decide_eq_true rfl]))
      go_roundw
      case rel => exact ⟨k + 1, by omega, by go_num, HX8, HD8⟩
      case measure => simp [intOf]; omega
     ·have dk : decide ((k : Int) < 32) = false := decide_eq_false (by omega)
      go_wp2
      go_ret
      exact ⟨rfl, HXk.out.bel⟩
end Go.Proofs.YtnmnhgagnfodhaaDoor.Cp
