/-
  SEAT YtdiifegljonojaaDoor: the reference reads a leaf.
-/
import Derived.Test.YtdiifegljonojaaDoorSx
namespace Go.Proofs.YtdiifegljonojaaDoor
open Go.RowKit
set_option linter.unusedVariables false

set_option maxHeartbeats 8000000 in
set_option maxRecDepth 100000 in
theorem rleaf_any (B q : Nat) (s : Rw) (bs : List Int) (ns : List ByteArray) (tg : ByteArray) (ty md st : Int) (ad : Option Addr) (dl dc : Nat) (tt : ByteArray) (w : World) (h : RW w q s) (ho : s.Ok w bs B q) (he : s.e = 0) (hnv : Nv ns) (htg : Pt.tg ns = tg) (most : Int) (hmost : most = mostT ty ns.length) (hne : ty = 2 ∨ 1 ≤ ns.length) :
    Calls Tryd.prog 19 #[.pointer (some ⟨q, 0, none⟩), .agg #[.string tg, .int .i64 ty, .int .i64 md, .int .u64 st, .slice ad dl dc, .string tt]] w (LfS w B q bs s ns most) := by
  have hq := (Array.getElem?_eq_some_iff.1 h).1
  have hbq := ho.bq
  have hb0 := below_alloc w (.cells #[.string tg, .int .i64 ty, .int .i64 md, .int .u64 st, .slice ad dl dc, .string tt] 41)
  have hf0 : FB (w.alloc (.cells #[.string tg, .int .i64 ty, .int .i64 md, .int .u64 st, .slice ad dl dc, .string tt] 41)) w.heap.size (.string tg) (.int .i64 ty) (.int .i64 md) (.int .u64 st) (.slice ad dl dc) (.string tt) := heap_alloc_new w _
  have hb1 := below_alloc (w.alloc (.cells #[.string tg, .int .i64 ty, .int .i64 md, .int .u64 st, .slice ad dl dc, .string tt] 41)) (.cells #[.string ⟨#[]⟩, .int .i64 0, .int .i64 0, .int .u64 0, .slice none 0 0, .string ⟨#[]⟩] 41)
  have hf1 : FB ((w.alloc (.cells #[.string tg, .int .i64 ty, .int .i64 md, .int .u64 st, .slice ad dl dc, .string tt] 41)).alloc (.cells #[.string ⟨#[]⟩, .int .i64 0, .int .i64 0, .int .u64 0, .slice none 0 0, .string ⟨#[]⟩] 41)) (w.alloc (.cells #[.string tg, .int .i64 ty, .int .i64 md, .int .u64 st, .slice ad dl dc, .string tt] 41)).heap.size (.string ⟨#[]⟩) (.int .i64 0) (.int .i64 0) (.int .u64 0) (.slice none 0 0) (.string ⟨#[]⟩) := heap_alloc_new _ _
  rw [World.size_alloc] at hf1
  have HFA := hide (hf0.below hb1)
  have HFC := hide hf1
  have HR0 := hide ((h.below hb0).below hb1)
  have HO0 := hide ((ho.below hb0).below hb1)
  have HB0 := hide (below_join hb0 hb1)
  have HNV := hide hnv
  have HTG := hide htg
  obtain ⟨n, hn⟩ : ∃ n, ns.length = n := ⟨_, rfl⟩
  have hn64 : n ≤ 64 := by rw [← hn]; exact hnv.len
  have HN := hide hn
  rw [hn] at hmost hne
  obtain ⟨u0, hu0⟩ : ∃ u0, (w.alloc (.cells #[.string tg, .int .i64 ty, .int .i64 md, .int .u64 st, .slice ad dl dc, .string tt] 41)).alloc (.cells #[.string ⟨#[]⟩, .int .i64 0, .int .i64 0, .int .u64 0, .slice none 0 0, .string ⟨#[]⟩] 41) = u0 := ⟨_, rfl⟩
  have hz0 : u0.heap.size = w.heap.size + 2 := by rw [← hu0]; simp
  have HU0 := hide hu0
  rw [hu0] at HFA HFC HR0 HO0 HB0
  clear h ho hnv htg hb0 hb1 hn hu0 hf0 hf1
  have hm0 : 0 ≤ most ∧ most ≤ 63 ∧ most ≤ (n : Int) := by rw [hmost]; unfold mostT; split <;> split <;> omega
  obtain ⟨hma, hmb, hmc⟩ := hm0
  have HMO := hide hmost
  have hw30 : IntKind.u64.wrap most = most := by rw [IntKind.wrap_u64]; omega
  clear hmost
  have c30 := fb_cell0 HFA.out
  have c31 := fb_cell1 HFA.out
  have T1 : Hid True := trivial
  go_enter Tryd.func19, Tryd.ntmps19
  go_upto_region 1 with fail
  rw [HU0.out]
  go_upto_if 23 with (first
    | (go_at_call 34; have hnr9 := names_ref ns u0 HNV.out; rw [HTG.out] at hnr9; refine hnr9.mono ?_; clear hnr9; rintro e wa ⟨v5, rfl, ow, bl⟩; obtain ⟨a5, c5, rfl, k1, k2, rd5, k3⟩ := Pt.Ow.vw ow
       rw [HN.out] at k1 ow ⊢
       have HL1 : Hid (Ls w B q bs (.slice a5 n c5) ns s wa) := ⟨HR0.out.below bl, HO0.out.below bl, HFC.out.below bl, by rw [← hz0]; exact ow, grown_of (below_join HB0.out bl) (some q), by rw [← hz0]; exact bl.size, hq⟩
       clear c30 c31
       have c31 := fb_cell1 (HFA.out.below bl)
       have hc9 : c5 ≤ 9223372036854775807 := by unfold maxLen at k2; omega
       clear rd5 k3 ow bl k2))
  obtain ⟨dp, hdp⟩ : ∃ dp : Int, (if ty = 2 then (n : Int) else (n : Int) - 1) = dp := ⟨_, rfl⟩
  have HDP := hide hdp
  clear hdp
  go_cut [7] (fun s7 wq => Hid (s7 = .int .i64 dp ∧ wq = wa))
  case first =>
    have hwn1 : IntKind.i64.wrap ((n : Int) - 1) = (n : Int) - 1 := by rw [IntKind.wrap_i64]; omega
    by_cases h2 : ty = 2
    · subst h2
      have HQ : Hid (dp = (n : Int)) := by unfold Hid; rw [← HDP.out]; rfl
      go_wp2_with fail
      (go_meet; exact (show Hid _ from ⟨by rw [HQ.out], rfl⟩))
    · have e2 : (ty != 2) = true := by simp [h2]
      have e2' : ¬ ty = 2 := h2
      have HQ : Hid (dp = (n : Int) - 1) := by unfold Hid; rw [← HDP.out, if_neg h2]
      clear h2 e2'
      go_wp2_with fail
      (go_meet; exact (show Hid _ from ⟨by rw [HQ.out], rfl⟩))
  case rest =>
    obtain ⟨rfl, rfl⟩ := hcut.out
    clear hcut hne c31
    go_upto_if 27 with fail
    go_cut [7] (fun s7 wq => Hid (s7 = .int .i64 most ∧ wq = wc))
    case first =>
      by_cases h63 : (63 : Int) < dp
      · have d63 : decide ((63 : Int) < dp) = true := decide_eq_true h63
        have HQ : Hid (most = 63) := by unfold Hid; rw [HMO.out]; unfold mostT; rw [HDP.out, if_pos h63]
        clear d63
        go_wp2_with fail
        (go_meet; exact (show Hid _ from ⟨by rw [HQ.out], rfl⟩))
      · have d63 : decide ((63 : Int) < dp) = false := decide_eq_false h63
        have HQ : Hid (most = dp) := by unfold Hid; rw [HMO.out]; unfold mostT; rw [HDP.out, if_neg h63]
        clear d63
        go_wp2_with fail
        (go_meet; exact (show Hid _ from ⟨by rw [HQ.out], rfl⟩))
    case rest =>
     obtain ⟨rfl, rfl⟩ := hcut.out
     clear hcut HDP
     go_upto_region 12 with (first
       | (go_at_call 20; have zz := T1; clear T1 zz; refine (rnumU B q 1 0 (most) s bs _ HL1.out.rw HL1.out.ok (by omega) (by omega) (by omega) (by omega)).mono ?_; rintro e wb ⟨k9, sx2, rfl, k9a, k9b, r9, o9, g9, f9⟩
          have HL2 := hide (HL1.out.call r9 o9 g9)
          have HF1 := hide f9
          have hwk : IntKind.i64.wrap k9 = k9 := (by rw [IntKind.wrap_i64]; omega)
          clear r9 o9 g9 f9; have T2 : Hid True := trivial)
       | (go_at_call 20; have zz := T2; clear T2 zz; refine (rnumU B q 1 1 (3) sx2 bs _ HL2.out.rw HL2.out.ok (by omega) (by omega) (by omega) (by omega)).mono ?_; rintro e wc ⟨t9, sx3, rfl, t9a, t9b, r9, o9, g9, f9⟩
          have HL3 := hide (HL2.out.call r9 o9 g9)
          have HF2 := hide f9
          have hwt : IntKind.i64.wrap t9 = t9 := (by rw [IntKind.wrap_i64]; omega)
          have HL3 := hide (HL3.out.below (below_alloc wc (.cells #[.string ⟨#[]⟩, .int .i64 t9, .int .i64 0, .int .u64 0, .slice none 0 0, .string ⟨#[]⟩] 41)))
          have HP3 : Hid (FB (wc.alloc (.cells #[.string ⟨#[]⟩, .int .i64 t9, .int .i64 0, .int .u64 0, .slice none 0 0, .string ⟨#[]⟩] 41)) wc.heap.size (.string ⟨#[]⟩) (.int .i64 t9) (.int .i64 0) (.int .u64 0) (.slice none 0 0) (.string ⟨#[]⟩)) := heap_alloc_new _ _
          have hgp : w.heap.size + 2 ≤ wc.heap.size := (HL2.out.call r9 o9 g9).sz
          obtain ⟨gp, hgpe⟩ : ∃ gp, wc.heap.size = gp := ⟨_, rfl⟩
          rw [hgpe] at HP3 hgp
          have HGP := hide hgpe
          clear hgpe
          clear r9 o9 g9 f9; have T3 : Hid True := trivial)
       | (go_at_call 20; have zz := T3; clear T3 zz; refine (rnumU B q 2 0 (4095) sx3 bs _ HL3.out.rw HL3.out.ok (by omega) (by omega) (by omega) (by omega)).mono ?_; rintro e wd ⟨m9, sx4, rfl, m9a, m9b, r9, o9, g9, f9⟩
          have HL4 := hide (HL3.out.call r9 o9 g9)
          have HF3 := hide f9
          have hp9 := HP3.out.kept g9 (by omega)
          have f42 := fb_frozen2 hp9
          have HL4 := hide (HL4.out.set hp9 hgp 2 (.int .i64 m9))
          have HP4 : Hid (FB (wd.setCell ⟨gp, 2, none⟩ (.int .i64 m9)) gp (.string ⟨#[]⟩) (.int .i64 t9) (.int .i64 m9) (.int .u64 0) (.slice none 0 0) (.string ⟨#[]⟩)) := fb_set2 hp9 _
          have hwm : IntKind.i64.wrap m9 = m9 := (by rw [IntKind.wrap_i64]; omega)
          have c42 := fb_cell2 hp9
          rw [HGP.out]
          clear hp9
          clear r9 o9 g9 f9; have T4 : Hid True := trivial)
       | (go_at_call 20; have zz := T4; clear T4 zz; refine (rnumU B q 8 0 (18446744073709551615) sx4 bs _ HL4.out.rw HL4.out.ok (by omega) (by omega) (by omega) (by omega)).mono ?_; rintro e we ⟨z9, sx5, rfl, z9a, z9b, r9, o9, g9, f9⟩
          have HL5 := hide (HL4.out.call r9 o9 g9)
          have HF4 := hide f9
          have hp9 := HP4.out.kept g9 (by omega)
          have f43 := fb_frozen3 hp9
          have c43 := fb_cell3 hp9
          have HL5 := hide (HL5.out.set hp9 hgp 3 (.int .u64 z9))
          have HP5 : Hid (FB (we.setCell ⟨gp, 3, none⟩ (.int .u64 z9)) gp (.string ⟨#[]⟩) (.int .i64 t9) (.int .i64 m9) (.int .u64 z9) (.slice none 0 0) (.string ⟨#[]⟩)) := fb_set3 hp9 _
          clear hp9
          clear r9 o9 g9 f9; have T5 : Hid True := trivial)
       | (go_at_call 20; have zz := T5; clear T5 zz; refine (rnumU B q 1 1 (63) sx5 bs _ HL5.out.rw HL5.out.ok (by omega) (by omega) (by omega) (by omega)).mono ?_; rintro e wf ⟨y9, sx6, rfl, y9a, y9b, r9, o9, g9, f9⟩
          have HL6 := hide (HL5.out.call r9 o9 g9)
          have HF5 := hide f9
          have hp9 := HP5.out.kept g9 (by omega)
          have HP6 := hide hp9
          obtain ⟨nl, hnl⟩ := Int.eq_ofNat_of_zero_le y9a
          subst hnl
          have hnl63 : nl ≤ 63 := (by omega)
          have hwn : IntKind.i64.wrap (nl : Int) = (nl : Int) := (by rw [IntKind.wrap_i64]; omega)
          clear hp9
          clear r9 o9 g9 f9; have T6 : Hid True := trivial)
       | (go_at_call 21; have zz := T6; clear T6 zz; refine (rtakeU B q nl sx6 bs _ HL6.out.rw HL6.out.ok (by omega)).mono ?_; rintro e wg ⟨a6, m6, c6, fb, sx7, rfl, rd6, hm6, r9, o9, g9, f9⟩
          have HL7 := hide (HL6.out.call r9 o9 g9)
          have HF6 := hide f9
          have hcv := conv a6 m6 c6 fb wg rd6
          obtain ⟨nm, hnm⟩ : ∃ nm, strOfNums fb = nm := ⟨_, rfl⟩
          rw [hnm] at hcv
          have HNM := hide hnm
          have hnmz : nm.size ≤ 63 := (by rw [← hnm, strOfNums_size, rd6.1]; omega)
          have HP7 := hide (HP6.out.kept g9 (by omega))
          obtain ⟨_, _, c2, _, _⟩ := rw_cell r9
          clear r9 o9 g9 f9 rd6 hnm; have T7 : Hid True := trivial))
     have hboth := head_both he HF1.out HF2.out HF3.out HF4.out HF5.out HF6.out
     have HDR : Hid (sx7.dry = s.dry) := by unfold Hid; rw [HF6.out.dry, HF5.out.dry, HF4.out.dry, HF3.out.dry, HF2.out.dry, HF1.out.dry]
     clear HF1 HF2 HF3 HF4 HF5 HF6
     rcases hboth with ⟨he7, hhd⟩ | ⟨he7, hhd⟩
     · have HHD := hide hhd
       have e0 : (sx7.e != 0) = true := by simp [he7]
       go_upto_region 13 with fail
       apply wp_region_lit
       refine wpList_load41 rfl (.tmp 9) rfl gp rfl HP7.out ?_
       simp only [Act.put, List.setIfInBounds_toArray, List.set_cons_zero, List.set_cons_succ]
       refine wpList_store41 rfl (.tmp 4) (.tmp 55) rfl (w.heap.size + 1) rfl rfl HL7.out.fc (by simp [Value.oneCell']) ?_
       simp only [Act.put]
       refine wpList_nil ?_
       rename_i hK8 hK9
       show hK8 _ _
       refine hK9 _ _ ?_
       refine wp_ret ?_
       show bodyPost Tryd.prog Tryd.f19 _ Exit.ret _ _
       refine leaf_end _ _ _ _ _ _ _ rfl HL7.out (fun W r9 o9 g9 _ => ⟨g9, ?_⟩)
       rw [leafR_err HHD.out]
       exact ⟨⟨_, _, _, _, _, _, _, _, rfl⟩, sx7, rfl, HDR.out, r9, o9⟩
     · have HHD := hide hhd
       rw [he7] at c2
       obtain ⟨kk, rfl⟩ := Int.eq_ofNat_of_zero_le k9a
       have hkn : kk ≤ n := by omega
       have hk63 : kk ≤ 63 := by omega
       obtain ⟨a, c, hve, _, _, rds, hpl⟩ := Pt.Ow.vw HL7.out.ow
       injection hve with hve1 hve2 hve3
       subst hve1
       have HRS := hide rds
       have HPL := hide hpl
       clear rds hpl hve2 hve3
       go_wp2_with fail
       go_loopw [11, 12] (fun s11 s12 wr => ∃ i : Nat, i ≤ kk ∧ s12 = .int .i64 (i : Int) ∧ s11 = .string (Pt.byteOf (Pt.tgA (ns.take i))) ∧ wr = wg) (fun _ s12 _ => kk - (intOf s12).toNat)
       case atStart => exact ⟨0, Nat.zero_le _, rfl, rfl, rfl⟩
       case round =>
         obtain ⟨i, hik, rfl, rfl, rfl⟩ := hrel
         obtain ⟨P, hP⟩ : ∃ P, Pt.byteOf (Pt.tgA (ns.take i)) = P := ⟨_, rfl⟩
         rw [hP]
         have hPs : P.size ≤ 4096 := by rw [← hP]; exact path_small HNV.out i
         have s47 : (⟨#[47]⟩ : ByteArray).size = 1 := rfl
         have s48 := size_slash P
         have q1 : ¬ (9223372036854775807 < P.size + (⟨#[47]⟩ : ByteArray).size) := by omega
         have HPP := hide hP
         clear hP
         by_cases hlt : i < kk
         · have i1 : (i : Int) < (kk : Int) := by omega
           have hin : i < ns.length := by rw [HN.out]; omega
           obtain ⟨x5, hx5⟩ : ∃ x, a5 = some x := by
             cases h9 : a5 with
             | none => have h8 := HRS.out.nil h9; omega
             | some x => exact ⟨x, rfl⟩
           obtain ⟨b5, o5, rfl⟩ := HPL.out x5 hx5
           subst hx5
           obtain ⟨u, hu⟩ : ∃ u, ns[i] = u := ⟨_, rfl⟩
           have cu : wr.cell? ⟨b5, o5 + i, none⟩ = some (.string u) := by
             have h9 := HRS.out.cell _ rfl i u (by rw [List.getElem?_eq_getElem hin, hu])
             rw [plain_add] at h9
             exact h9
           have wk : IntKind.i64.wrap ((i : Int) + 1) = (i : Int) + 1 := by rw [IntKind.wrap_i64]; omega
           have d1 : (i : Int) < (n : Int) := by omega
           have hus : u.size ≤ 63 := by rw [← hu]; exact (good_facts (HNV.out.good _ (List.getElem_mem hin))).2.1
           have q2 : ¬ (9223372036854775807 < (P ++ (⟨#[47]⟩ : ByteArray)).size + u.size) := by omega
           clear s47 s48
           have HU := hide hu
           clear hu
           go_wp2_with fail
           go_roundw
           case rel => exact ⟨i + 1, by omega, by go_num, by rw [path_step ns i hin, HU.out, HPP.out], by trivial⟩
           case measure => simp [intOf]; omega
         · obtain rfl : i = kk := by omega
           have i1 : ¬ (i : Int) < (i : Int) := by omega
           have q2 : ¬ (9223372036854775807 < (P ++ (⟨#[47]⟩ : ByteArray)).size + nm.size) := by omega
           clear s47 s48
           obtain ⟨pth, hpth⟩ : ∃ pth, (P ++ (⟨#[47]⟩ : ByteArray)) ++ nm = pth := ⟨_, rfl⟩
           have HPT : Hid (Pt.tg (ns.take i ++ [nm]) = pth) := by unfold Hid; rw [path_last, HPP.out]; exact hpth
           have p0 := fb_cell0 HP7.out
           have f0 := fb_frozen0 HP7.out
           go_upto_region 20 with fail
           have HL8 := hide (HL7.out.set HP7.out hgp 0 (.string pth))
           have HP8 := hide (fb_set0 HP7.out (.string pth))
           obtain ⟨wx, hwx⟩ : ∃ wx, wr.setCell ⟨gp, 0, none⟩ (.string pth) = wx := ⟨_, rfl⟩
           rw [hwx] at HL8 HP8 ⊢
           have hne9 : ns.length = n := HN.out
           have hlen9 : i ≤ ns.length := by omega
           have HOK := hide (okN_eq HNV.out hk63 hlen9 nm)
           have hRS : Pt.RdS wx a5 ns.length ns := by
             obtain ⟨a', c', hve, _, _, rds, _⟩ := Pt.Ow.vw HL8.out.ow
             injection hve with hve1 hve2 hve3
             subst hve1
             exact rds
           have HRS2 := hide hRS
           have hpls : pth.size ≤ 8000 := by rw [← hpth, ByteArray.size_append, size_slash]; omega
           clear p0 f0 q1 q2 hpth hRS hwx
           go_cut [95] from 73 to 95 (fun s95 wq => Hid (s95 = .bool (!okN ns i nm) ∧ wq = wx))
           case first =>
             have p0 := fb_cell0 HP8.out
             cases hg : Pt.Good nm with
             | false =>
               have HNE : Hid (Pt.nameE nm = 81) := by unfold Hid Pt.nameE; rw [hg]; rfl
               have HK : Hid (okN ns i nm = false) := by unfold Hid; rw [HOK.out, hg]; rfl
               clear hg
               go_wp2_with (first | (go_at_call 35; refine (rname_any nm _ (by omega)).mono ?_; rintro e wy ⟨rfl, rfl⟩; rw [HNE.out]))
               (go_meet; exact (show Hid _ from ⟨by rw [HK.out]; rfl, rfl⟩))
             | true =>
               have HNE : Hid (Pt.nameE nm = 0) := by unfold Hid Pt.nameE; rw [hg]; rfl
               by_cases hkn : i = n
               · have HA : Hid (aheadB ns i nm = true) := by unfold Hid aheadB; rw [decide_eq_true (show i = ns.length by omega)]; rfl
                 have d2 : ¬ (i : Int) < (n : Int) := by omega
                 clear hkn
                 cases hz : decide (1023 < pth.size) with
                 | true =>
                   have d3 : (1023 : Int) < (pth.size : Int) := by have := of_decide_eq_true hz; omega
                   have HK : Hid (okN ns i nm = false) := by unfold Hid; rw [HOK.out, hg, HA.out, HPT.out, hz]; rfl
                   clear hg hz
                   go_wp2_with (first | (go_at_call 35; refine (rname_any nm _ (by omega)).mono ?_; rintro e wy ⟨rfl, rfl⟩; rw [HNE.out]))
                   (go_meet; exact (show Hid _ from ⟨by rw [HK.out]; rfl, rfl⟩))
                 | false =>
                   have d3 : decide ((1023 : Int) < (pth.size : Int)) = false := decide_eq_false (by have := of_decide_eq_false hz; omega)
                   have HK : Hid (okN ns i nm = true) := by unfold Hid; rw [HOK.out, hg, HA.out, HPT.out, hz]; rfl
                   clear hg hz
                   go_wp2_with (first | (go_at_call 35; refine (rname_any nm _ (by omega)).mono ?_; rintro e wy ⟨rfl, rfl⟩; rw [HNE.out]))
                   (go_meet; exact (show Hid _ from ⟨by rw [HK.out]; rfl, rfl⟩))
               · have d2 : (i : Int) < (n : Int) := by omega
                 have hin : i < ns.length := by omega
                 obtain ⟨x5, hx5⟩ : ∃ x, a5 = some x := by
                   cases h9 : a5 with
                   | none => have h8 := HRS2.out.nil h9; omega
                   | some x => exact ⟨x, rfl⟩
                 obtain ⟨b5, o5, rfl⟩ := HPL.out x5 hx5
                 subst hx5
                 obtain ⟨u, hu⟩ : ∃ u, ns[i] = u := ⟨_, rfl⟩
                 have cu : wx.cell? ⟨b5, o5 + i, none⟩ = some (.string u) := by
                   have h9 := HRS2.out.cell _ rfl i u (by rw [List.getElem?_eq_getElem hin, hu])
                   rw [plain_add] at h9
                   exact h9
                 have hgd : ns.getD i ByteArray.empty = u := by rw [List.getD_eq_getElem?_getD, List.getElem?_eq_getElem hin]; exact hu
                 cases hle : (Op.bytesLess nm.toList u.toList || (nm.toList == u.toList)) with
                 | true =>
                   have HA : Hid (aheadB ns i nm = false) := by unfold Hid aheadB; rw [decide_eq_false (show ¬ i = ns.length by omega), hgd, hle]; rfl
                   have HK : Hid (okN ns i nm = false) := by unfold Hid; rw [HOK.out, hg, HA.out]; rfl
                   clear hg hgd hu
                   go_wp2_with (first | (go_at_call 35; refine (rname_any nm _ (by omega)).mono ?_; rintro e wy ⟨rfl, rfl⟩; rw [HNE.out]))
                   (go_meet; exact (show Hid _ from ⟨by rw [HK.out]; rfl, rfl⟩))
                 | false =>
                   have HA : Hid (aheadB ns i nm = true) := by unfold Hid aheadB; rw [decide_eq_false (show ¬ i = ns.length by omega), hgd, hle]; rfl
                   cases hz : decide (1023 < pth.size) with
                   | true =>
                     have d3 : (1023 : Int) < (pth.size : Int) := by have := of_decide_eq_true hz; omega
                     have HK : Hid (okN ns i nm = false) := by unfold Hid; rw [HOK.out, hg, HA.out, HPT.out, hz]; rfl
                     clear hg hz hgd hu
                     go_wp2_with (first | (go_at_call 35; refine (rname_any nm _ (by omega)).mono ?_; rintro e wy ⟨rfl, rfl⟩; rw [HNE.out]))
                     (go_meet; exact (show Hid _ from ⟨by rw [HK.out]; rfl, rfl⟩))
                   | false =>
                     have d3 : decide ((1023 : Int) < (pth.size : Int)) = false := decide_eq_false (by have := of_decide_eq_false hz; omega)
                     have HK : Hid (okN ns i nm = true) := by unfold Hid; rw [HOK.out, hg, HA.out, HPT.out, hz]; rfl
                     clear hg hz hgd hu
                     go_wp2_with (first | (go_at_call 35; refine (rname_any nm _ (by omega)).mono ?_; rintro e wy ⟨rfl, rfl⟩; rw [HNE.out]))
                     (go_meet; exact (show Hid _ from ⟨by rw [HK.out]; rfl, rfl⟩))

           case rest =>
             obtain ⟨rfl, rfl⟩ := hcut.out
             clear hcut HRS HRS2 HPL hne9
             obtain ⟨_, _, c2, _, c4⟩ := rw_cell HL8.out.rw
             rw [he7] at c2
             have HDE := hide he7
             clear he7
             cases hok : okN ns i nm with
               | false =>
                 have HK := hide hok
                 clear hok
                 go_upto_region 22 with (first
                   | (go_at_call 36; refine (rfail_any B q 191 sx7 bs _ HL8.out.rw HL8.out.ok HDE.out).mono ?_; rintro e wh ⟨rfl, r9, o9, g9⟩
                      have HL9 := hide (HL8.out.call r9 o9 g9)
                      have HP9 := hide (HP8.out.kept g9 (by omega))
                      clear r9 o9 g9 c2 c4))
                 apply wp_region_lit
                 refine wpList_load41 rfl (.tmp 9) rfl gp rfl HP9.out ?_
                 simp only [Act.put, List.setIfInBounds_toArray, List.set_cons_zero, List.set_cons_succ]
                 refine wpList_store41 rfl (.tmp 4) (.tmp 98) rfl (w.heap.size + 1) rfl rfl HL9.out.fc (by simp [Value.oneCell']) ?_
                 simp only [Act.put]
                 refine wpList_nil ?_
                 rename_i hK8 hK9
                 show hK8 _ _
                 refine hK9 _ _ ?_
                 refine wp_ret ?_
                 show bodyPost Tryd.prog Tryd.f19 _ Exit.ret _ _
                 refine leaf_end _ _ _ _ _ _ _ rfl HL9.out (fun W r9 o9 g9 _ => ⟨g9, ?_⟩)
                 rw [leafR_bad (h := ⟨(i : Int), t9, m9, z9, fb⟩) HHD.out (by show okN ns ((i : Int)).toNat (strOfNums fb) = false; rw [Int.toNat_natCast, HNM.out]; exact HK.out)]
                 exact ⟨⟨_, _, _, _, _, _, _, _, rfl⟩, { sx7 with e := 191 }, rfl, HDR.out, r9, o9⟩
               | true =>
                 have HK := hide hok
                 have HNV2 := hide (okN_nv HNV.out hk63 hlen9 hok)
                 clear hok
                 have HLR : Hid (leafR ns most (bs.drop s.pos) = bodyR (ns.take i ++ [nm]) ⟨(i : Int), t9, m9, z9, fb⟩ (bs.drop sx7.pos)) := by
                   unfold Hid
                   rw [leafR_ok (h := ⟨(i : Int), t9, m9, z9, fb⟩) HHD.out (by show okN ns ((i : Int)).toNat (strOfNums fb) = true; rw [Int.toNat_natCast, HNM.out]; exact HK.out)]
                   show bodyR (ns.take ((i : Int)).toNat ++ [strOfNums fb]) _ _ = _
                   rw [Int.toNat_natCast, HNM.out]
                 by_cases ht1 : t9 = 1
                 · subst ht1
                   cases hdt : dataR (bs.drop sx7.pos) with
                   | error x =>
                     have HDT := hide hdt
                     have p1 := fb_cell1 HP8.out
                     clear hdt
                     go_upto_region 30 with (first
                       | (go_at_call 37; refine (rdata_any B q sx7 bs _ HL8.out.rw HL8.out.ok HDE.out).mono ?_; rintro e wh ⟨g9, hm⟩; rw [HDT.out] at hm; obtain ⟨⟨a8, l8, c8, rfl⟩, sy, hsy, hsd, r9, o9⟩ := hm
                          have hl9 := HL8.out.call r9 o9 g9
                          have hp9 := HP8.out.kept g9 (by omega)
                          have p4 := fb_cell4 hp9
                          have f4 := fb_frozen4 hp9
                          have HL9 := hide (hl9.set hp9 hgp 4 (.slice a8 l8 c8))
                          have HP9 := hide (fb_set4 hp9 (.slice a8 l8 c8))
                          have HSY := hide hsy
                          have HSD := hide hsd
                          clear hl9 hp9 r9 o9 g9 c2 c4 p1 hsy hsd
                          skip))
                     apply wp_region_lit
                     refine wpList_load41 rfl (.tmp 9) rfl gp rfl HP9.out ?_
                     simp only [Act.put, List.setIfInBounds_toArray, List.set_cons_zero, List.set_cons_succ]
                     refine wpList_store41 rfl (.tmp 4) (.tmp 128) rfl (w.heap.size + 1) rfl rfl HL9.out.fc (by simp [Value.oneCell']) ?_
                     simp only [Act.put]
                     refine wpList_nil ?_
                     rename_i hK8 hK9
                     show hK8 _ _
                     refine hK9 _ _ ?_
                     refine wp_ret ?_
                     show bodyPost Tryd.prog Tryd.f19 _ Exit.ret _ _
                     refine leaf_end _ _ _ _ _ _ _ rfl HL9.out (fun W r9 o9 g9 _ => ⟨g9, ?_⟩)
                     rw [HLR.out]
                     unfold bodyR
                     rw [if_pos rfl, HDT.out]
                     exact ⟨⟨_, _, _, _, _, _, _, _, rfl⟩, sy, HSY.out, HSD.out.trans HDR.out, r9, o9⟩
                   | ok pr =>
                     obtain ⟨d, r4⟩ := pr
                     have HDT := hide hdt
                     have p1 := fb_cell1 HP8.out
                     clear hdt
                     go_upto_region 30 with (first
                       | (go_at_call 37; refine (rdata_any B q sx7 bs _ HL8.out.rw HL8.out.ok HDE.out).mono ?_; rintro e wh ⟨g9, hm⟩; rw [HDT.out] at hm; obtain ⟨v8, rfl, dt8, sy, hsy, hsd, r9, o9, hr9⟩ := hm
                          have hl9 := HL8.out.call r9 o9 g9
                          have hp9 := HP8.out.kept g9 (by omega)
                          obtain ⟨a8, l8, c8, hv8⟩ := DtOn.slice dt8
                          subst hv8
                          have p4 := fb_cell4 hp9
                          have f4 := fb_frozen4 hp9
                          have HL9 := hide (hl9.set hp9 hgp 4 (.slice a8 l8 c8))
                          have HP9 := hide (fb_set4 hp9 (.slice a8 l8 c8))
                          have HD8 := hide (DtOn.base (DtOn.two dt8 (set_grown wh gp 4 (.slice a8 l8 c8)) hp9 (by decide)) HL8.out.gr.size)
                          have HSY := hide hsy
                          have HSD := hide hsd
                          have HR9 := hide hr9
                          clear hl9 hp9 r9 o9 g9 c2 c4 p1 hsy hsd dt8 hr9
                          skip))
                     apply wp_region_lit
                     refine wpList_load41 rfl (.tmp 9) rfl gp rfl HP9.out ?_
                     simp only [Act.put, List.setIfInBounds_toArray, List.set_cons_zero, List.set_cons_succ]
                     refine wpList_store41 rfl (.tmp 4) (.tmp 128) rfl (w.heap.size + 1) rfl rfl HL9.out.fc (by simp [Value.oneCell']) ?_
                     simp only [Act.put]
                     refine wpList_nil ?_
                     rename_i hK8 hK9
                     show hK8 _ _
                     refine hK9 _ _ ?_
                     refine wp_ret ?_
                     show bodyPost Tryd.prog Tryd.f19 _ Exit.ret _ _
                     refine leaf_end _ _ _ _ _ _ _ rfl HL9.out (fun W r9 o9 g9 kp => ⟨g9, ?_⟩)
                     rw [HLR.out]
                     unfold bodyR
                     rw [if_pos rfl, HDT.out]
                     refine ⟨HNV2.out, _, by rw [HPT.out], ?_, sy, HSY.out, HSD.out.trans HDR.out, r9, o9, HR9.out⟩
                     have h9 := kp _ _ _ HD8.out
                     rw [HDR.out] at h9
                     exact h9
                 · by_cases ht3 : t9 = 3
                   · subst ht3
                     have p1 := fb_cell1 HP8.out
                     go_upto_region 28 with (first
                       | (go_at_call 20; refine (rnumU B q 1 1 127 sx7 bs _ HL8.out.rw HL8.out.ok (by omega) (by omega) (by omega) (by omega)).mono ?_; rintro e wh ⟨l9, sy, rfl, l9a, l9b, r9, o9, g9, f9⟩
                          have HL9 := hide (HL8.out.call r9 o9 g9)
                          have HP9 := hide (HP8.out.kept g9 (by omega))
                          have HG1 := hide f9
                          obtain ⟨ln, hln⟩ := Int.eq_ofNat_of_zero_le l9a
                          subst hln
                          have hln127 : ln ≤ 127 := (by omega)
                          have hwl : IntKind.i64.wrap (ln : Int) = (ln : Int) := (by rw [IntKind.wrap_i64]; omega)
                          clear r9 o9 g9 f9 c2 c4 p1)
                       | (go_at_call 21; refine (rtakeU B q ln sy bs _ HL9.out.rw HL9.out.ok (by omega)).mono ?_; rintro e wi ⟨a8, m8, c8, tb, sz, rfl, rd8, hm8, r9, o9, g9, f9⟩
                          have HG2 := hide f9
                          have hl9 := HL9.out.call r9 o9 g9
                          have hp9 := HP9.out.kept g9 (by omega)
                          have hcv2 := conv a8 m8 c8 tb wi rd8
                          obtain ⟨tn, htn⟩ : ∃ tn, strOfNums tb = tn := ⟨_, rfl⟩
                          rw [htn] at hcv2
                          have HTN := hide htn
                          have htnz : tn.size = tb.length := (by rw [← htn, strOfNums_size])
                          have p5 := fb_cell5 hp9
                          have f5 := fb_frozen5 hp9
                          have HL10 := hide (hl9.set hp9 hgp 5 (.string tn))
                          have HP10 := hide (fb_set5 hp9 (.string tn))
                          clear r9 o9 g9 f9 rd8 htn hl9 hp9))
                     obtain ⟨wj, hwj⟩ : ∃ wj, wi.setCell ⟨gp, 5, none⟩ (.string tn) = wj := ⟨_, rfl⟩
                     rw [hwj] at HL10 HP10 ⊢
                     clear hwj p5 f5
                     have HDZ : Hid (sz.dry = s.dry) := by unfold Hid; rw [HG2.out.dry, HG1.out.dry, HDR.out]
                     obtain ⟨_, _, c2, _, _⟩ := rw_cell HL10.out.rw
                     have p5 := fb_cell5 HP10.out
                     rcases target_both HDE.out HG1.out HG2.out with ⟨hez, hta⟩ | ⟨hez, hta, hl1, hl2⟩
                     ·
                       have e0 : (sz.e == 0) = false := by simp [hez]
                       have HTA := hide hta
                       clear hta
                       go_upto_region 30 with fail
                       apply wp_region_lit
                       refine wpList_load41 rfl (.tmp 9) rfl gp rfl HP10.out ?_
                       simp only [Act.put, List.setIfInBounds_toArray, List.set_cons_zero, List.set_cons_succ]
                       refine wpList_store41 rfl (.tmp 4) (.tmp 128) rfl (w.heap.size + 1) rfl rfl HL10.out.fc (by simp [Value.oneCell']) ?_
                       simp only [Act.put]
                       refine wpList_nil ?_
                       rename_i hK8 hK9
                       show hK8 _ _
                       refine hK9 _ _ ?_
                       refine wp_ret ?_
                       show bodyPost Tryd.prog Tryd.f19 _ Exit.ret _ _
                       refine leaf_end _ _ _ _ _ _ _ rfl HL10.out (fun W r9 o9 g9 _ => ⟨g9, ?_⟩)
                       rw [HLR.out]
                       unfold bodyR
                       rw [if_neg (show ¬ (3 : Int) = 1 by decide), if_pos rfl, HTA.out]
                       exact ⟨⟨_, _, _, _, _, _, _, _, rfl⟩, sz, rfl, HDZ.out, r9, o9⟩
                     ·
                       rw [hez] at c2
                       have HEZ := hide hez
                       rw [HTN.out] at hta
                       have HTA := hide hta
                       clear hta hez
                       cases hzb : Pt.zeroB tn with
                       | true =>
                         have HZB := hide hzb
                         clear hzb
                         go_upto_region 30 with (first
                           | (go_at_call 38; refine (target_any tn _ (by omega) (by omega)).mono ?_; rintro e wk9 ⟨rfl, rfl⟩; rw [HZB.out])
                           | (go_at_call 36; refine (rfail_any B q 191 sz bs _ HL10.out.rw HL10.out.ok HEZ.out).mono ?_; rintro e wl ⟨rfl, r9, o9, g9⟩
                              have HL11 := hide (HL10.out.call r9 o9 g9)
                              have HP11 := hide (HP10.out.kept g9 (by omega))
                              clear p5 c2
                              clear r9 o9 g9))
                         apply wp_region_lit
                         refine wpList_load41 rfl (.tmp 9) rfl gp rfl HP11.out ?_
                         simp only [Act.put, List.setIfInBounds_toArray, List.set_cons_zero, List.set_cons_succ]
                         refine wpList_store41 rfl (.tmp 4) (.tmp 128) rfl (w.heap.size + 1) rfl rfl HL11.out.fc (by simp [Value.oneCell']) ?_
                         simp only [Act.put]
                         refine wpList_nil ?_
                         rename_i hK8 hK9
                         show hK8 _ _
                         refine hK9 _ _ ?_
                         refine wp_ret ?_
                         show bodyPost Tryd.prog Tryd.f19 _ Exit.ret _ _
                         refine leaf_end _ _ _ _ _ _ _ rfl HL11.out (fun W r9 o9 g9 _ => ⟨g9, ?_⟩)
                         rw [HLR.out]
                         unfold bodyR
                         rw [if_neg (show ¬ (3 : Int) = 1 by decide), if_pos rfl, HTA.out, HZB.out]
                         exact ⟨⟨_, _, _, _, _, _, _, _, rfl⟩, { sz with e := 191 }, rfl, HDZ.out, r9, o9⟩
                       | false =>
                         have HZB := hide hzb
                         clear hzb
                         go_upto_region 30 with (first
                           | (go_at_call 38; refine (target_any tn _ (by omega) (by omega)).mono ?_; rintro e wk9 ⟨rfl, rfl⟩; rw [HZB.out]))
                         apply wp_region_lit
                         refine wpList_load41 rfl (.tmp 9) rfl gp rfl HP10.out ?_
                         simp only [Act.put, List.setIfInBounds_toArray, List.set_cons_zero, List.set_cons_succ]
                         refine wpList_store41 rfl (.tmp 4) (.tmp 128) rfl (w.heap.size + 1) rfl rfl HL10.out.fc (by simp [Value.oneCell']) ?_
                         simp only [Act.put]
                         refine wpList_nil ?_
                         rename_i hK8 hK9
                         show hK8 _ _
                         refine hK9 _ _ ?_
                         refine wp_ret ?_
                         show bodyPost Tryd.prog Tryd.f19 _ Exit.ret _ _
                         refine leaf_end _ _ _ _ _ _ _ rfl HL10.out (fun W r9 o9 g9 _ => ⟨g9, ?_⟩)
                         rw [HLR.out]
                         unfold bodyR
                         rw [if_neg (show ¬ (3 : Int) = 1 by decide), if_pos rfl, HTA.out, HZB.out]
                         refine ⟨HNV2.out, _, by rw [HPT.out], ?_, sz, HEZ.out, HDZ.out, r9, o9, rfl⟩
                         rw [show (if s.dry then [] else layD 0 []) = ([] : List Int) by cases s.dry <;> rfl]
                         exact World.ownsRow_nil _ _ _ _
                   · have e1 : (t9 == 1) = false := by simp [ht1]
                     have p1 := fb_cell1 HP8.out
                     have e3 : (t9 == 3) = false := by simp [ht3]
                     go_upto_region 30 with fail
                     apply wp_region_lit
                     refine wpList_load41 rfl (.tmp 9) rfl gp rfl HP8.out ?_
                     simp only [Act.put, List.setIfInBounds_toArray, List.set_cons_zero, List.set_cons_succ]
                     refine wpList_store41 rfl (.tmp 4) (.tmp 128) rfl (w.heap.size + 1) rfl rfl HL8.out.fc (by simp [Value.oneCell']) ?_
                     simp only [Act.put]
                     refine wpList_nil ?_
                     rename_i hK8 hK9
                     show hK8 _ _
                     refine hK9 _ _ ?_
                     refine wp_ret ?_
                     show bodyPost Tryd.prog Tryd.f19 _ Exit.ret _ _
                     refine leaf_end _ _ _ _ _ _ _ rfl HL8.out (fun W r9 o9 g9 kp => ⟨g9, ?_⟩)
                     rw [HLR.out]
                     unfold bodyR
                     rw [if_neg (show ¬ t9 = 1 from ht1), if_neg (show ¬ t9 = 3 from ht3)]
                     refine ⟨HNV2.out, _, by rw [HPT.out], ?_, sx7, HDE.out, HDR.out, r9, o9, rfl⟩
                     rw [show (if s.dry then [] else layD 0 []) = ([] : List Int) by cases s.dry <;> rfl]
                     exact World.ownsRow_nil _ _ _ _
end Go.Proofs.YtdiifegljonojaaDoor
