/-
  SEAT Ytgijbpkfheillaa: BlocksFifo's walk.
-/
import Derived.Test.YtgijbpkfheillaaFpC
import Derived.BigGuard
namespace Go.Proofs.Ytgijbpkfheillaa
open Go.RowKit
set_option linter.unusedVariables false

set_option maxRecDepth 100000 in
theorem fifoBad (b P s3 : Int) (a : Option Addr) (len cap : Nat) (bs : List Bk) (cur last : Int) (w : World) (hr : ReadsK w a len bs) (hl : len * 32 ≤ 140737488351232) (h : newE b P s3 len cur last bs ≠ 0) :
    Calls Try.prog 4 #[.agg #[.int .i64 b, .int .i64 P, .int .i64 s3], .slice a len cap, .int .i64 cur, .int .i64 last] w fun e w' => e = .returned (.bool true) ∧ Below w.heap.size w w' := by
  have HR : Hid (ReadsK w a len bs) := hr
  have HE : Hid (newE b P s3 len cur last bs ≠ 0) := h
  clear hr h
  go_enter Try.func4, Try.ntmps4
  go_wp2_with (first | (go_at_call 8; refine (begun_bad b P s3 a len cap cur last bs _ (HR.out.below (ba (Below.refl _ _))) hl HE.out).mono ?_; rintro e u1 ⟨rfl, q1⟩; have Q1 : Hid (Below w.heap.size w u1) := (ba (Below.refl _ _)).trans (q1.mono (by simp)); clear q1))
  go_ret
  exact ⟨rfl, Q1.out⟩

set_option maxHeartbeats 16000000 in
set_option maxRecDepth 100000 in
theorem fifoOk (b P s3 : Int) (a : Option Addr) (len cap : Nat) (bs : List Bk) (cur last : Int) (w : World) (hr : ReadsK w a len bs) (hl : len * 32 ≤ 140737488351232) (h : newE b P s3 len cur last bs = 0) :
    Calls Try.prog 4 #[.agg #[.int .i64 b, .int .i64 P, .int .i64 s3], .slice a len cap, .int .i64 cur, .int .i64 last] w fun e w' => e = .returned (.bool true) ∧ Below w.heap.size w w' := by
  obtain ⟨f1, f2, f3, f4, f5⟩ := newE_ok h
  subst f2
  have hb9 := fits_b f1
  have hp : 4 ≤ P ∧ P ≤ 256 := by omega
  have hbl := hr.1
  have hln : 8 ≤ len ∧ len ≤ 4096 := by omega
  have HM : Hid (MayF P bs) := may_facts f5
  have HR : Hid (ReadsK w a len bs) := hr
  have HE : Hid (newE len P s3 len cur last bs = 0) := h
  obtain ⟨F, hF⟩ : ∃ F, cntP logE (bs.map Bk.ent) len = F := ⟨_, rfl⟩
  have HF : Hid (cntP logE (bs.map Bk.ent) len = F) := hF
  have hFl : F ≤ len := by rw [← hF]; exact cntP_le _ _ _
  have hes : (bs.map Bk.ent).length = len := by simpa using hbl
  clear hr h f1 f3 f4 f5 hb9 hF
  go_enter Try.func4, Try.ntmps4
  go_wp2_with (first
    | (go_at_call 8; refine (begun_ok len P s3 a len cap cur last bs _ (HR.out.below (ba (Below.refl _ _))) hl HE.out).mono ?_; rintro e u1 ⟨gb, gk, gr, gl, v, rfl, K1, R1, q1, k1, k2⟩; have HK1 : Hid (BookAt u1 gb gk P (bs.map Bk.ent) cur last (-1)) := K1; have HR1 : Hid _ := R1; have HLE : Hid (w.heap.size ≤ gb ∧ w.heap.size ≤ gk) := ⟨by simp at k1; omega, by simp at k2; omega⟩; have Q1 : Hid (Below w.heap.size w u1) := (ba (Below.refl _ _)).trans (q1.mono (by simp)); clear q1 k1 k2 K1 R1)
    | (go_at_call 13; refine (logged_count gb gk P (bs.map Bk.ent) cur last (-1) _ HK1.out (by omega)).mono ?_; rintro e u2 ⟨rfl, q2⟩; rw [hes, HF.out]; have HK2 : Hid (BookAt u2 gb gk P (bs.map Bk.ent) cur last (-1)) := HK1.out.below q2; have HR2 : Hid _ := HR1.out.below q2; have Q2 : Hid (Below w.heap.size w u2) := Q1.out.trans (q2.mono Q1.out.size); clear q2)
    | (go_at_call 14; refine (rlogged_count _ gr gl P v bs (List.replicate len false) cur last (-1) _ HR2.out HR.out.2.1 (by simpa using hbl.symm) (by omega)).mono ?_; rintro e u3 ⟨rfl, rfl⟩; rw [hbl, first_logged bs len hbl, HF.out]))
  have HI0 : Hid (FifoI P bs (bs.map Bk.ent) 0 0) := fifo_first HM.out
  clear HK1 HR1 Q1
  go_loopw [12, 14, 15, 16, 17, 18] (fun s12 s14 s15 s16 s17 s18 wr => ∃ (k : Nat) (es : List Ent) (before : Int), k ≤ F ∧ s14 = .int .i64 k ∧ s12 = .int .u64 before ∧ 0 ≤ before ∧ Hid (BookAt wr gb gk P es cur last (-1)) ∧ Hid (FifoI P bs es k before) ∧ Hid (Below w.heap.size w wr))
    (fun _ i _ _ _ _ _ => F + 1 - (intOf i).toNat)
  case atStart => exact ⟨0, _, 0, Nat.zero_le _, rfl, rfl, Int.le_refl _, HK2.out, HI0.out, Q2.out⟩
  case round =>
    obtain ⟨k, es, before, hk, rfl, rfl, hbef, HK, HI, HW⟩ := hrel
    have hel : es.length = len := by have := HI.out.len; omega
    have d0 : (k : Int) ≤ F := by omega
    cases ho : oldE es with
    | none =>
      have hcv : cleanV es = -1 := by unfold cleanV; rw [ho]
      have HO : Hid (oldE es = none) := ho
      have HCV : Hid _ := hcv
      clear ho hcv
      cases hop : openF es es.length with
      | none =>
        have hv9 : openV es = .tuple #[.int .i64 0, .bool false] := by unfold openV; rw [hop]
        have hno := openF_none_le hop
        obtain ⟨A, hA⟩ : ∃ A, cnt [0, 5, 3] es es.length = A := ⟨_, rfl⟩
        obtain ⟨G, hG⟩ : ∃ G : Int, (es.length : Int) - (cnt [6, 4] es es.length : Nat) = G := ⟨_, rfl⟩
        obtain ⟨C, hC⟩ : ∃ C, cntP logE es es.length = C := ⟨_, rfl⟩
        have hA2 : A ≤ 5000 := by rw [← hA]; have := cnt_le [0, 5, 3] es es.length; omega
        have hG2 : 0 ≤ G ∧ G ≤ 5000 := by rw [← hG]; have := cnt_le [6, 4] es es.length; omega
        have hC2 : C ≤ 1 := by rw [← hC, hel, ← hbl]; exact no_open HM.out HI.out HO.out (fun i hi => hno i (by omega))
        have dG : (0 : Int) ≤ (A : Int) + G := by omega
        have dC : (C : Int) ≤ 1 := by omega
        have HV : Hid _ := hv9
        have HA : Hid _ := hA
        have HGG : Hid _ := hG
        have HCC : Hid _ := hC
        clear hv9 hA hG hC hno hop
        go_wp2_with (first
          | (go_at_call 15; refine (clean_any gb gk P es cur last none _ HK.out (by omega) (by simp)).mono ?_; rintro e tA ⟨rfl, b1, g1⟩; rw [HO.out]; simp only [oldV]; have HBA : Hid (BookAt tA gb gk P es cur last (-1)) := (by have h9 := b1; rw [HCV.out] at h9; exact h9); have HWA : Hid (Below w.heap.size w tA) := Grew.below HW.out HW.out.size g1 HLE.out.1 HLE.out.2; clear b1 g1)
          | (go_at_call 19; refine (open_any gb gk P es cur last (-1) _ HBA.out (by omega)).mono ?_; rintro e tB ⟨rfl, q2⟩; rw [HV.out]; have HBB : Hid (BookAt tB gb gk P es cur last (-1)) := HBA.out.below q2; have HWB : Hid (Below w.heap.size w tB) := HWA.out.trans (q2.mono HWA.out.size); clear q2)
          | (go_at_call 20; refine (near_any gb gk P es cur last (-1) _ HBB.out (by omega)).mono ?_; rintro e tC ⟨rfl, q2⟩; rw [HA.out]; have HBC : Hid (BookAt tC gb gk P es cur last (-1)) := HBB.out.below q2; have HWC : Hid (Below w.heap.size w tC) := HWB.out.trans (q2.mono HWB.out.size); clear q2)
          | (go_at_call 11; refine (good_any gb gk P es cur last (-1) _ HBC.out (by omega)).mono ?_; rintro e tD ⟨rfl, q2⟩; rw [HGG.out]; have HBD : Hid (BookAt tD gb gk P es cur last (-1)) := HBC.out.below q2; have HWD : Hid (Below w.heap.size w tD) := HWC.out.trans (q2.mono HWC.out.size); clear q2)
          | (go_at_call 13; refine (logged_count gb gk P es cur last (-1) _ HBD.out (by omega)).mono ?_; rintro e tE ⟨rfl, q2⟩; rw [HCC.out]; have HWE : Hid (Below w.heap.size w tE) := HWD.out.trans (q2.mono HWD.out.size); clear q2))
        go_ret
        exact ⟨by simp, HWE.out⟩
      | some o =>
        have hv9 : openV es = .tuple #[.int .i64 (o : Nat), .bool true] := by unfold openV; rw [hop]
        obtain ⟨hol, hos⟩ := openF_some hop
        have HV : Hid _ := hv9
        obtain ⟨ds, hds⟩ : ∃ ds, dooms es es.length = ds := ⟨_, rfl⟩
        have HAF : Hid (AfterI (bads (es.map comE) ds) len o) := by
          have h9 := after_commit HM.out HI.out HO.out (o := o) (by omega) hos
          rw [hds, hbl] at h9
          exact h9
        have HDS : Hid _ := hds
        have HDM : Hid (∀ d, d ∈ ds → d < len ∧ doneE (es.getD d Ent.zero) = true) := fun d hd => by rw [← hds] at hd; have := (dooms_mem es es.length d).1 hd; exact ⟨by omega, this.2⟩
        have HDN : Hid ds.Nodup := by unfold Hid; rw [← hds]; exact dooms_nodup es es.length
        have hdl : ds.length ≤ len := by rw [← hds]; have := dooms_le es es.length; omega
        have HOS : Hid _ := hos
        clear hv9 hop hds hos
        go_wp2_with (first
          | (go_at_call 15; refine (clean_any gb gk P es cur last none _ HK.out (by omega) (by simp)).mono ?_; rintro e tA ⟨rfl, b1, g1⟩; rw [HO.out]; simp only [oldV]; have HBA : Hid (BookAt tA gb gk P es cur last (-1)) := (by have h9 := b1; rw [HCV.out] at h9; exact h9); have HWA : Hid (Below w.heap.size w tA) := Grew.below HW.out HW.out.size g1 HLE.out.1 HLE.out.2; clear b1 g1)
          | (go_at_call 19; refine (open_any gb gk P es cur last (-1) _ HBA.out (by omega)).mono ?_; rintro e tB ⟨rfl, q2⟩; rw [HV.out]; have HBB : Hid (BookAt tB gb gk P es cur last (-1)) := HBA.out.below q2; have HWB : Hid (Below w.heap.size w tB) := HWA.out.trans (q2.mono HWA.out.size); clear q2)
          | (go_at_call 21; refine (commit_ok gb gk P es cur last (-1) o _ HBB.out (by omega) hol HOS.out).mono ?_; rintro e tC ⟨gv, rfl, o3, b3, g3⟩; rw [HDS.out] at o3; have HOC : Hid (tC.ownsRow tB.heap.size 3 1 gv ds.length (intsN ds)) := o3; have HBC : Hid (BookAt tC gb gk P (es.map comE) cur o (-1)) := b3; have HWC : Hid (Below w.heap.size w tC) := Grew.below HWB.out HWB.out.size g3 HLE.out.1 HLE.out.2; obtain ⟨ga, gc, hgv⟩ : ∃ ga gc, gv = .slice ga ds.length gc := (by rcases o3.2 with ⟨hv, hn⟩ | ⟨g', cap', cu, hv, _⟩; exact ⟨none, 0, by rw [hv, hn]⟩; exact ⟨_, _, hv⟩); subst hgv; clear o3 b3 g3))
        have hgkB : gk < tB.heap.size := lt_of_block HBB.out.row
        have hcl : (es.map comE).length = len := by simpa using hel
        go_loopw [23] (fun s23 wr => ∃ j : Nat, j ≤ ds.length ∧ s23 = .int .i64 j ∧ Hid (BookAt wr gb gk P (bads (es.map comE) (ds.take j)) cur o (-1)) ∧ Hid (wr.ownsRow tB.heap.size 3 1 (.slice ga ds.length gc) ds.length (intsN ds)) ∧ Hid (Below w.heap.size w wr))
          (fun i _ => ds.length - (intOf i).toNat)
        case atStart => exact ⟨0, Nat.zero_le _, rfl, HBC, HOC, HWC⟩
        case round =>
          obtain ⟨j, hj, rfl, HBJ, HOJ, HWJ⟩ := hrel
          have hbj : (bads (es.map comE) (ds.take j)).length = len := by rw [bads_length]; exact hcl
          by_cases hlt : j < ds.length
          · obtain ⟨g5, c5, h5, _⟩ := own_shape HOJ.out (by omega)
            cases h5
            obtain ⟨d, hd⟩ : ∃ d, ds.getD j 0 = d := ⟨_, rfl⟩
            have hmem : d ∈ ds := by rw [← hd, List.getD_eq_getElem?_getD, List.getElem?_eq_getElem hlt]; exact List.getElem_mem hlt
            have y0 : wr.cell? ⟨g5, j, none⟩ = some (.int .i64 (d : Int)) := by
              rw [World.ownsRow.cellAt HOJ.out j (by omega)]
              unfold intsN
              rw [List.getElem?_map, ← hd, List.getD_eq_getElem?_getD, List.getElem?_eq_getElem hlt]
              rfl
            obtain ⟨hdl2, hdn⟩ := HDM.out d hmem
            have HDE : Hid (doneE ((bads (es.map comE) (ds.take j)).getD d Ent.zero) = true) := by
              unfold Hid
              rw [bads_get _ _ _ (fun x hx => by rw [hcl]; exact (HDM.out x (List.mem_of_mem_take hx)).1), if_neg (by rw [← hd]; exact take_fresh HDN.out j hlt), comD]
              have h4 := done_state hdn
              unfold comE
              rw [if_neg (by omega)]
              exact hdn
            have HNE : Hid ((d : Int) ≠ (o : Int)) := fun e => by
              have e2 : d = o := by omega
              rw [e2] at hdn
              have := done_state hdn
              have := HOS.out
              omega
            have HNX : Hid ((bads (es.map comE) (ds.take j)).set d badE = bads (es.map comE) (ds.take (j + 1))) := by
              unfold Hid
              rw [take_next ds j hlt, hd, bads_snoc]
            have dj : (j : Int) < ds.length := by omega
            clear hd hmem hdn
            go_wp2_with (first | (go_at_call 12; refine (bad_done gb gk P _ cur o (-1) d _ HBJ.out (by omega) (by omega) HDE.out HNE.out).mono ?_; rintro e tD ⟨rfl, b4, g4⟩; have HBD : Hid (BookAt tD gb gk P (bads (es.map comE) (ds.take (j + 1))) cur o (-1)) := (by have h9 := b4; rw [← HNX.out]; exact h9); have HOD : Hid (tD.ownsRow tB.heap.size 3 1 (.slice (some ⟨g5, 0, none⟩) ds.length gc) ds.length (intsN ds)) := own_far HOJ.out g4 (fun g hg => by cases hg; exact hgkB); have HWD : Hid (Below w.heap.size w tD) := HWJ.out.grown g4 HWJ.out.size (fun j hj => by cases hj; exact HLE.out.2); clear b4 g4))
            go_roundw
            case rel => exact ⟨j + 1, by omega, by go_num, HBD, HOD, HWD⟩
            case measure => simp [intOf]; omega
          · have hjn : j = ds.length := by omega
            obtain ⟨e2, he2⟩ : ∃ e2, bads (es.map comE) ds = e2 := ⟨_, rfl⟩
            have HBE : Hid (BookAt wr gb gk P e2 cur o (-1)) := by
              have h9 := HBJ.out
              rw [hjn, List.take_of_length_le (Nat.le_refl _), he2] at h9
              exact h9
            rw [he2] at HAF
            have hal := HAF.out.len
            have hao := HAF.out.ol
            clear HBJ HOJ hbj he2 hcl
            subst hjn
            go_wp2_with (first
              | (go_at_call 16; refine (list_any gb gk P e2 cur o (-1) _ HBE.out (by omega)).mono ?_; rintro e tL ⟨rfl, r2, q2⟩; rw [hal]; have HRL : Hid (RowAt tL wr.heap.size (e2.map Ent.bk)) := r2; have HBL : Hid (BookAt tL gb gk P e2 cur o (-1)) := HBE.out.below q2; have HWL : Hid (Below w.heap.size w tL) := HWJ.out.trans (q2.mono HWJ.out.size); clear r2 q2))
            obtain ⟨gL, hgL⟩ : ∃ g, wr.heap.size = g := ⟨_, rfl⟩
            rw [hgL] at HRL ⊢
            clear hgL
            go_loopw [25, 26] (fun s25 s26 wy => ∃ i : Nat, i ≤ len ∧ s26 = .int .i64 i ∧ s25 = .int .i64 (cntN (behB e2 o) i : Nat) ∧ ∃ q, wy = tL.drewN q)
              (fun _ i _ => len - (intOf i).toNat)
            case atStart => exact ⟨0, Nat.zero_le _, rfl, rfl, 0, rfl⟩
            case round =>
              obtain ⟨i, hi, rfl, rfl, q, rfl⟩ := hrel
              have hcn := cntN_le (behB e2 o) i
              by_cases hlt : i < len
              · obtain ⟨X, hX⟩ : ∃ X, e2.getD i Ent.zero = X := ⟨_, rfl⟩
                obtain ⟨Y, hY⟩ : ∃ Y, e2.getD o Ent.zero = Y := ⟨_, rfl⟩
                have HX : Hid _ := hX
                have HY : Hid _ := hY
                obtain ⟨s, h, r, l, lf⟩ := X
                obtain ⟨sy, hy, ry, ly, lfy⟩ := Y
                obtain ⟨x0, x1, x2, x3⟩ := HRL.out.four i (by omega) hX
                obtain ⟨_, y1, _, _⟩ := HRL.out.four o (by omega) hY
                have hee := HAF.out.each i hlt
                rw [hX, hY] at hee
                simp only at hee
                have di : (i : Int) < len := by omega
                have dO : (o : Int) < len := by omega
                have HBV : Hid (behB e2 o i = (decide (i ≠ o) && (s != 0) && (s != 6))) := by unfold Hid behB; rw [HX.out]
                clear hX hY
                by_cases io : i = o
                · have iob : ((i : Int) != (o : Int)) = false := by simp [io]
                  have HN : Hid (cntN (behB e2 o) (i + 1) = cntN (behB e2 o) i) := by unfold Hid; rw [cntN, HBV.out]; simp [io]
                  clear io
                  go_wp2
                  go_roundw
                  case rel => exact ⟨i + 1, by omega, by go_num, by rw [HN.out], _, rfl⟩
                  case measure => simp [intOf]; omega
                · have iob : ((i : Int) != (o : Int)) = true := by simp; omega
                  by_cases s0 : s = 0
                  · subst s0
                    have HN : Hid (cntN (behB e2 o) (i + 1) = cntN (behB e2 o) i) := by unfold Hid; rw [cntN, HBV.out]; simp
                    go_wp2
                    go_roundw
                    case rel => exact ⟨i + 1, by omega, by go_num, by rw [HN.out], _, rfl⟩
                    case measure => simp [intOf]; omega
                  · have s0b : (s != 0) = true := by simpa using s0
                    by_cases s6 : s = 6
                    · subst s6
                      have HN : Hid (cntN (behB e2 o) (i + 1) = cntN (behB e2 o) i) := by unfold Hid; rw [cntN, HBV.out]; simp
                      go_wp2
                      go_roundw
                      case rel => exact ⟨i + 1, by omega, by go_num, by rw [HN.out], _, rfl⟩
                      case measure => simp [intOf]; omega
                    · have s6b : (s != 6) = true := by simpa using s6
                      have hbt : behB e2 o i = true := by rw [HBV.out, s0b, s6b]; simp [io]
                      have HN : Hid (cntN (behB e2 o) (i + 1) = cntN (behB e2 o) i + 1) := by unfold Hid; rw [cntN, hbt]; rfl
                      obtain ⟨hh, h14⟩ := hee hbt
                      have nh : ¬ (h < hy) := by omega
                      clear hbt hee
                      go_upto_region 37 with fail
                      go_cut [236] (fun s236 wx => s236 = .bool false ∧ ∃ q, wx = tL.drewN q)
                      case first =>
                        rcases h14 with rfl | rfl
                        · go_quiet (fail)
                          go_wp2
                          go_meet
                          exact ⟨rfl, _, rfl⟩
                        · go_quiet (fail)
                          go_wp2
                          go_meet
                          exact ⟨rfl, _, rfl⟩
                      case rest =>
                      obtain ⟨rfl, q3, rfl⟩ := hcut
                      go_wp2
                      go_roundw
                      case rel => exact ⟨i + 1, by omega, by go_num, by rw [HN.out]; simp, _, rfl⟩
                      case measure => simp [intOf]; omega
              · have hin : i = len := by omega
                have ha1 := HAF.out.one
                have ha2 := HAF.out.log
                obtain ⟨C, hC⟩ : ∃ C, cntN (behB e2 o) len = C := ⟨_, rfl⟩
                rw [hC] at ha1 ha2
                have HLL : Hid (cntP logE e2 len = C + 1) := ha2
                rw [hin, hC]
                have dC : (C : Int) ≤ 1 := by omega
                clear hC ha2 hin hcn
                go_wp2_with (first | (go_at_call 13; refine (logged_count gb gk P e2 cur o (-1) _ (HBL.out.drewN _) (by omega)).mono ?_; rintro e tM ⟨rfl, q2⟩; rw [hal, HLL.out]; have HWM : Hid (Below w.heap.size w tM) := (below_drewN HWL.out q).trans (q2.mono (below_drewN HWL.out q).size); clear q2))
                go_ret
                exact ⟨by simp; omega, HWM.out⟩
    | some p =>
      obtain ⟨v, hd⟩ := p
      obtain ⟨hvb, hsm, hst, hbf, hnx, hh1, hh2, hl0, hlP⟩ := next_facts HM.out HI.out ho
      have hmo : k < F := by have := HI.out.more ho; rw [hbl, HF.out] at this; exact this
      have hcv : cleanV es = (v : Int) := by unfold cleanV; rw [ho]
      obtain ⟨hd1, hcand, _, ⟨xx, hxl, hxe⟩, _⟩ := old_facts ho
      have HCand : Hid _ := hcand
      obtain ⟨X, hX⟩ : ∃ X, bs.getD v Bk.zero = X := ⟨_, rfl⟩
      have HX : Hid _ := hX
      rw [hX] at hsm hst hbf hnx hh1 hh2 hl0 hlP
      obtain ⟨s, h, r, l⟩ := X
      simp only [Bk.ent] at hsm hst hbf hnx hh1 hh2 hl0 hlP
      have HSM : Hid (es.getD v Ent.zero = ⟨s, h, r, l, false⟩) := hsm
      have HO : Hid (oldE es = some (v, hd)) := ho
      have HCV : Hid _ := hcv
      have hvl : v < len := by omega
      obtain ⟨g, off, rfl, hgl, hcell⟩ := HR.out.pos (by omega)
      have hc9 := hcell v hvl
      rw [hX] at hc9
      have HC9 : Hid _ := hc9
      have HGL : Hid (g < w.heap.size) := hgl
      have dA : ((k : Int) == F) = false := by simp; omega
      have dB : ¬ (h ≤ before) := by omega
      have dC : ¬ (hd ≤ h) := by omega
      have dD : (v : Int) < len := by omega
      clear ho hcv hX hsm hc9 hcell hgl hcand hxe
      go_upto_region 14 with (first
        | (go_at_call 15; refine (clean_any gb gk P es cur last none _ HK.out (by omega) (by simp)).mono ?_; rintro e tA ⟨rfl, b1, g1⟩; rw [HO.out]; simp only [oldV]; have HBA : Hid (BookAt tA gb gk P es cur last (v : Int)) := (by have h9 := b1; rw [HCV.out] at h9; exact h9); have HWA : Hid (Below w.heap.size w tA) := Grew.below HW.out HW.out.size g1 HLE.out.1 HLE.out.2; clear b1 g1)
        | (go_at_call 16; refine (list_any gb gk P es cur last (v : Int) _ HBA.out (by omega)).mono ?_; rintro e tB ⟨rfl, r2, q2⟩; rw [hel]; obtain ⟨x0, x1, x2, x3⟩ := r2.four v (by omega) HSM.out; have hlB : tA.heap.size < tB.heap.size := lt_of_block r2; have HBB : Hid (BookAt tB gb gk P es cur last (v : Int)) := HBA.out.below q2; have HWB : Hid (Below w.heap.size w tB) := HWA.out.trans (q2.mono HWA.out.size); obtain ⟨y0, y1, y2, y3⟩ := HC9.out; rw [← HWB.out.cell HGL.out] at y0 y1 y2 y3; have hgB : g < tB.heap.size := Nat.lt_of_lt_of_le HGL.out HWB.out.size; clear r2 q2))
      go_cut [99] (fun s99 wx => s99 = .bool false ∧ Below (tB.alloc (.cells #[.int .i64 s, .int .u64 h, .bool r, .int .i64 l] 34)).heap.size (tB.alloc (.cells #[.int .i64 s, .int .u64 h, .bool r, .int .i64 l] 34)) wx)
      case first =>
        rcases hst with rfl | rfl
        · go_quiet (fail)
          go_wp2
          go_meet
          exact ⟨by have e1 : decide (h ≤ before) = false := decide_eq_false (by omega); have e2 : decide (hd ≤ h) = false := decide_eq_false (by omega); rw [e1, e2]; rfl, below_drewN (Below.refl _ _) _⟩
        · go_quiet (fail)
          go_wp2
          go_meet
          exact ⟨by have e1 : decide (h ≤ before) = false := decide_eq_false (by omega); have e2 : decide (hd ≤ h) = false := decide_eq_false (by omega); rw [e1, e2]; rfl, below_drewN (Below.refl _ _) _⟩
      case rest =>
      obtain ⟨rfl, qX⟩ := hcut
      obtain ⟨z0, z1, z2, z3⟩ := box4 qX
      have bX : Below tB.heap.size tB wc := below1 qX
      have HBX : Hid (BookAt wc gb gk P es cur last (v : Int)) := HBB.out.below bX
      have HWX : Hid (Below w.heap.size w wc) := HWB.out.trans (bX.mono HWB.out.size)
      have hbx : tB.heap.size < wc.heap.size := by have := qX.size; simp at this; omega
      have hgbB : gb < tB.heap.size := lt_of_block HBB.out.box
      have hgkB : gk < tB.heap.size := lt_of_block HBB.out.row
      have nw : IntKind.i64.wrap (-l) = -l := by rw [IntKind.wrap_i64]; omega
      clear qX bX x0 x1 x2 x3 y0 y1 y2 y3 dA dB dC
      go_upto_region 19 with (first
        | (go_at_call 17; refine (live_ok gb gk P es cur last (v : Int) v (-l) _ HBX.out (by omega) (by omega) hp (cand_of.1 HCand.out).1 (by rw [HSM.out]; show 0 ≤ l + -l; omega) (by rw [HSM.out]; show l + -l ≤ P - 1; omega)).mono ?_; rintro e tC ⟨rfl, b3, g3⟩; have HBC : Hid (BookAt tC gb gk P (es.set v { es.getD v Ent.zero with l := 0 }) cur last (v : Int)) := (by have h9 := b3; rw [show (-l : Int) = -(es.getD v Ent.zero).l by rw [HSM.out], fifo_live] at h9; exact h9); have HWC : Hid (Below w.heap.size w tC) := HWX.out.grown g3 HWX.out.size (fun j hj => by cases hj; exact HLE.out.2); have c0 : tC.cell? ⟨tB.heap.size, 0, none⟩ = some (.int .i64 s) := g3.cell z0 (by simp; omega); have c2 : tC.cell? ⟨tB.heap.size, 2, none⟩ = some (.bool r) := g3.cell z2 (by simp; omega); have hbC : tB.heap.size < tC.heap.size := (by have := g3.size; omega); clear b3 g3))
      have HSE : Hid ((es.set v { es.getD v Ent.zero with l := 0 }).getD v Ent.zero = ⟨s, h, r, 0, false⟩) := by unfold Hid; rw [getD_set_same _ _ _ (by omega), HSM.out]
      have HSC : Hid (candE ((es.set v { es.getD v Ent.zero with l := 0 }).getD v Ent.zero) = true) := by
        unfold Hid
        rw [HSE.out]
        have h9 := HCand.out
        rw [HSM.out] at h9
        exact h9
      have HSL : Hid (((es.set v { es.getD v Ent.zero with l := 0 }).getD v Ent.zero).l = 0) := by unfold Hid; rw [HSE.out]
      clear z0 z1 z2 z3
      go_cut [143] (fun s143 wx => s143 = .bool false ∧ Hid (BookAt wx gb gk P (es.set v (gone0 (es.getD v Ent.zero))) cur last (-1)) ∧ Hid (Below w.heap.size w wx))
      case first =>
        refine wp_region_held_drew (S := (fun x => x.cell? ⟨tB.heap.size, 0, none⟩ = some (.int .i64 s) ∧ x.cell? ⟨tB.heap.size, 2, none⟩ = some (.bool r))) (by kernel_rfl) (⟨c0, c2⟩) (fun hHeld => ?_)
        refine wpAnyH_take (i := 0) (oi := { dst := some 109, op := Op.move (Operand.tmp 9), type := 25, pos := "law.go:290", after := #[], guard := none }) (v := ?v0z) rfl (by kernel_rfl) (by kernel_rfl) (by kernel_rfl) (fun _ _ _ h => h) (Or.inl ⟨by rfl, ?y0z⟩) (by assumption) ?r0z
        case y0z => (intro x hx; (try dsimp only at hx); go_simp; try with_reducible rfl)
        try simp only [Act.put, List.setIfInBounds_toArray, List.set_cons_zero, List.set_cons_succ]
        refine wpAnyH_take (i := 2) (oi := { dst := some 111, op := Op.move (Operand.tmp 15), type := 3, pos := "law.go:290", after := #[], guard := none }) (v := ?v2z) rfl (by kernel_rfl) (by kernel_rfl) (by kernel_rfl) (fun _ _ _ h => h) (Or.inl ⟨by rfl, ?y2z⟩) (by assumption) ?r2z
        case y2z => (intro x hx; (try dsimp only at hx); go_simp; try with_reducible rfl)
        try simp only [Act.put, List.setIfInBounds_toArray, List.set_cons_zero, List.set_cons_succ]
        refine wpAnyH_take (i := 6) (oi := { dst := some 115, op := Op.fieldAddr 34 (Operand.tmp 18) 0, type := 0, pos := "law.go:290", after := #[], guard := none }) (v := ?v6z) rfl (by kernel_rfl) (by kernel_rfl) (by kernel_rfl) (fun _ _ _ h => h) (Or.inl ⟨by rfl, ?y6z⟩) (by assumption) ?r6z
        case y6z => (intro x hx; (try dsimp only at hx); go_simp; try with_reducible rfl)
        try simp only [Act.put, List.setIfInBounds_toArray, List.set_cons_zero, List.set_cons_succ]
        refine wpAnyH_take (i := 7) (oi := { dst := some 116, op := Op.load 3 (Operand.tmp 115), type := 3, pos := "law.go:290", after := #[{ on := 6, ground := Ground.data }], guard := none }) (v := ?v7z) rfl (by kernel_rfl) (by kernel_rfl) (by kernel_rfl) (fun _ _ _ h => h) (Or.inl ⟨by rfl, ?y7z⟩) (by assumption) ?r7z
        case y7z => (intro x hx; (try dsimp only at hx); go_simp; try with_reducible rfl)
        try simp only [Act.put, List.setIfInBounds_toArray, List.set_cons_zero, List.set_cons_succ]
        refine wpAnyH_ready (rs := [1]) (by kernel_rfl) (by simp) ?_
        refine AllReadyH.cons (o := { dst := some 110, op := Op.call { callee := Callee.value (Operand.func 16), args := #[Operand.tmp 109], argTypes := #[25] }, type := 24, pos := "law.go:290", after := #[{ on := 0, ground := Ground.data }], guard := none }) rfl (fun K hK => ?_) AllReadyH.nil
        go_simp
        go_at_call 16
        refine (list_any gb gk P (es.set v { es.getD v Ent.zero with l := 0 }) cur last (v : Int) _ (HBC.out.below (Below.refl _ _).drew) (by simp; omega)).mono ?_
        rintro e tD ⟨rfl, r2, q2⟩
        rw [List.length_set, hel]
        have r3 : RowAt tD tC.heap.size ((es.set v { es.getD v Ent.zero with l := 0 }).map Ent.bk) := r2
        obtain ⟨tD0, tD1, tD2, tD3⟩ := r3.four v (by simp; omega) HSE.out
        have HBtD : Hid (BookAt tD gb gk P (es.set v { es.getD v Ent.zero with l := 0 }) cur last (v : Int)) := BookAt.below (HBC.out.below (Below.refl _ _).drew) q2
        have HWtD : Hid (Below w.heap.size w tD) := Below.trans (HWC.out.drew) (q2.mono (Below.size (HWC.out.drew)))
        have HStD : Hid ((fun x => x.cell? ⟨tB.heap.size, 0, none⟩ = some (.int .i64 s) ∧ x.cell? ⟨tB.heap.size, 2, none⟩ = some (.bool r)) tD) := ⟨(q2.cell (Nat.lt_of_lt_of_le hbC (Nat.le_refl _))).trans hHeld.1, (q2.cell (Nat.lt_of_lt_of_le hbC (Nat.le_refl _))).trans hHeld.2⟩
        have hletD : tC.heap.size ≤ tD.heap.size := Nat.le_trans (Nat.le_refl _) q2.size
        have hSnew := HStD.out
        clear r2 q2 r3
        go_wp2_with fail
        refine hK.out _ _ hSnew (fun hHeld1 => ?_)
        clear hK K hSnew
        clear hHeld
        have hHeld := hHeld1
        clear hHeld1
        try simp only [Act.put, List.setIfInBounds_toArray, List.set_cons_zero, List.set_cons_succ]
        refine wpAnyH_take (i := 3) (oi := { dst := some 112, op := Op.indexAddr 24 (Operand.tmp 110) (Operand.tmp 111), type := 0, pos := "law.go:290", after := #[{ on := 1, ground := Ground.data }, { on := 2, ground := Ground.data }], guard := none }) (v := ?v3z) rfl (by kernel_rfl) (by kernel_rfl) (by kernel_rfl) (fun _ _ _ h => h) (Or.inl ⟨by rfl, ?y3z⟩) (by assumption) ?r3z
        case y3z => (intro x hx; (try dsimp only at hx); go_simp; try with_reducible rfl)
        try simp only [Act.put, List.setIfInBounds_toArray, List.set_cons_zero, List.set_cons_succ]
        refine wpAnyH_take (i := 4) (oi := { dst := some 113, op := Op.fieldAddr 34 (Operand.tmp 112) 0, type := 0, pos := "law.go:290", after := #[{ on := 3, ground := Ground.data }], guard := none }) (v := ?v4z) rfl (by kernel_rfl) (by kernel_rfl) (by kernel_rfl) (fun _ _ _ h => h) (Or.inl ⟨by rfl, ?y4z⟩) (by assumption) ?r4z
        case y4z => (intro x hx; (try dsimp only at hx); go_simp; try with_reducible rfl)
        try simp only [Act.put, List.setIfInBounds_toArray, List.set_cons_zero, List.set_cons_succ]
        refine wpAnyH_ready (rs := [5]) (by kernel_rfl) (by simp) ?_
        refine AllReadyH.cons (o := { dst := some 114, op := Op.load 3 (Operand.tmp 113), type := 3, pos := "law.go:290", after := #[{ on := 4, ground := Ground.data }], guard := none }) rfl (fun K hK => ?_) AllReadyH.nil
        go_simp
        go_wp2_with fail
        refine hK.out _ _ hHeld (fun hHeld5 => ?_)
        clear hK K
        clear hHeld5
        try simp only [Act.put, List.setIfInBounds_toArray, List.set_cons_zero, List.set_cons_succ]
        refine wpAnyH_take (i := 8) (oi := { dst := some 117, op := Op.binOp BinOp.neq 3 (Operand.tmp 114) (Operand.tmp 116) 3, type := 4, pos := "law.go:290", after := #[{ on := 5, ground := Ground.data }, { on := 7, ground := Ground.data }], guard := none }) (v := ?v8z) rfl (by kernel_rfl) (by kernel_rfl) (by kernel_rfl) (fun _ _ _ h => h) (Or.inl ⟨by rfl, ?y8z⟩) (by assumption) ?r8z
        case y8z => (intro x hx; (try dsimp only at hx); go_simp; try with_reducible rfl)
        try simp only [Act.put, List.setIfInBounds_toArray, List.set_cons_zero, List.set_cons_succ]
        refine wpAnyH_take (i := 9) (oi := { dst := some 118, op := Op.move (Operand.tmp 117), type := 4, pos := "law.go:290", after := #[{ on := 8, ground := Ground.data }, { on := 1, ground := Ground.chain }], guard := none }) (v := ?v9z) rfl (by kernel_rfl) (by kernel_rfl) (by kernel_rfl) (fun _ _ _ h => h) (Or.inl ⟨by rfl, ?y9z⟩) (by assumption) ?r9z
        case y9z => (intro x hx; (try dsimp only at hx); go_simp; try with_reducible rfl)
        try simp only [Act.put, List.setIfInBounds_toArray, List.set_cons_zero, List.set_cons_succ]
        refine wpAnyH_take (i := 10) (oi := { dst := some 119, op := Op.move (Operand.tmp 9), type := 25, pos := "law.go:290", after := #[{ on := 9, ground := Ground.guard }], guard := some (9, false) }) (v := ?v10z) rfl (by kernel_rfl) (by kernel_rfl) (by kernel_rfl) (fun _ _ _ h => h) (Or.inl ⟨by rfl, ?y10z⟩) (by assumption) ?r10z
        case y10z => (intro x hx; (try dsimp only at hx); go_simp; try with_reducible rfl)
        try simp only [Act.put, List.setIfInBounds_toArray, List.set_cons_zero, List.set_cons_succ]
        refine wpAnyH_take (i := 12) (oi := { dst := some 121, op := Op.move (Operand.tmp 15), type := 3, pos := "law.go:290", after := #[{ on := 9, ground := Ground.guard }], guard := some (9, false) }) (v := ?v12z) rfl (by kernel_rfl) (by kernel_rfl) (by kernel_rfl) (fun _ _ _ h => h) (Or.inl ⟨by rfl, ?y12z⟩) (by assumption) ?r12z
        case y12z => (intro x hx; (try dsimp only at hx); go_simp; try with_reducible rfl)
        try simp only [Act.put, List.setIfInBounds_toArray, List.set_cons_zero, List.set_cons_succ]
        refine wpAnyH_ready (rs := [11]) (by kernel_rfl) (by simp) ?_
        refine AllReadyH.cons (o := { dst := some 120, op := Op.call { callee := Callee.value (Operand.func 16), args := #[Operand.tmp 119], argTypes := #[25] }, type := 24, pos := "law.go:290", after := #[{ on := 10, ground := Ground.data }, { on := 9, ground := Ground.chain }, { on := 9, ground := Ground.guard }], guard := some (9, false) }) rfl (fun K hK => ?_) AllReadyH.nil
        go_simp
        go_at_call 16
        refine (list_any gb gk P (es.set v { es.getD v Ent.zero with l := 0 }) cur last (v : Int) _ HBtD.out (by simp; omega)).mono ?_
        rintro e tE ⟨rfl, r2, q2⟩
        rw [List.length_set, hel]
        have r3 : RowAt tE tD.heap.size ((es.set v { es.getD v Ent.zero with l := 0 }).map Ent.bk) := r2
        obtain ⟨tE0, tE1, tE2, tE3⟩ := r3.four v (by simp; omega) HSE.out
        have HBtE : Hid (BookAt tE gb gk P (es.set v { es.getD v Ent.zero with l := 0 }) cur last (v : Int)) := BookAt.below HBtD.out q2
        have HWtE : Hid (Below w.heap.size w tE) := Below.trans HWtD.out (q2.mono (Below.size HWtD.out))
        have HStE : Hid ((fun x => x.cell? ⟨tB.heap.size, 0, none⟩ = some (.int .i64 s) ∧ x.cell? ⟨tB.heap.size, 2, none⟩ = some (.bool r)) tE) := ⟨(q2.cell (Nat.lt_of_lt_of_le hbC hletD)).trans hHeld.1, (q2.cell (Nat.lt_of_lt_of_le hbC hletD)).trans hHeld.2⟩
        have hletE : tC.heap.size ≤ tE.heap.size := Nat.le_trans hletD q2.size
        have hSnew := HStE.out
        clear r2 q2 r3
        go_wp2_with fail
        refine hK.out _ _ hSnew (fun hHeld11 => ?_)
        clear hK K hSnew
        clear hHeld
        have hHeld := hHeld11
        clear hHeld11
        try simp only [Act.put, List.setIfInBounds_toArray, List.set_cons_zero, List.set_cons_succ]
        refine wpAnyH_take (i := 13) (oi := { dst := some 122, op := Op.indexAddr 24 (Operand.tmp 120) (Operand.tmp 121), type := 0, pos := "law.go:290", after := #[{ on := 11, ground := Ground.data }, { on := 12, ground := Ground.data }, { on := 9, ground := Ground.guard }], guard := some (9, false) }) (v := ?v13z) rfl (by kernel_rfl) (by kernel_rfl) (by kernel_rfl) (fun _ _ _ h => h) (Or.inl ⟨by rfl, ?y13z⟩) (by assumption) ?r13z
        case y13z => (intro x hx; (try dsimp only at hx); go_simp; try with_reducible rfl)
        try simp only [Act.put, List.setIfInBounds_toArray, List.set_cons_zero, List.set_cons_succ]
        refine wpAnyH_take (i := 14) (oi := { dst := some 123, op := Op.fieldAddr 34 (Operand.tmp 122) 3, type := 0, pos := "law.go:290", after := #[{ on := 13, ground := Ground.data }, { on := 9, ground := Ground.guard }], guard := some (9, false) }) (v := ?v14z) rfl (by kernel_rfl) (by kernel_rfl) (by kernel_rfl) (fun _ _ _ h => h) (Or.inl ⟨by rfl, ?y14z⟩) (by assumption) ?r14z
        case y14z => (intro x hx; (try dsimp only at hx); go_simp; try with_reducible rfl)
        try simp only [Act.put, List.setIfInBounds_toArray, List.set_cons_zero, List.set_cons_succ]
        refine wpAnyH_ready (rs := [15]) (by kernel_rfl) (by simp) ?_
        refine AllReadyH.cons (o := { dst := some 124, op := Op.load 3 (Operand.tmp 123), type := 3, pos := "law.go:290", after := #[{ on := 14, ground := Ground.data }, { on := 9, ground := Ground.guard }], guard := some (9, false) }) rfl (fun K hK => ?_) AllReadyH.nil
        go_simp
        go_wp2_with fail
        refine hK.out _ _ hHeld (fun hHeld15 => ?_)
        clear hK K
        clear hHeld15
        try simp only [Act.put, List.setIfInBounds_toArray, List.set_cons_zero, List.set_cons_succ]
        refine wpAnyH_take (i := 16) (oi := { dst := some 125, op := Op.binOp BinOp.neq 3 (Operand.tmp 124) (Operand.const (Value.int IntKind.i64 0)) 3, type := 4, pos := "law.go:290", after := #[{ on := 15, ground := Ground.data }, { on := 9, ground := Ground.guard }], guard := some (9, false) }) (v := ?v16z) rfl (by kernel_rfl) (by kernel_rfl) (by kernel_rfl) (fun _ _ _ h => h) (Or.inl ⟨by rfl, ?y16z⟩) (by assumption) ?r16z
        case y16z => (intro x hx; (try dsimp only at hx); go_simp; try with_reducible rfl)
        try simp only [Act.put, List.setIfInBounds_toArray, List.set_cons_zero, List.set_cons_succ]
        refine wpAnyH_take (i := 17) (oi := { dst := some 126, op := Op.pick (Operand.tmp 118) (Operand.const (Value.bool true)) (Operand.tmp 125), type := 4, pos := "law.go:290", after := #[{ on := 9, ground := Ground.data }, { on := 16, ground := Ground.data }], guard := none }) (v := ?v17z) rfl (by kernel_rfl) (by kernel_rfl) (by kernel_rfl) (fun _ _ _ h => h) (Or.inl ⟨by rfl, ?y17z⟩) (by assumption) ?r17z
        case y17z => (intro x hx; (try dsimp only at hx); go_simp; try with_reducible rfl)
        try simp only [Act.put, List.setIfInBounds_toArray, List.set_cons_zero, List.set_cons_succ]
        refine wpAnyH_take (i := 18) (oi := { dst := some 127, op := Op.move (Operand.tmp 126), type := 4, pos := "law.go:290", after := #[{ on := 17, ground := Ground.data }, { on := 11, ground := Ground.chain }], guard := none }) (v := ?v18z) rfl (by kernel_rfl) (by kernel_rfl) (by kernel_rfl) (fun _ _ _ h => h) (Or.inl ⟨by rfl, ?y18z⟩) (by assumption) ?r18z
        case y18z => (intro x hx; (try dsimp only at hx); go_simp; try with_reducible rfl)
        try simp only [Act.put, List.setIfInBounds_toArray, List.set_cons_zero, List.set_cons_succ]
        refine wpAnyH_take (i := 19) (oi := { dst := some 128, op := Op.move (Operand.tmp 9), type := 25, pos := "law.go:290", after := #[{ on := 18, ground := Ground.guard }], guard := some (18, false) }) (v := ?v19z) rfl (by kernel_rfl) (by kernel_rfl) (by kernel_rfl) (fun _ _ _ h => h) (Or.inl ⟨by rfl, ?y19z⟩) (by assumption) ?r19z
        case y19z => (intro x hx; (try dsimp only at hx); go_simp; try with_reducible rfl)
        try simp only [Act.put, List.setIfInBounds_toArray, List.set_cons_zero, List.set_cons_succ]
        refine wpAnyH_take (i := 21) (oi := { dst := some 130, op := Op.move (Operand.tmp 15), type := 3, pos := "law.go:290", after := #[{ on := 18, ground := Ground.guard }], guard := some (18, false) }) (v := ?v21z) rfl (by kernel_rfl) (by kernel_rfl) (by kernel_rfl) (fun _ _ _ h => h) (Or.inl ⟨by rfl, ?y21z⟩) (by assumption) ?r21z
        case y21z => (intro x hx; (try dsimp only at hx); go_simp; try with_reducible rfl)
        try simp only [Act.put, List.setIfInBounds_toArray, List.set_cons_zero, List.set_cons_succ]
        refine wpAnyH_take (i := 25) (oi := { dst := some 134, op := Op.fieldAddr 34 (Operand.tmp 18) 2, type := 0, pos := "law.go:290", after := #[{ on := 18, ground := Ground.guard }], guard := some (18, false) }) (v := ?v25z) rfl (by kernel_rfl) (by kernel_rfl) (by kernel_rfl) (fun _ _ _ h => h) (Or.inl ⟨by rfl, ?y25z⟩) (by assumption) ?r25z
        case y25z => (intro x hx; (try dsimp only at hx); go_simp; try with_reducible rfl)
        try simp only [Act.put, List.setIfInBounds_toArray, List.set_cons_zero, List.set_cons_succ]
        refine wpAnyH_take (i := 26) (oi := { dst := some 135, op := Op.load 4 (Operand.tmp 134), type := 4, pos := "law.go:290", after := #[{ on := 25, ground := Ground.data }, { on := 18, ground := Ground.guard }], guard := some (18, false) }) (v := ?v26z) rfl (by kernel_rfl) (by kernel_rfl) (by kernel_rfl) (fun _ _ _ h => h) (Or.inl ⟨by rfl, ?y26z⟩) (by assumption) ?r26z
        case y26z => (intro x hx; (try dsimp only at hx); go_simp; try with_reducible rfl)
        try simp only [Act.put, List.setIfInBounds_toArray, List.set_cons_zero, List.set_cons_succ]
        refine wpAnyH_ready (rs := [20]) (by kernel_rfl) (by simp) ?_
        refine AllReadyH.cons (o := { dst := some 129, op := Op.call { callee := Callee.value (Operand.func 16), args := #[Operand.tmp 128], argTypes := #[25] }, type := 24, pos := "law.go:290", after := #[{ on := 19, ground := Ground.data }, { on := 18, ground := Ground.chain }, { on := 18, ground := Ground.guard }], guard := some (18, false) }) rfl (fun K hK => ?_) AllReadyH.nil
        go_simp
        go_at_call 16
        refine (list_any gb gk P (es.set v { es.getD v Ent.zero with l := 0 }) cur last (v : Int) _ HBtE.out (by simp; omega)).mono ?_
        rintro e tF ⟨rfl, r2, q2⟩
        rw [List.length_set, hel]
        have r3 : RowAt tF tE.heap.size ((es.set v { es.getD v Ent.zero with l := 0 }).map Ent.bk) := r2
        obtain ⟨tF0, tF1, tF2, tF3⟩ := r3.four v (by simp; omega) HSE.out
        have HBtF : Hid (BookAt tF gb gk P (es.set v { es.getD v Ent.zero with l := 0 }) cur last (v : Int)) := BookAt.below HBtE.out q2
        have HWtF : Hid (Below w.heap.size w tF) := Below.trans HWtE.out (q2.mono (Below.size HWtE.out))
        have HStF : Hid ((fun x => x.cell? ⟨tB.heap.size, 0, none⟩ = some (.int .i64 s) ∧ x.cell? ⟨tB.heap.size, 2, none⟩ = some (.bool r)) tF) := ⟨(q2.cell (Nat.lt_of_lt_of_le hbC hletE)).trans hHeld.1, (q2.cell (Nat.lt_of_lt_of_le hbC hletE)).trans hHeld.2⟩
        have hletF : tC.heap.size ≤ tF.heap.size := Nat.le_trans hletE q2.size
        have hSnew := HStF.out
        clear r2 q2 r3
        go_wp2_with fail
        refine hK.out _ _ hSnew (fun hHeld20 => ?_)
        clear hK K hSnew
        clear hHeld
        have hHeld := hHeld20
        clear hHeld20
        try simp only [Act.put, List.setIfInBounds_toArray, List.set_cons_zero, List.set_cons_succ]
        refine wpAnyH_take (i := 22) (oi := { dst := some 131, op := Op.indexAddr 24 (Operand.tmp 129) (Operand.tmp 130), type := 0, pos := "law.go:290", after := #[{ on := 20, ground := Ground.data }, { on := 21, ground := Ground.data }, { on := 18, ground := Ground.guard }], guard := some (18, false) }) (v := ?v22z) rfl (by kernel_rfl) (by kernel_rfl) (by kernel_rfl) (fun _ _ _ h => h) (Or.inl ⟨by rfl, ?y22z⟩) (by assumption) ?r22z
        case y22z => (intro x hx; (try dsimp only at hx); go_simp; try with_reducible rfl)
        try simp only [Act.put, List.setIfInBounds_toArray, List.set_cons_zero, List.set_cons_succ]
        refine wpAnyH_take (i := 23) (oi := { dst := some 132, op := Op.fieldAddr 34 (Operand.tmp 131) 2, type := 0, pos := "law.go:290", after := #[{ on := 22, ground := Ground.data }, { on := 18, ground := Ground.guard }], guard := some (18, false) }) (v := ?v23z) rfl (by kernel_rfl) (by kernel_rfl) (by kernel_rfl) (fun _ _ _ h => h) (Or.inl ⟨by rfl, ?y23z⟩) (by assumption) ?r23z
        case y23z => (intro x hx; (try dsimp only at hx); go_simp; try with_reducible rfl)
        try simp only [Act.put, List.setIfInBounds_toArray, List.set_cons_zero, List.set_cons_succ]
        refine wpAnyH_ready (rs := [24]) (by kernel_rfl) (by simp) ?_
        refine AllReadyH.cons (o := { dst := some 133, op := Op.load 4 (Operand.tmp 132), type := 4, pos := "law.go:290", after := #[{ on := 23, ground := Ground.data }, { on := 18, ground := Ground.guard }], guard := some (18, false) }) rfl (fun K hK => ?_) AllReadyH.nil
        go_simp
        go_wp2_with fail
        refine hK.out _ _ hHeld (fun hHeld24 => ?_)
        clear hK K
        clear hHeld24
        try simp only [Act.put, List.setIfInBounds_toArray, List.set_cons_zero, List.set_cons_succ]
        refine wpAnyH_take (i := 27) (oi := { dst := some 136, op := Op.binOp BinOp.neq 4 (Operand.tmp 133) (Operand.tmp 135) 4, type := 4, pos := "law.go:290", after := #[{ on := 24, ground := Ground.data }, { on := 26, ground := Ground.data }, { on := 18, ground := Ground.guard }], guard := some (18, false) }) (v := ?v27z) rfl (by kernel_rfl) (by kernel_rfl) (by kernel_rfl) (fun _ _ _ h => h) (Or.inl ⟨by rfl, ?y27z⟩) (by assumption) ?r27z
        case y27z => (intro x hx; (try dsimp only at hx); go_simp; try with_reducible rfl)
        try simp only [Act.put, List.setIfInBounds_toArray, List.set_cons_zero, List.set_cons_succ]
        refine wpAnyH_take (i := 28) (oi := { dst := some 137, op := Op.pick (Operand.tmp 127) (Operand.const (Value.bool true)) (Operand.tmp 136), type := 4, pos := "law.go:290", after := #[{ on := 18, ground := Ground.data }, { on := 27, ground := Ground.data }], guard := none }) (v := ?v28z) rfl (by kernel_rfl) (by kernel_rfl) (by kernel_rfl) (fun _ _ _ h => h) (Or.inl ⟨by rfl, ?y28z⟩) (by assumption) ?r28z
        case y28z => (intro x hx; (try dsimp only at hx); go_simp; try with_reducible rfl)
        try simp only [Act.put, List.setIfInBounds_toArray, List.set_cons_zero, List.set_cons_succ]
        refine wpAnyH_take (i := 29) (oi := { dst := some 138, op := Op.move (Operand.tmp 137), type := 4, pos := "law.go:290", after := #[{ on := 28, ground := Ground.data }, { on := 20, ground := Ground.chain }], guard := none }) (v := ?v29z) rfl (by kernel_rfl) (by kernel_rfl) (by kernel_rfl) (fun _ _ _ h => h) (Or.inl ⟨by rfl, ?y29z⟩) (by assumption) ?r29z
        case y29z => (intro x hx; (try dsimp only at hx); go_simp; try with_reducible rfl)
        try simp only [Act.put, List.setIfInBounds_toArray, List.set_cons_zero, List.set_cons_succ]
        refine wpAnyH_take (i := 30) (oi := { dst := some 139, op := Op.move (Operand.tmp 9), type := 25, pos := "law.go:290", after := #[{ on := 29, ground := Ground.guard }], guard := some (29, false) }) (v := ?v30z) rfl (by kernel_rfl) (by kernel_rfl) (by kernel_rfl) (fun _ _ _ h => h) (Or.inl ⟨by rfl, ?y30z⟩) (by assumption) ?r30z
        case y30z => (intro x hx; (try dsimp only at hx); go_simp; try with_reducible rfl)
        try simp only [Act.put, List.setIfInBounds_toArray, List.set_cons_zero, List.set_cons_succ]
        refine wpAnyH_take (i := 31) (oi := { dst := some 140, op := Op.move (Operand.tmp 15), type := 3, pos := "law.go:290", after := #[{ on := 29, ground := Ground.guard }], guard := some (29, false) }) (v := ?v31z) rfl (by kernel_rfl) (by kernel_rfl) (by kernel_rfl) (fun _ _ _ h => h) (Or.inl ⟨by rfl, ?y31z⟩) (by assumption) ?r31z
        case y31z => (intro x hx; (try dsimp only at hx); go_simp; try with_reducible rfl)
        try simp only [Act.put, List.setIfInBounds_toArray, List.set_cons_zero, List.set_cons_succ]
        refine wpAnyH_ready (rs := [32]) (by kernel_rfl) (by simp) ?_
        refine AllReadyH.cons (o := { dst := some 141, op := Op.call { callee := Callee.value (Operand.func 18), args := #[Operand.tmp 139, Operand.tmp 140], argTypes := #[25, 3] }, type := 38, pos := "law.go:290", after := #[{ on := 30, ground := Ground.data }, { on := 31, ground := Ground.data }, { on := 29, ground := Ground.chain }, { on := 29, ground := Ground.guard }], guard := some (29, false) }) rfl (fun K hK => ?_) AllReadyH.nil
        go_simp
        go_at_call 18
        refine (leave_ok gb gk P (es.set v { es.getD v Ent.zero with l := 0 }) cur last (v : Int) v _ HBtF.out (by simp; omega) (by simp; omega) HSC.out HSL.out).mono ?_
        rintro e tG ⟨rfl, b4, g4⟩
        have HBtG : Hid (BookAt tG gb gk P (es.set v (gone0 (es.getD v Ent.zero))) cur last (-1)) := (by have h9 := b4; rw [fifo_leave es v (by omega), if_pos rfl] at h9; exact h9)
        have HWtG : Hid (Below w.heap.size w tG) := Grew.below HWtF.out HWtF.out.size g4 HLE.out.1 HLE.out.2
        have hSnew : (fun x => x.cell? ⟨tB.heap.size, 0, none⟩ = some (.int .i64 s) ∧ x.cell? ⟨tB.heap.size, 2, none⟩ = some (.bool r)) tG := ⟨(World.cell?_of_block (g4.block tB.heap.size (Nat.lt_of_lt_of_le hbC hletF) (by omega) (by omega))).trans hHeld.1, (World.cell?_of_block (g4.block tB.heap.size (Nat.lt_of_lt_of_le hbC hletF) (by omega) (by omega))).trans hHeld.2⟩
        clear b4 g4
        go_wp2_with fail
        refine hK.out _ _ hSnew (fun hHeld32 => ?_)
        clear hK K hSnew
        clear hHeld
        have hHeld := hHeld32
        clear hHeld32
        try simp only [Act.put, List.setIfInBounds_toArray, List.set_cons_zero, List.set_cons_succ]
        refine wpAnyH_take (i := 33) (oi := { dst := some 142, op := Op.binOp BinOp.neq 3 (Operand.tmp 141) (Operand.const (Value.int IntKind.i64 0)) 3, type := 4, pos := "law.go:290", after := #[{ on := 32, ground := Ground.data }, { on := 29, ground := Ground.guard }], guard := some (29, false) }) (v := ?v33z) rfl (by kernel_rfl) (by kernel_rfl) (by kernel_rfl) (fun _ _ _ h => h) (Or.inl ⟨by rfl, ?y33z⟩) (by assumption) ?r33z
        case y33z => (intro x hx; (try dsimp only at hx); go_simp; try with_reducible rfl)
        try simp only [Act.put, List.setIfInBounds_toArray, List.set_cons_zero, List.set_cons_succ]
        refine wpAnyH_take (i := 34) (oi := { dst := some 143, op := Op.pick (Operand.tmp 138) (Operand.const (Value.bool true)) (Operand.tmp 142), type := 4, pos := "law.go:290", after := #[{ on := 29, ground := Ground.data }, { on := 33, ground := Ground.data }], guard := none }) (v := ?v34z) rfl (by kernel_rfl) (by kernel_rfl) (by kernel_rfl) (fun _ _ _ h => h) (Or.inl ⟨by rfl, ?y34z⟩) (by assumption) ?r34z
        case y34z => (intro x hx; (try dsimp only at hx); go_simp; try with_reducible rfl)
        try simp only [Act.put, List.setIfInBounds_toArray, List.set_cons_zero, List.set_cons_succ]
        refine wpAnyH_done (by kernel_rfl) ?_ _
        all_goals go_wp2
        all_goals go_meet
        all_goals exact ⟨rfl, HBtG, HWtG⟩
      case rest =>
      obtain ⟨rfl, HBN, HWN⟩ := hcut
      go_wp2
      go_roundw
      case rel =>
        have h9 := HI.out.step HM.out HO.out
        rw [HSM.out] at h9
        exact ⟨k + 1, _, h, by omega, by go_num, rfl, by omega, HBN, by unfold Hid; rw [HSM.out]; exact h9, HWN⟩
      case measure => simp [intOf]; omega
end Go.Proofs.Ytgijbpkfheillaa
