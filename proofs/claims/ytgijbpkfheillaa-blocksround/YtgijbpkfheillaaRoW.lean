/-
  SEAT Ytgijbpkfheillaa: BlocksRound's walk.
-/
import Derived.Test.YtgijbpkfheillaaRoB
namespace Go.Proofs.Ytgijbpkfheillaa
open Go.RowKit
set_option linter.unusedVariables false

theorem roundBad (b P s3 : Int) (a : Option Addr) (len cap : Nat) (bs : List Bk) (cur last : Int) (w : World) (hr : ReadsK w a len bs) (hl : len * 32 ≤ 140737488351232) (h : newE b P s3 len cur last bs ≠ 0) :
    Calls Try.prog 3 #[.agg #[.int .i64 b, .int .i64 P, .int .i64 s3], .slice a len cap, .int .i64 cur, .int .i64 last] w fun e w' => e = .returned (.bool true) ∧ Below w.heap.size w w' := by
  have HR : Hid (ReadsK w a len bs) := hr
  have HE : Hid (newE b P s3 len cur last bs ≠ 0) := h
  clear hr h
  go_enter Try.func3, Try.ntmps3
  go_wp2_with (first | (go_at_call 8; refine (begun_bad b P s3 a len cap cur last bs _ (HR.out.below (ba (Below.refl _ _))) hl HE.out).mono ?_; rintro e u1 ⟨rfl, q1⟩; have Q1 : Hid (Below w.heap.size w u1) := (ba (Below.refl _ _)).trans (q1.mono (by simp)); clear q1))
  go_ret
  exact ⟨rfl, Q1.out⟩

set_option maxHeartbeats 8000000 in
set_option maxRecDepth 100000 in
theorem roundOk (b P s3 : Int) (a : Option Addr) (len cap : Nat) (bs : List Bk) (cur last : Int) (w : World) (hr : ReadsK w a len bs) (hl : len * 32 ≤ 140737488351232) (h : newE b P s3 len cur last bs = 0) :
    Calls Try.prog 3 #[.agg #[.int .i64 b, .int .i64 P, .int .i64 s3], .slice a len cap, .int .i64 cur, .int .i64 last] w fun e w' => e = .returned (.bool true) ∧ Below w.heap.size w w' := by
  obtain ⟨f1, f2, f3, f4, f5⟩ := newE_ok h
  subst f2
  have q3 := of_decide_eq_true f3
  have hb9 := fits_b f1
  have hbl := hr.1
  have hln : 8 ≤ len ∧ len ≤ 4096 := by omega
  have HR : Hid (ReadsK w a len bs) := hr
  have HE : Hid (newE len P s3 len cur last bs = 0) := h
  clear hr h f1 f3 f4 f5 hb9
  go_enter Try.func3, Try.ntmps3
  go_wp2_with (first | (go_at_call 8; refine (begun_ok len P s3 a len cap cur last bs _ (HR.out.below (ba (Below.refl _ _))) hl HE.out).mono ?_; rintro e u1 ⟨gb, gk, gr, gl, v, rfl, K1, R1, q1, k1, k2⟩; have HK1 : Hid _ := K1; have HR1 : Hid _ := R1; have HLE : Hid (w.heap.size ≤ gb ∧ w.heap.size ≤ gk) := ⟨by simp at k1; omega, by simp at k2; omega⟩; have Q1 : Hid (Below w.heap.size w u1) := (ba (Below.refl _ _)).trans (q1.mono (by simp)); clear q1 k1 k2 K1 R1))
  obtain ⟨ra, rc, rfl, hrd⟩ := HR1.out.readsK HR.out.2.1
  obtain ⟨r0, r1, r2, r3, r4, r5⟩ := HR1.out.cells
  rw [hbl] at hrd r1
  have HRD : Hid (ReadsK u1 ra len bs) := hrd
  have hes : (bs.map Bk.ent).length = len := by simpa using hbl
  clear hrd r0 r2 r3 r4 r5
  go_loopw [12, 13] (fun s12 s13 wr => ∃ k : Nat, k ≤ len ∧ s13 = .int .i64 k ∧ s12 = .int .i64 (cnt [0] (bs.map Bk.ent) k : Nat) ∧ u1 = wr)
    (fun _ i _ => len - (intOf i).toNat)
  case atStart => exact ⟨0, Nat.zero_le _, rfl, rfl, rfl⟩
  case round =>
    obtain ⟨k, hk, rfl, rfl, rfl⟩ := hrel
    have hcl := cnt_le [0] (bs.map Bk.ent) k
    by_cases hlt : k < len
    · obtain ⟨g, off, rfl, hg, hcell⟩ := HRD.out.pos (by omega)
      obtain ⟨x0, _, _, _⟩ := hcell k hlt
      have e1 : ((bs.map Bk.ent).getD k Ent.zero).s = (bs.getD k Bk.zero).s := by
        rw [List.getD_eq_getElem?_getD, List.getElem?_map, List.getD_eq_getElem?_getD, List.getElem?_eq_getElem (by omega)]
        rfl
      obtain ⟨s, hs⟩ : ∃ s, (bs.getD k Bk.zero).s = s := ⟨_, rfl⟩
      rw [hs] at x0 e1
      have HS : Hid _ := e1
      have d1 : (k : Int) < len := by omega
      clear hcell e1 hs
      by_cases s0 : s = 0
      · subst s0
        go_wp2
        go_roundw
        case rel => exact ⟨k + 1, by omega, by go_num, by rw [cnt, HS.out]; simp, by first | trivial | rfl⟩
        case measure => simp [intOf]; omega
      · have s0b : (s == 0) = false := by simpa using s0
        go_wp2
        go_roundw
        case rel => exact ⟨k + 1, by omega, by go_num, by rw [cnt, HS.out]; simp [s0], by first | trivial | rfl⟩
        case measure => simp [intOf]; omega
    · have hkn : k = len := by omega
      subst hkn
      obtain ⟨F, hF⟩ : ∃ F, cnt [0] (bs.map Bk.ent) k = F := ⟨_, rfl⟩
      rw [hF] at hcl ⊢
      have HF : Hid _ := hF
      have hmk := make_left k (by omega)
      have ha1 : Below u1.heap.size u1 (u1.alloc (.cells (boolsV (List.replicate k false)).toArray 4)) := ba (Below.refl _ _)
      have HKA : Hid _ := HK1.out.below ha1
      have HSA : Hid (SeenAt (u1.alloc (.cells (boolsV (List.replicate k false)).toArray 4)) u1.heap.size (List.replicate k false)) := heap_alloc_new u1 _
      have HWA : Hid (Below w.heap.size w (u1.alloc (.cells (boolsV (List.replicate k false)).toArray 4))) := ba Q1.out
      have hw1 := Q1.out.size
      clear hF ha1 hlt hk
      go_wp2_with (first | (go_at_call 9; refine (cursor_any gb gk P _ cur last (-1) _ HKA.out).mono ?_; rintro e u2 ⟨rfl, rfl⟩))
      have HRK : Hid (ReadsK w a k bs) := HR.out
      have HG0 : Hid _ := gone_first bs k cur hbl q3
      clear hmk
      go_loopw [15, 16, 17, 18, 19, 20, 21] (fun s15 s16 s17 s18 s19 s20 s21 wr => ∃ (n : Nat) (es : List Ent) (sn : List Bool) (c : Int) (far : Nat), n ≤ F ∧ s17 = .int .i64 n ∧ s15 = .int .i64 far ∧ s16 = .int .i64 c ∧ Hid (BookAt wr gb gk P es c last (-1)) ∧ Hid (Gone bs sn es cur c far) ∧ Hid (cnt [0] es k + n = F) ∧ Hid (SeenAt wr u1.heap.size sn) ∧ Below w.heap.size w wr)
        (fun _ _ i _ _ _ _ _ => F - (intOf i).toNat)
      case atStart => exact ⟨0, _, _, _, 0, Nat.zero_le _, rfl, rfl, rfl, HKA.out, HG0.out, HF.out, HSA.out, HWA.out⟩
      case round =>
        obtain ⟨n, es, sn, c, far, hn, rfl, rfl, rfl, HK, HG, HC, HS, hb⟩ := hrel
        have hel : es.length = k := by have := HG.out.len; omega
        have hsl : sn.length = k := by have := HG.out.slen; omega
        have hcl2 : -1 ≤ c ∧ c < k := by have := HG.out.cl; omega
        have hfar : far ≤ k := by have := HG.out.room; omega
        have hne := HS.out.ne HK.out
        have hcn := HC.out
        by_cases hlt : n < F
        · have d1 : (n : Int) < F := by omega
          have hpk := pick_some gb gk P es c last (-1) wr HK.out (by omega) (by omega) hcl2.1 (by omega) (by rw [hel]; omega)
          have HPK : Hid (Calls Try.prog 10 #[.pointer (some ⟨gb, 0, none⟩)] wr _) := hpk
          obtain ⟨g, off, rfl, hgl, hcell⟩ := HRK.out.pos (by omega)
          have HCL : Hid (∀ i, i < k → w.cell? ⟨g, off + i * 4, none⟩ = some (.int .i64 (bs.getD i Bk.zero).s)) := fun i hi => (hcell i hi).1
          have HGL : Hid (g < w.heap.size) := hgl
          clear hpk hcell hgl
          go_upto_if 111 with (first | (go_at_call 10; refine Calls.mono HPK.out ?_; rintro e u2 ⟨i, hi, i0, inn, rfl, K2, g2⟩; obtain ⟨x, hx⟩ : ∃ x, nthB es.length c i = x := ⟨_, rfl⟩; have HI : Hid (i < es.length ∧ (es.getD (nthB es.length c i) Ent.zero).s = 0 ∧ ∀ j, j < i → (es.getD (nthB es.length c j) Ent.zero).s ≠ 0) := ⟨hi, i0, inn⟩; have HX : Hid (nthB es.length c i = x) := hx; have hxk : x < k := (by rw [← hx, ← hel]; exact nth_lt _ _ _ (by omega)); rw [hx] at K2 i0 ⊢; obtain ⟨b0, b1⟩ := HG.out.free x (by omega) i0; have HS2 : Hid (SeenAt u2 u1.heap.size sn) := HS.out.grown g2 (fun e => hne.1 (by injection e with e; exact e.symm)); have y1 := HS2.out.cell x (by omega); rw [b1] at y1; have HW2 : Hid (Below w.heap.size w u2) := hb.grown g2 hb.size (fun j hj => by cases hj; exact HLE.out.1); have y2 : u2.cell? ⟨g, off + x * 4, none⟩ = some (.int .i64 0) := (by rw [HW2.out.cell HGL.out, HCL.out x hxk, b0]); have HK2 : Hid (BookAt u2 gb gk P es (x : Nat) last (-1)) := K2; have HG2 : Hid _ := g2; have dx : (x : Int) < k := (by omega); clear hi i0 inn K2 g2 hx b0 b1) | (go_at_call 9; refine (cursor_any gb gk P es (x : Nat) last (-1) _ HK2.out).mono ?_; rintro e u3 ⟨rfl, rfl⟩))
          have hie : i < k := by have := HI.out.1; omega
          go_cut [20] (fun s20 wx => s20 = .int .i64 ((i : Int) + 1) ∧ u2 = wx)
          case first =>
            have hsf := step_far (n := k) (i := i) hcl2 (by have := HI.out.1; omega)
            rw [show nthB k c i = x by rw [← HX.out, hel]] at hsf
            by_cases hs : (x : Int) - c ≤ 0
            · rw [if_pos hs] at hsf
              have HSF : Hid _ := hsf
              have hs2 : (x : Int) ≤ c := by omega
              clear hsf
              go_wp2
              go_meet
              exact ⟨congrArg (Value.int .i64) HSF.out, rfl⟩
            · rw [if_neg hs] at hsf
              have HSF : Hid _ := hsf
              have hs2 : ¬ ((x : Int) ≤ c) := by omega
              clear hsf
              go_wp2
              go_meet
              exact ⟨congrArg (Value.int .i64) HSF.out, rfl⟩
          case rest =>
          obtain ⟨rfl, rfl⟩ := hcut
          have HS3 : Hid (SeenAt (u2.setCell ⟨u1.heap.size, x, none⟩ (.bool true)) u1.heap.size (sn.set x true)) := HS2.out.set x true
          have f2 := HS2.out.free x
          have g3 : u2.grownBy (u2.setCell ⟨u1.heap.size, x, none⟩ (.bool true)) (some u1.heap.size) := grown_set _ _ _ _
          have HW3 : Hid (Below w.heap.size w (u2.setCell ⟨u1.heap.size, x, none⟩ (.bool true))) := HW2.out.grown g3 HW2.out.size (fun j hj => by cases hj; exact hw1)
          have HK3 : Hid (BookAt (u2.setCell ⟨u1.heap.size, x, none⟩ (.bool true)) gb gk P es (x : Nat) last (-1)) := HK2.out.grown g3 (fun e => hne.1 (by injection e)) (fun e => hne.2 (by injection e))
          obtain ⟨cb1, cb2⟩ := cnt_bad (x := x) (es := es) (by omega) (by have := HI.out.2.1; rw [HX.out] at this; exact this)
          have hx0 : (es.getD x Ent.zero).s = 0 := by have := HI.out.2.1; rw [HX.out] at this; exact this
          obtain ⟨G, hG⟩ : ∃ G : Int, (es.length : Int) - (cnt [6, 4] es es.length : Nat) = G := ⟨_, rfl⟩
          have hcn64 := cnt_le [6, 4] es es.length
          have HG1 : Hid (((es.set x ⟨6, 0, false, 0, false⟩).length : Int) - (cnt [6, 4] (es.set x ⟨6, 0, false, 0, false⟩) (es.set x ⟨6, 0, false, 0, false⟩).length : Nat) = G - 1) := by
            unfold Hid
            rw [List.length_set, cb2]
            omega
          have HGE : Hid _ := hG
          have hGb : 0 ≤ G ∧ G ≤ 5000 := by omega
          have d2 : IntKind.i64.wrap (G - 1) = G - 1 := by rw [IntKind.wrap_i64]; omega
          have HCB : Hid _ := cb1
          clear g3 hG cb1 cb2 hcn64
          go_wp2_with (first
            | (go_at_call 11; have h9 := HK3; clear h9; refine (good_any gb gk P es (x : Nat) last (-1) _ HK3.out (by omega)).mono ?_; rintro e u3 ⟨rfl, q3'⟩; rw [HGE.out]; have HK4 : Hid (BookAt u3 gb gk P es (x : Nat) last (-1)) := HK3.out.below q3'; have HS4 : Hid (SeenAt u3 u1.heap.size (sn.set x true)) := HS3.out.grown (grown_of q3' none) (by simp); have HW4 : Hid (Below w.heap.size w u3) := HW3.out.trans (q3'.mono HW3.out.size); clear q3' HK3)
            | (go_at_call 12; refine (bad_free gb gk P es (x : Nat) last (-1) x _ HK4.out (by omega) (by omega) hx0).mono ?_; rintro e u4 ⟨rfl, K5, g5⟩; have HK5 : Hid (BookAt u4 gb gk P (es.set x ⟨6, 0, false, 0, false⟩) (x : Nat) last (-1)) := K5; have HS5 : Hid (SeenAt u4 u1.heap.size (sn.set x true)) := HS4.out.grown g5 (fun e => hne.2 (by injection e with e; exact e.symm)); have HW5 : Hid (Below w.heap.size w u4) := HW4.out.grown g5 HW4.out.size (fun j hj => by cases hj; exact HLE.out.2); clear K5 g5)
            | (go_at_call 11; have h9 := HK5; clear h9; refine (good_any gb gk P (es.set x ⟨6, 0, false, 0, false⟩) (x : Nat) last (-1) _ HK5.out (by simp; omega)).mono ?_; rintro e u5 ⟨rfl, q5⟩; rw [HG1.out]; have HK6 : Hid (BookAt u5 gb gk P (es.set x ⟨6, 0, false, 0, false⟩) (x : Nat) last (-1)) := HK5.out.below q5; have HS6 : Hid (SeenAt u5 u1.heap.size (sn.set x true)) := HS5.out.grown (grown_of q5 none) (by simp); have HW6 : Hid (Below w.heap.size w u5) := HW5.out.trans (q5.mono HW5.out.size); clear q5 HK5))
          go_roundw
          case rel =>
            have h9 := HG.out.step HI.out.1 HI.out.2.1 HI.out.2.2
            rw [HX.out] at h9
            have h8 := HCB.out
            rw [hel] at h8
            refine ⟨n + 1, _, _, _, far + (i + 1), by omega, by go_num, ?_, rfl, HK6.out, h9, ?_, HS6.out, HW6.out⟩
            · congr 1
            · unfold Hid
              omega
          case measure => simp [intOf]; omega
        · have hnF : n = F := by omega
          subst hnF
          have hpn := pick_none gb gk P es c last (-1) wr HK.out (by omega) (by omega) hcl2.1 (by omega) (by rw [hel]; omega)
          have HPN : Hid (Calls Try.prog 10 #[.pointer (some ⟨gb, 0, none⟩)] wr _) := hpn
          have d2 : (far : Int) ≤ (k : Int) + 1 := by omega
          clear hpn
          go_wp2_with (first
            | (go_at_call 10; refine Calls.mono HPN.out ?_; rintro e u2 ⟨rfl, q2, rfl⟩)
            | (go_at_call 9; refine (cursor_any gb gk P es c last (-1) _ (HK.out.drewN _)).mono ?_; rintro e u3 ⟨rfl, rfl⟩))
          go_ret
          exact ⟨by simp, below_drewN hb _⟩
end Go.Proofs.Ytgijbpkfheillaa
