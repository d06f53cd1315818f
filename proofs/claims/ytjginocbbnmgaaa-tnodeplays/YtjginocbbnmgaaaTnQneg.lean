/-
  SEAT Ytjginocbbnmgaaa: without above the lowest level.
-/
import Derived.Test.YtjginocbbnmgaaaTnQpos
namespace Go.Proofs.Ytjginocbbnmgaaa
open Go.RowKit
set_option linter.unusedVariables false

set_option maxHeartbeats 8000000 in
set_option maxRecDepth 100000 in
theorem without_succ_neg (l : Nat) (IH : WoAt l) (g0 : Nat) (M : Mp) (f t : Int) (w : World) (E : Nat → Prop) [DecidablePred E] (hE : ∀ i, E i → i < w.heap.size) (h : NodeOn (seenH w E) (l + 1) (some g0) M) (hl : l + 1 ≤ 4) (hv : f < 0) (hb : -(20971520 - 2097152 * ((l + 1 : Nat) : Int)) ≤ f ∧ f ≤ (20971520 - 2097152 * ((l + 1 : Nat) : Int)) ∧ -(20971520 - 2097152 * ((l + 1 : Nat) : Int)) ≤ t ∧ t ≤ (20971520 - 2097152 * ((l + 1 : Nat) : Int))) :
    Calls Try.prog 50 #[.pointer (some ⟨g0, 0, none⟩), .int .i64 (((l + 1 : Nat) : Int)), .int .i64 f, .int .i64 t] w fun e w' => ∃ o, e = .returned (.tuple #[ptr o, .int .i64 ((cnt (hit M f t) (spn ((l + 1) + 1)) : Nat) : Int)]) ∧ NodeOn (seenH w' E) (l + 1) o (cutM M f t) ∧ Below w.heap.size w w' := by
  obtain ⟨xs, hxl, hx, hk, _⟩ := h
  rw [row1 l] at hx
  have h := (seen_block hx).2
  have hg0 := lt_of_block h
  obtain ⟨CS, hCS⟩ : ∃ CS, U96 (rowOf ((l + 1)) xs) = CS := ⟨_, rfl⟩
  have hsz : CS.size = 32 := by rw [← hCS, u96_size, rowOf_len _ hxl]
  have h1 : CS.all (·.oneCell') = true := by rw [← hCS]; exact u96_one _
  rw [hCS] at h
  obtain ⟨hb1, hb2, hb3, hb4⟩ := hb
  obtain ⟨f0, hf⟩ : ∃ f0 : Nat, (f0 : Int) = max f 0 := ⟨(max f 0).toNat, by omega⟩
  obtain ⟨SP, hSP⟩ : ∃ SP, spn ((l + 1)) = SP := ⟨_, rfl⟩
  have hp := spn_pos ((l + 1))
  have hp6 : spn ((l + 1)) ≤ 65536 := spn_le (show l + 1 ≤ 4 from hl)
  rw [hSP] at hp hp6
  have hA0 : f0 / SP = 0 ∨ ((f0 / SP * SP : Nat) : Int) ≤ f := by
    by_cases q : f0 = 0
    · left; rw [q]; exact Nat.zero_div _
    · right
      have := Nat.div_mul_le_self f0 SP
      omega
  have hA2 : f0 / SP ≤ f0 := Nat.div_le_self _ _
  have hA3 : f < ((f0 / SP * SP + SP : Nat) : Int) := by
    have := Nat.div_add_mod f0 SP
    have := Nat.mod_lt f0 hp
    have h7 : f0 / SP * SP = SP * (f0 / SP) := Nat.mul_comm _ _
    omega
  have hst := WoS.start (w := w) (E := E) (M := M) (f := f) (t := t) (a := f0 / SP) hxl hk (by rw [hSP]; exact hA0)
  have hgs := gone_start (M := M) (f := f) (t := t) (a := f0 / SP) (s := SP) hA0
  rw [hCS] at hst
  have HF : Hid _ := hf
  have HCS : Hid _ := hCS
  have H0 : Hid _ := h
  have H1 : Hid _ := h1
  have HS : Hid _ := hsz
  have HSP : Hid _ := hSP
  have HST : Hid _ := hst
  have HGS : Hid _ := hgs
  have HA0 : Hid _ := And.intro hA0 (And.intro hA2 hA3)
  have HE : Hid _ := hE
  have HK : Hid _ := And.intro hxl hk
  have HB : Hid _ := And.intro hb1 (And.intro hb2 (And.intro hb3 hb4))
  have h4 := below_new w (.cells Z96 96)
  have HL : Hid ((w.alloc (.cells Z96 96)).heap[g0]? = some (.cells CS 96 (0, 0))) := (h4.block g0 hg0).trans h
  have HG0 : Hid _ := hg0
  clear h h1 hsz hSP hCS hf h4 hst hA0 hE hxl hk hgs hx hg0 hA2 hA3
  go_enter Try.func50, Try.ntmps50
  go_wp2_with (first
    | (refine wpList_load96 rfl (.tmp 18) rfl g0 CS rfl HL.out HS.out ?_)
    | (refine wpList_load96 rfl (.tmp 18) rfl g0 CS rfl H0.out HS.out ?_)
    | (refine wpList_store96 (u := w) rfl (.tmp 10) (.tmp 19) rfl w.heap.size Z96 CS rfl rfl rfl rfl HS.out H1.out ?_)
    | (go_at_call 54; refine (span_any ((l + 1)) _ (by omega)).mono ?_; rintro e u ⟨rfl, rfl⟩; rw [HSP.out]))
  go_loopw [11, 12] (fun s11 s12 wr => ∃ (a : Nat) (xs' : List (Option Nat)), s12 = .int .i64 (a : Int) ∧ s11 = .int .i64 ((cnt (hit M f t) (min a 16 * SP) : Nat) : Int) ∧ a ≤ 40000000 ∧ f0 / SP ≤ a ∧ Hid (WoS w E l M f t a xs' wr))
    (fun _ i _ => 16 - (intOf i).toNat)
  case atStart =>
    have q := HF.out
    have hb := HB.out
    refine ⟨f0 / SP, xs, ?_, by rw [HGS.out]; rfl, by have := HA0.out.2.1; omega, Nat.le_refl _, HST⟩
    congr 1
    (obtain rfl : f0 = 0 := (by omega)); simp
  case round =>
    obtain ⟨a, xs', rfl, rfl, ha4, haf, HW⟩ := hrel
    obtain ⟨P, hP⟩ : ∃ P, a * SP = P := ⟨_, rfl⟩
    have hPi : (a : Int) * (SP : Int) = (P : Int) := by rw [← hP, Int.natCast_mul]
    obtain ⟨G, hG⟩ : ∃ G, cnt (hit M f t) (min a 16 * SP) = G := ⟨_, rfl⟩
    have hGl : G ≤ 1048576 := by
      rw [← hG]
      refine Nat.le_trans (cnt_le _ _) ?_
      have : min a 16 * SP ≤ 16 * 65536 := Nat.mul_le_mul (by omega) hp6
      omega
    rw [hG]
    have HG : Hid _ := hG
    have HPP : Hid _ := hP
    have HWB : Hid _ := HW.out.bel
    have hblk := HW.out.blk
    have HBK : Hid _ := hblk
    have hrsz : (rowOf (l + 1) xs').length = 32 := rowOf_len _ HW.out.len
    have HRZ : Hid _ := hrsz
    have hg0r := ((HW.out.bel.block g0 HG0.out).trans H0.out)
    clear hG hblk hrsz
    by_cases hc : a < 16 ∧ (P : Int) < t
    · obtain ⟨hc1, hc2⟩ := hc
      have dc1 : (a : Int) < 16 := by omega
      have hPl : P ≤ 983040 := by
        rw [← hP]
        have : a * SP ≤ 15 * 65536 := Nat.mul_le_mul (by omega) hp6
        omega
      have wP : IntKind.i64.wrap (P : Int) = (P : Int) := by rw [IntKind.wrap_i64]; omega
      have wa : IntKind.i64.wrap ((a : Int) + 1) = (a : Int) + 1 := by rw [IntKind.wrap_i64]; omega
      have hmin : min (a + 1) 16 * SP = (a + 1) * SP := by rw [Nat.min_eq_left (by omega)]
      have hmin0 : min a 16 * SP = a * SP := by rw [Nat.min_eq_left (by omega)]
      have hrd := cnt_round M f t SP a
      have hG2 : cnt (hit M f t) (a * SP) = G := by rw [← hmin0]; exact HG.out
      rw [← hmin, hG2] at hrd
      clear hG2
      have HRD : Hid _ := hrd
      have hrow : CS[a]? = some (ptr ((rowOf (l + 1) xs).getD a none)) := by rw [← HCS.out]; exact u96_get _ _ (by rw [rowOf_len _ HK.out.1]; omega)
      have hrow2 : CS[16 + a]? = some (ptr ((rowOf (l + 1) xs).getD (16 + a) none)) := by rw [← HCS.out]; exact u96_get _ _ (by rw [rowOf_len _ HK.out.1]; omega)
      have hth : (rowOf (l + 1) xs).getD (16 + a) none = none := by
        unfold rowOf
        rw [if_neg (by omega), List.getD_eq_getElem?_getD, List.getElem?_append_right (by rw [HK.out.1]; omega), List.getElem?_replicate]
        split <;> rfl
      have hbe : (rowOf (l + 1) xs).getD a none = xs.getD a none := by
        unfold rowOf
        rw [if_neg (by omega), List.getD_eq_getElem?_getD, List.getElem?_append_left (by rw [HK.out.1]; omega), List.getD_eq_getElem?_getD]
      rw [hbe] at hrow
      rw [hth] at hrow2
      have x0 : wr.cell? ⟨g0, a, none⟩ = some (ptr (xs.getD a none)) := by rw [cell_of_row _ _ a CS 96 (0, 0) hg0r]; exact hrow
      have x1 : wr.cell? ⟨g0, 16 + a, none⟩ = some (.pointer none) := by rw [cell_of_row _ _ (16 + a) CS 96 (0, 0) hg0r]; exact hrow2
      have hkx := HK.out.2 a hc1
      have hkw := HW.out.kid a hc1
      rw [if_neg (by omega)] at hkw
      have hlr := lt_of_block HBK.out
      have hE2 : ∀ i, (E i ∨ i = w.heap.size) → i < wr.heap.size := fun i q => q.elim (fun q => by have := HE.out i q; omega) (fun q => by omega)
      have hkr := hkx.mono (shows_below (E := E) (E' := fun j => E j ∨ j = w.heap.size) HWB.out (fun i hi q => q.elim id (fun e => by omega)))
      have d16 : (16 : Int) + (a : Int) < 32 := by omega
      cases hxa : xs.getD a none with
      | none =>
        rw [hxa] at hkx x0
        have hv9 := NodeOn.isVoid hkx
        have hxw : xs'.getD a none = none := by
          cases hq : xs'.getD a none with
          | none => rfl
          | some g => rw [hq] at hkw; exact absurd hv9 hkw.full
        have HNX : Hid _ := HW.out.skip hc1 hxw
        have hz9 := cnt_void (f - ((a * SP : Nat) : Int)) (t - ((a * SP : Nat) : Int)) hv9
        rw [HSP.out] at hz9
        rw [hz9] at hrd
        have HR3 : Hid _ := hrd
        simp only [ptr] at x0
        clear hrow hrow2 hbe hth hg0r hrd hkx hkw hxa hxw hP hmin hmin0 hv9 hz9 hkr hE2
        go_wp2_with (first
          | (go_at_call 54; refine (span_any (l + 1) _ (by omega)).mono ?_; rintro e u ⟨rfl, rfl⟩; rw [HSP.out]))
        go_roundw
        case rel => exact ⟨a + 1, xs', by first | rfl | simp, by rw [HR3.out]; rfl, by omega, by omega, HNX⟩
        case measure => (simp [intOf]; omega)
      | some gx =>
        rw [hxa] at hkr x0
        have hcall := IH gx (sub M (spn (l + 1)) a) (f - (P : Int)) (t - (P : Int)) wr (fun j => E j ∨ j = w.heap.size) hE2 hkr (by omega)
        have HCALL : Hid _ := hcall
        rw [hP] at hrd
        obtain ⟨C, hC⟩ : ∃ C, cnt (hit (sub M SP a) (f - (P : Int)) (t - (P : Int))) SP = C := ⟨_, rfl⟩
        have hCl : C ≤ 65536 := by rw [← hC]; exact Nat.le_trans (cnt_le _ _) hp6
        rw [hC] at hrd
        have HR3 : Hid _ := hrd
        have HC : Hid (cnt (hit (sub M (spn (l + 1)) a) (f - (P : Int)) (t - (P : Int))) (spn (l + 1)) = C) := by unfold Hid; rw [HSP.out]; exact hC
        have wG : IntKind.i64.wrap ((G : Int) + (C : Int)) = (G : Int) + (C : Int) := by rw [IntKind.wrap_i64]; omega
        have wf : IntKind.i64.wrap (f - (P : Int)) = f - (P : Int) := by rw [IntKind.wrap_i64]; omega
        have wt : IntKind.i64.wrap (t - (P : Int)) = t - (P : Int) := by rw [IntKind.wrap_i64]; omega
        have wl : IntKind.i64.wrap (l : Int) = (l : Int) := by rw [IntKind.wrap_i64]; omega
        have HNX : Hid (∀ (w1 : World) (o : Option Nat), NodeOn (seenH w1 (fun j => E j ∨ j = w.heap.size)) l o (cutM (sub M (spn (l + 1)) a) (f - (P : Int)) (t - (P : Int))) → Below wr.heap.size wr w1 →
            WoS w E l M f t (a + 1) (xs'.set a o) (w1.setCell ⟨w.heap.size, a, none⟩ (ptr o)) ∧ (∃ y, w1.cell? ⟨w.heap.size, a, none⟩ = some y) ∧ w1.frozen? ⟨w.heap.size, a, none⟩ = false ∧ (w1.setCell ⟨w.heap.size, a, none⟩ (ptr o)).cell? ⟨g0, 16 + a, none⟩ = some (.pointer none)) := fun w1 o hn hb9 => by
          have hbk := (hb9.block _ hlr).trans HBK.out
          have hbg := (hb9.block g0 (by have := HG0.out; omega)).trans hg0r
          refine ⟨HW.out.step hc1 o (by rw [HSP.out, hP]; rw [HSP.out] at hn; exact hn) hb9, ⟨_, by rw [cell_of_row _ _ a _ 96 (0, 0) hbk]; exact u96_get _ _ (by rw [HRZ.out]; omega)⟩, by unfold World.frozen?; simp only [hbk]; simp, ?_⟩
          rw [World.cell?_of_block (heap_setCell_other w1 ⟨w.heap.size, a, none⟩ g0 _ (by have := HG0.out; simp; omega)), cell_of_row _ _ (16 + a) CS 96 (0, 0) hbg]
          exact hrow2
        simp only [ptr] at x0
        clear hrow hrow2 hbe hth hg0r hrd hkx hkw hxa hP hmin hmin0 hkr hcall hC hE2 IH hb1 hb2 hb3 hb4
        go_wp2_with (first
          | (go_at_call 54; refine (span_any (l + 1) _ (by omega)).mono ?_; rintro e u ⟨rfl, rfl⟩; rw [HSP.out])
          | (go_at_call 50; refine Calls.mono HCALL.out ?_; rintro e w1 ⟨o, rfl, n1, q1⟩; obtain ⟨k1, ⟨y, k2⟩, k3, k4⟩ := HNX.out w1 o n1 q1; rw [HC.out]; have K1 : Hid _ := k1; obtain ⟨TO, hTO⟩ : ∃ TO, ptr o = .pointer TO := (by cases o with | none => exact ⟨none, rfl⟩ | some g => exact ⟨_, rfl⟩); rw [hTO] at k4 ⊢; have HTO : Hid _ := hTO; clear k1 n1 q1 hTO x1))
        go_roundw
        case rel => exact ⟨a + 1, xs'.set a o, by first | rfl | simp, by rw [HR3.out]; first | rfl | simp, by omega, by omega, by rw [← HTO.out]; exact K1⟩
        case measure => (simp [intOf]; omega)
    · have hce : 16 ≤ a ∨ t ≤ ((a * SP : Nat) : Int) := by rw [hP]; omega
      have hge := gone_end (M := M) (f := f) (t := t) hce
      rw [HG.out] at hge
      have HGE : Hid _ := hge
      have hdn := WoS.done HW.out HE.out (by rw [HSP.out]; exact hce)
      have HDN : Hid _ := hdn
      have hcc : ¬ ((a : Int) < 16) ∨ ((a : Int) < 16) ∧ ¬ ((P : Int) < t) ∧ IntKind.i64.wrap (P : Int) = (P : Int) := by
        by_cases q : a < 16
        · refine Or.inr ⟨by omega, by omega, ?_⟩
          have : a * SP ≤ 15 * 65536 := Nat.mul_le_mul (by omega) hp6
          rw [IntKind.wrap_i64]
          omega
        · exact Or.inl (by omega)
      clear hc hce hge hdn hP hb1 hb2 hb3 hb4 IH
      obtain ⟨RC, hRC⟩ : ∃ RC, U96 (rowOf (l + 1) xs') = RC := ⟨_, rfl⟩
      have hRCs : RC.size = 32 := by rw [← hRC, u96_size]; exact HRZ.out
      have HRCs : Hid _ := hRCs
      have HRC : Hid _ := hRC
      have HBK2 : Hid (wr.heap[w.heap.size]? = some (.cells RC 96 (0, 0))) := by unfold Hid; rw [← hRC]; exact HBK.out
      clear hRC hRCs
      by_cases hz : rowOf (l + 1) xs' = List.replicate 32 none
      · have hdz : decide (rowOf (l + 1) xs' = List.replicate 32 none) = true := decide_eq_true hz
        have HZ : Hid _ := hz
        have HDZ : Hid _ := hdz
        clear hz hdz
        rcases hcc with hcc | ⟨hcc, hcc2, hcc3⟩
        all_goals
          go_wp2_with (first
            | (go_at_call 54; refine (span_any ((l + 1)) _ (by omega)).mono ?_; rintro e u ⟨rfl, rfl⟩; rw [HSP.out])
            | (refine wpList_load96 rfl (.tmp 10) rfl w.heap.size RC rfl HBK2.out HRCs.out ?_)
            | (refine wpList_eql96 rfl (.tmp 81) (.tmp 82) 96 rfl (rowOf (l + 1) xs') (List.replicate 32 none) (by rw [HRC.out]; rfl) rfl HRZ.out (by simp) (fun j _ => tell_zero _ j) ?_; rw [HDZ.out]))
          go_ret2
          refine ⟨none, by rw [HGE.out, ← HSP.out, ← spn_succ]; rfl, ?_, HWB.out⟩
          have q := HDN.out
          rw [if_pos HZ.out] at q
          exact q
      · have hdz : decide (rowOf (l + 1) xs' = List.replicate 32 none) = false := decide_eq_false hz
        have HZ : Hid _ := hz
        have HDZ : Hid _ := hdz
        clear hz hdz
        rcases hcc with hcc | ⟨hcc, hcc2, hcc3⟩
        all_goals
          go_wp2_with (first
            | (go_at_call 54; refine (span_any ((l + 1)) _ (by omega)).mono ?_; rintro e u ⟨rfl, rfl⟩; rw [HSP.out])
            | (refine wpList_load96 rfl (.tmp 10) rfl w.heap.size RC rfl HBK2.out HRCs.out ?_)
            | (refine wpList_eql96 rfl (.tmp 81) (.tmp 82) 96 rfl (rowOf (l + 1) xs') (List.replicate 32 none) (by rw [HRC.out]; rfl) rfl HRZ.out (by simp) (fun j _ => tell_zero _ j) ?_; rw [HDZ.out]))
          go_ret2
          refine ⟨some w.heap.size, by rw [HGE.out, ← HSP.out, ← spn_succ]; rfl, ?_, HWB.out⟩
          have q := HDN.out
          rw [if_neg HZ.out] at q
          exact q
end Go.Proofs.Ytjginocbbnmgaaa
