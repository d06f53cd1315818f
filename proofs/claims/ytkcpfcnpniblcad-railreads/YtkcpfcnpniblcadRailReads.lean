/-
  SEAT Ytkcpfcnpniblcad: RailReads.
-/
import Derived.Test.YtkcpfcnpniblcadRrD
import Derived.WalkKit
import Derived.ProofKit
import Derived.OpenShut
import Derived.ShutString
import Derived.ChangeOld
import Derived.Below
import Derived.SizedLaws
namespace Go.Proofs.Ytkcpfcnpniblcad.railReads
open Go.ChangeShapes Go.WideShapes Go.ChangeAt Go.RowKit
open Go.ChangeMaps (open_string shut_string)
set_option linter.unusedVariables false

theorem own : ownKnob Try.prog.godebug = none := by kernel_rfl
theorem bytes5 : Try.prog.bytesOf 5 = 1 := by kernel_rfl
theorem laidOut : laidOutB Try.prog = true := by kernel_rfl

set_option maxHeartbeats 2000000 in
theorem walkBad (a0 : Option Addr) (len0 cap0 : Nat) (z0 : List Int) (E : Int) (w : World) (w0 : Reads w a0 len0 z0) (s0 : len0 ≤ 140737488351232)
    (cref : ∀ u, Reads u a0 len0 z0 → Calls Try.prog 22 #[.slice a0 len0 cap0] u fun e u' => e = .returned (.tuple #[.slice none 0 0, .int .i64 0, .int .i64 E]) ∧ Below u.heap.size u u')
    (crd : ∀ u a c, Reads u a len0 z0 → Calls Try.prog 18 #[.slice a len0 c] u fun e u' => e = .returned (.tuple #[.slice none 0 0, .int .i64 0, .int .i64 E]) ∧ Below u.heap.size u u') :
    Calls Try.prog 7 #[.slice a0 len0 cap0] w fun e w' => e = .returned (.bool true) ∧ Below w.heap.size w w' := by
  obtain ⟨i0, hi, hz0, hz1, hz2⟩ := info_parts info5
  have hlen := w0.1
  have hrng := w0.2.1
  have hnil : ∀ u : World, Reads u none 0 [] := fun u => ⟨rfl, by simp, fun _ => rfl, fun _ h => by cases h⟩
  have hdec : decide (([] : List Int) = []) = true := decide_eq_true rfl
  have HREF : Hid _ := cref
  have HRD : Hid _ := crd
  clear cref crd
  go_enter Try.func7, Try.ntmps7
  go_wp2_with (first
    | (go_at_call 22; refine (HREF.out _ w0).mono ?_; rintro e u1 ⟨rfl, bel1⟩; have rb1 := w0.below bel1)
    | (go_at_call 14; refine (roomy_any _ _ _ z0 _ s0 rb1).mono ?_; rintro e u2 ⟨gf, cf, rfl, own2, bel2⟩; have rf2 := own2.reads (room_range _ _ hrng) len0 (by omega); rw [room, List.take_left' hlen] at rf2; have cf70 : len0 + 70 ≤ cf := (by obtain ⟨_, _, e, h3, _⟩ := own_shape own2 (by omega); simp at e; omega))
    | (go_at_call 18; refine (HRD.out _ _ _ ?_).mono ?_; exact rf2; rintro e u3 ⟨rfl, bel3⟩; have rf3 := rf2.below bel3)
    | (go_at_call 18; refine (HRD.out _ _ _ ?_).mono ?_; exact rf3; rintro e u4 ⟨rfl, bel4⟩; have b24 := bel3.trans (bel4.mono bel3.size); have b14 := bel2.trans (b24.mono bel2.size); have b04 := bel1.trans (b14.mono bel1.size); have of4 := own2.below b24; have rb4 := w0.below b04)
    | (go_at_call 10; refine (no_any _ _).mono ?_; rintro e u ⟨rfl, rfl⟩)
    | (go_at_call 12; refine (same_any _ _ _ _ _ [] [] _ ?_ ?_ ?_).mono ?_; omega; exact hnil _; exact hnil _; rintro e u ⟨rfl, k1, rfl⟩)
    | (go_at_call 17; refine (kept_any u1.heap.size _ _ _ _ _ z0 _ s0 ?_ ?_).mono ?_; (first | exact rb4 | exact rb4.drewN _ | exact (rb4.drewN _).drewN _); (first | exact of4 | exact of4.drewN _ | exact (of4.drewN _).drewN _); rintro e u ⟨rfl, k3, rfl⟩))
  refine wp_loop_rounds 1 ?_
  rw [rounds_succ]
  go_wp2_with (first
    | (at_builtin; refine wpList_append_own _ rfl (.tmp 77) (.tmp 78) 22 rfl 0 5 i0 (.int .u8 0) 1 1 Try.underlying22 hi hz0 hz1 hz2 rfl (by decide) _ 0 [] rfl (World.ownsRow_nil _ _ _ _) ⟨_, 0, none⟩ 1 1 [.int .u8 34] rfl rfl (news_one _ _) (by simp [Value.oneCell']) (by simp [maxLen]) (by omega) (Nat.zero_le _) ?_; intro v7 w7 hown7 hgrow7 _; obtain ⟨gz, cz, rfl, hcz, hmz, hbz, hgz⟩ := own_shape hown7 (by omega); have b47 := ((below_drewN (Below.refl u4.heap.size u4) _).alloc (Nat.le_refl _) _).grown hgrow7 (by simp) (fun k hk => by cases hk); have of7 := of4.below b47; have rb7 := rb4.below b47; have cz7 : w7.cell? ⟨gz, 0, none⟩ = some (.int .u8 34) := lastcell (N := 0) hown7)
    | (go_at_call 12; refine (same_any _ _ _ _ _ [] [] _ ?_ ?_ ?_).mono ?_; omega; exact hnil _; exact hnil _; rintro e u ⟨rfl, k1, rfl⟩)
    | (go_at_call 17; refine (kept_any u1.heap.size _ _ _ _ _ z0 _ s0 ?_ ?_).mono ?_; (first | exact rb7 | exact rb7.drewN _ | exact (rb7.drewN _).drewN _); (first | exact of7 | exact of7.drewN _ | exact (of7.drewN _).drewN _); rintro e u ⟨rfl, k3, rfl⟩))
  have BEL : Below w.heap.size w w7 := b04.trans (b47.mono b04.size)
  go_ret
  first | exact ⟨rfl, below_drewN BEL _⟩ | exact ⟨rfl, below_drewN (below_drewN BEL _) _⟩

set_option maxHeartbeats 2000000 in
theorem walkGood (a0 : Option Addr) (len0 cap0 : Nat) (z0 : List Int) (N : Nat) (n : Int) (L : List Int) (w : World) (w0 : Reads w a0 len0 z0) (s0 : len0 ≤ 140737488351232) (hN : N ≤ 8192) (hLl : L.length = N) (hLr : ∀ x ∈ L, 0 ≤ x ∧ x ≤ 255)
    (cref : ∀ u, Reads u a0 len0 z0 → Calls Try.prog 22 #[.slice a0 len0 cap0] u fun e u' => ∃ g c, e = .returned (.tuple #[.slice (some ⟨g, 0, none⟩) N c, .int .i64 n, .int .i64 0]) ∧ Own u' u.heap.size g N c L ∧ Below u.heap.size u u')
    (crd : ∀ u a c, Reads u a len0 z0 → Calls Try.prog 18 #[.slice a len0 c] u fun e u' => ∃ g c, e = .returned (.tuple #[.slice (some ⟨g, 0, none⟩) N c, .int .i64 n, .int .i64 0]) ∧ Own u' u.heap.size g N c L ∧ Below u.heap.size u u') :
    Calls Try.prog 7 #[.slice a0 len0 cap0] w fun e w' => e = .returned (.bool true) ∧ Below w.heap.size w w' := by
  obtain ⟨i0, hi, hz0, hz1, hz2⟩ := info_parts info5
  have hlen := w0.1
  have hrng := w0.2.1
  have hdec : decide (L = L) = true := decide_eq_true rfl
  have HREF : Hid _ := cref
  have HRD : Hid _ := crd
  clear cref crd
  go_enter Try.func7, Try.ntmps7
  go_wp2_with (first
    | (go_at_call 22; refine (HREF.out _ w0).mono ?_; rintro e u1 ⟨gw, cw, rfl, own1, bel1⟩; have rb1 := w0.below bel1)
    | (go_at_call 14; refine (roomy_any _ _ _ z0 _ s0 rb1).mono ?_; rintro e u2 ⟨gf, cf, rfl, own2, bel2⟩; have rf2 := own2.reads (room_range _ _ hrng) len0 (by omega); rw [room, List.take_left' hlen] at rf2; have cf70 : len0 + 70 ≤ cf := (by obtain ⟨_, _, e, h3, _⟩ := own_shape own2 (by omega); simp at e; omega))
    | (go_at_call 18; refine (HRD.out _ _ _ ?_).mono ?_; exact rf2; rintro e u3 ⟨gx, cx, rfl, own3, bel3⟩; have rf3 := rf2.below bel3)
    | (go_at_call 18; refine (HRD.out _ _ _ ?_).mono ?_; exact rf3; rintro e u4 ⟨gy, cy, rfl, own4, bel4⟩; have b24 := bel3.trans (bel4.mono bel3.size); have b14 := bel2.trans (b24.mono bel2.size); have b04 := bel1.trans (b14.mono bel1.size); have ow4 := own1.below b14; have of4 := own2.below b24; have ox4 := own3.below bel4; have rw4 := ow4.all hLr; have rx4 := ox4.all hLr; have ry4 := own4.all hLr; have rb4 := w0.below b04)
    | (go_at_call 10; refine (no_any _ _).mono ?_; rintro e u ⟨rfl, rfl⟩)
    | (go_at_call 12; refine (same_any _ _ _ _ _ L L _ ?_ ?_ ?_).mono ?_; omega; exact rx4; exact rw4; rintro e u ⟨rfl, k1, rfl⟩; have ry5 := ry4.drewN k1; have rw5 := rw4.drewN k1)
    | (go_at_call 12; refine (same_any _ _ _ _ _ L L _ ?_ ?_ ?_).mono ?_; omega; exact ry5; exact rw5; rintro e u ⟨rfl, k2, rfl⟩; have of6 := (of4.drewN k1).drewN k2; have rb6 := (rb4.drewN k1).drewN k2)
    | (go_at_call 17; refine (kept_any u1.heap.size _ _ _ _ _ z0 _ s0 ?_ ?_).mono ?_; exact rb6; exact of6; rintro e u ⟨rfl, k3, rfl⟩))
  have lw := own1.lt
  have lf := own2.lt
  have lx := own3.lt
  have ly := own4.lt
  have z1 := bel1.size
  have z2 := bel2.size
  have z3 := bel3.size
  have z4 := bel4.size
  clear rw4 rx4 ry4 ry5 rw5 of6 rb6 rf2 rf3 rb1 rb4 own1 own2 own3 bel1 bel2 bel3 bel4 b24 b14
  go_loopw [13] (fun i wr => ∃ k : Nat, k ≤ N ∧ i = .int .i64 k ∧ Own wr u2.heap.size gx N cx (List.replicate k 17 ++ L.drop k) ∧ u4.grownBy wr (some gx))
    (fun i _ => N - (intOf i).toNat)
  case atStart => exact ⟨0, Nat.zero_le _, rfl, by simpa using ox4.drewN _, ⟨rfl, rfl, rfl, Nat.le_refl _, fun _ _ _ => rfl⟩⟩
  case round =>
    obtain ⟨k, hk, rfl, hownr, hg⟩ := hrel
    by_cases hlt : k < N
    · have hcx := hownr.cell k hlt
      have hfz : ‹World›.frozen? ⟨gx, k, none⟩ = false := World.ownsRow.frozenAt hownr k
      have HS := (hownr.set k 17).1
      rw [fill_step L k (by omega)] at HS
      have HG := grownBy_trans hg (hownr.set k 17).2
      have HS' : Hid (Own _ _ _ _ _ _) := HS
      have HG' : Hid (World.grownBy _ _ _) := HG
      have i1 : (k : Int) < (N : Int) := by omega
      have hd1 : decide ((k : Int) < (N : Int)) = true := decide_eq_true i1
      clear HS HG
      go_wp2
      go_roundw
      case rel => exact ⟨k + 1, by omega, by go_num, HS'.out, HG'.out⟩
      case measure => simp [intOf]; omega
    · have hkN : k = N := by omega
      rw [List.drop_of_length_le (by omega), List.append_nil, hkN] at hownr
      clear hkN
      have hox := hownr.below ((Below.refl _ _).alloc (Nat.le_refl _) (.cells #[.int .u8 34] 5))
      have hgs := hg.size
      go_wp2_with (first
        | (at_builtin; refine wpList_append_keep rfl (.tmp 77) (.tmp 78) rfl u2.heap.size gx N cx (List.replicate N 17) rfl hox _ 1 1 [34] rfl (one_reads _ 34 (by decide) (by decide)) (by omega) (by simp; omega) ?_; intro v7 w7 hown7 hgrow7 ox7; obtain ⟨gz, cz, rfl, hcz, hmz, hbz, hgz⟩ := own_shape hown7 (by omega); have hg7 := grownBy_trans (grownBy_trans hg (World.grownBy_alloc _ _ _)) hgrow7; have ry7 := (own4.apart hg7 (by omega)).all hLr; have rw7 := (ow4.apart hg7 (by omega)).all hLr; have of7 := of4.apart hg7 (by omega); have rb7 := w0.grown (g' := gx) (B := 0) b04 hg7 (by omega); have cz7 : w7.cell? ⟨gz, N, none⟩ = some (.int .u8 34) := lastcell hown7)
        | (go_at_call 12; refine (same_any _ _ _ _ _ L L _ ?_ ?_ ?_).mono ?_; omega; exact ry7; exact rw7; rintro e u ⟨rfl, k1, rfl⟩; have of8 := of7.drewN k1; have rb8 := rb7.drewN k1)
        | (go_at_call 17; refine (kept_any u1.heap.size _ _ _ _ _ z0 _ s0 ?_ ?_).mono ?_; exact rb8; exact of8; rintro e u ⟨rfl, k3, rfl⟩))
      have BEL : Below w.heap.size w w7 := b04.grown hg7 b04.size (fun k hk => by cases hk; omega)
      go_ret
      first | exact ⟨rfl, below_drewN BEL _⟩ | exact ⟨rfl, below_drewN (below_drewN BEL _) _⟩

theorem walk (a0 : Option Addr) (len0 cap0 : Nat) (z0 : List Int) (w : World) (w0 : Reads w a0 len0 z0) (s0 : len0 ≤ 140737488351232) :
    Calls Try.prog 7 #[.slice a0 len0 cap0] w fun e w' => e = .returned (.bool true) ∧ Below w.heap.size w w' := by
  by_cases hbad : len0 % 2 = 1 ∨ len0 < 2 ∨ 8192 < len0
  · refine walkBad a0 len0 cap0 z0 31 w w0 s0 (fun u h => ?_) (fun u a c h => ?_)
    · exact (rread_bad a0 len0 cap0 u (by omega) hbad).mono fun e u' ⟨h1, h2⟩ => ⟨h1, by subst h2; exact Below.refl _ _⟩
    · exact (read_bad a len0 c u (by omega) hbad).mono fun e u' ⟨h1, h2⟩ => ⟨h1, by subst h2; exact Below.refl _ _⟩
  · obtain ⟨N, hN⟩ : ∃ N, len0 = 2 * (N + 1) := ⟨len0 / 2 - 1, by omega⟩
    obtain ⟨xs, hxs⟩ : ∃ xs, xs = z0.map Int.toNat := ⟨_, rfl⟩
    obtain ⟨hc, hx⟩ := cst_of z0 w0.2.1
    rw [← hxs] at hc hx
    have hm : 1 ≤ N + 1 ∧ N + 1 ≤ 4096 := by omega
    have cref : ∀ u, Reads u a0 len0 z0 → Calls Try.prog 22 #[.slice a0 len0 cap0] u fun e u' => readR u (N + 1) (readN xs) e u' ∧ Below u.heap.size u u' := fun u h => by
      rw [← hc] at h
      exact rread_ok a0 len0 cap0 (N + 1) xs u hN hm hx h
    have crd : ∀ u a c, Reads u a len0 z0 → Calls Try.prog 18 #[.slice a len0 c] u fun e u' => readR u (N + 1) (readN xs) e u' ∧ Below u.heap.size u u' := fun u a c h => by
      rw [← hc] at h
      exact read_ok a len0 c (N + 1) xs u hN hm hx h
    match hr : readN xs with
    | none =>
      rw [hr] at cref crd
      exact walkBad a0 len0 cap0 z0 30 w w0 s0 cref crd
    | some (zs, n) =>
      rw [hr] at cref crd
      have h3 := read_one xs (N + 1) (by have := congrArg List.length hc; simp [cst] at this; have := w0.1; omega) (by omega) hx zs n hr
      have hzl := h3.1
      have hz2 := h3.2.1
      clear h3
      have key : ∀ u e u', readR u (N + 1) (some (zs, n)) e u' ∧ Below u.heap.size u u' → ∃ g c, e = .returned (.tuple #[.slice (some ⟨g, 0, none⟩) N c, .int .i64 n, .int .i64 0]) ∧ Own u' u.heap.size g N c (cst zs) ∧ Below u.heap.size u u' := by
        rintro u e u' ⟨⟨he, rows, hrt, _, hown⟩, hb⟩
        refine ⟨_, _, he, ?_, hb⟩
        have h1 := Own.front hown (show N ≤ N + 1 by omega)
        have e1 : ((cst rows).map (Value.int .u8)).take N = (cst zs).map (Value.int .u8) := by
          rw [← hrt, ← List.map_take]
          simp [cst, List.map_take]
        rw [e1] at h1
        exact h1
      exact walkGood a0 len0 cap0 z0 N n (cst zs) w w0 s0 (by omega) (by simp only [cst, List.length_map]; omega) (cst_range zs hz2)
        (fun u h => (cref u h).mono fun e u' h => key u e u' h) (fun u a c h => (crd u a c h).mono fun e u' h => key u e u' h)

set_option maxRecDepth 100000 in
theorem lifted (os : Os) (started : os.Started) (H : Type) (enc : TypeId × Value → H) :
    ReturnsInHanded {} Try.checked os 7 .any (Rows.railReadsSpec.pre6 enc Try.prog Try.f7 Rows.railReadsRow.domain false) (Rows.railReadsSpec.post enc Try.prog Try.f7 false true false false) := by
  refine returnsInHanded_of_change_sized (C := Try.checked) own started (by kernel_rfl) Try.func7
    (ChangeSpec.witness6 (enc := enc) (C := Try.checked) false ⟨#[], #[.slice none 0 0], []⟩ 8 (by kernel_rfl) (by kernel_rfl) (by kernel_rfl) (by kernel_rfl)) ?_
  intro W base args ds gs before hval0 hW hcnd hsz0 _
  have hval : ∀ (j : Nat) t v, Try.f7.params[j]? = some t → args[j]? = some v → Value.okWide Try.prog W .any base t v := hval0
  have hsz : (DataW.weightsEach Try.prog (Try.f7.params.toList ++ Rows.railReadsSpec.plain.varTypes Try.prog) (ds ++ gs)).all (· ≤ reachBytes) = true := hsz0
  clear hsz0
  have hW' := hW
  obtain ⟨p, q, hA0, hV, rfl, hfz, hnd⟩ := hW
  have hA : DataW.TrodAll enc Try.prog W 0 (fun _ => true) true Try.f7.params.toList args.toList ds p := hA0
  rw [Try.params7] at hA hval hsz
  obtain ⟨v0, vs0, d0, ds0, p0, q0, hargs, rfl, rfl, h0, r0⟩ := trodAll_cons hA
  obtain ⟨rfl, rfl, rfl⟩ := trodAll_nil r0
  obtain rfl : args = #[v0] := by cases args; simp_all
  obtain ⟨rfl, rfl⟩ := trodVars_none hV
  obtain ⟨a0, len0, cap0, rfl⟩ := okWide_slice Try.underlying22 (hval 0 22 v0 rfl rfl)
  have k0 := h0
  have lt0 : ∀ x ∈ p0, x.block < W.heap.size := by obtain ⟨m, hm⟩ := k0; exact DataW.trod_lt m _ _ _ hm
  obtain ⟨z0, w0, s0⟩ : ∃ zs, Reads W a0 len0 zs ∧ len0 ≤ 140737488351232 := by
    obtain ⟨fuel, hf⟩ := h0
    rcases open_ints Try.underlying22 Try.underlying5 (by kernel_rfl) hf with ⟨hcs, _⟩ | ⟨x, l, c, zs, hcs, _, hl, hm, hz, hx, hcell, hwz⟩
    · simp [Value.cells] at hcs
      obtain ⟨rfl, rfl, rfl⟩ := hcs
      exact ⟨[], ⟨rfl, by simp, fun _ => rfl, fun _ h => by cases h⟩, by omega⟩
    · simp [Value.cells] at hcs
      obtain ⟨rfl, rfl, rfl⟩ := hcs
      have hz' : zs.length = cap0 := by simpa using hz
      have hd := (Prod.mk.inj hx).1
      have hw := sized_slice hsz (j := 0) (t := 22) (e := 5) rfl (congrArg some hd) Try.underlying22
      rw [bytes5] at hw
      simp only [lits, List.length_map, List.length_take, List.length_drop, reachBytes] at hw
      refine ⟨zs.take len0, ⟨by simp; omega, fun n hn => bounds_u8 (hwz n (List.mem_of_mem_take hn)), (fun h => by cases h), fun y hy i hi => ?_⟩, by omega⟩
      cases hy
      rw [hcell i (by omega)]
      simp [List.getD, hi]
  clear hA0 hval0
  refine (walk a0 len0 cap0 z0 W w0 s0).mono fun e W' ⟨he, bel⟩ => ?_
  subst he
  exact ⟨_, rfl, _, _, _, [], _, [], hW', trodAll_mk1 (shut_bool Try.underlying4 _), (trodAll_cons_mk (Below.trod laidOut (by kernel_rfl) (of_decide_eq_true (by kernel_rfl)) k0 bel lt0) trodAll_mk0), rfl, bel.frame _, fun h => by cases h⟩

theorem over : Rows.railReadsRow.holds Try.pinned (OpenSpec.ofChange Rows.railReadsSpec) :=
  OpenClaim.holds_of_wide 7 Try.f7 rfl rfl rfl rfl rfl rfl rfl ⟨rfl, rfl, rfl, rfl, rfl⟩ rfl rfl rfl rfl rfl (by kernel_rfl) Try.func7 (by kernel_rfl)
    (of_decide_eq_true (by kernel_rfl)) (by unfold Func.isWrapper; first | (rw [if_pos (by decide +kernel)]; kernel_rfl) | (rw [if_neg (by decide +kernel)]; exact ⟨rfl, rfl⟩))
    (fun os started H enc _ => lifted os started H enc)

end Go.Proofs.Ytkcpfcnpniblcad.railReads
namespace Go.Proofs.Ytkcpfcnpniblcad
theorem railReads_holds : Rows.RailReadsSaid := railReads.over
#print axioms railReads_holds
end Go.Proofs.Ytkcpfcnpniblcad

