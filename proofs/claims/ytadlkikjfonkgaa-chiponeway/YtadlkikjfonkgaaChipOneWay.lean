/-
  SEAT Ytadlkikjfonkgaa: ChipOneWay.
-/
import Derived.Test.YtadlkikjfonkgaaZl
import Derived.Test.YtadlkikjfonkgaaZi
import Derived.SizedLaws
import Derived.ProofKit
import Derived.OpenShut
import Derived.ChangeOld
import Derived.Deep.Grids
import Derived.Deep.SlicePairs
namespace Go.Proofs.Ytadlkikjfonkgaa
open Go.RowKit Go.Conc
theorem onewayWalk (ba : Option Addr) (bn bc : Nat) (bad : List Int) (sa : Option Addr) (n c : Nat) (fs : List Fc) (oa : Option Addr) (on oc : Nat) (xs : List Ox) (w : World) (hR : ReadsI w ba bn bad) (hbn : bn ≤ 9223372036854775807) (hF : ReadsF w sa n fs) (hn : n ≤ 140737488351232) (hO : ReadsO w oa on xs) (hon : on ≤ 1600000000000) :
    Calls Try.prog 5 #[.slice ba bn bc, .slice sa n c, .slice oa on oc] w fun e w' => e = .returned (.bool true) ∧ Below w.heap.size w w' := by
  by_cases h : NewE 8 4 1 bad fs = 0
  · exact oneway_yes w ba bn bc bad hR hbn sa n c fs hF (by omega) oa on oc xs hO hon h
  · exact oneway_no w ba bn bc bad hR hbn sa n c fs hF (by omega) oa on oc xs hO hon h
end Go.Proofs.Ytadlkikjfonkgaa
namespace Go.Proofs.Ytadlkikjfonkgaa.chipOneWay
open Go.ChangeShapes Go.WideShapes Go.ChangeAt Go.RowKit Go.Joins Go.Deep Go.ChangeMaps
set_option linter.unusedVariables false

theorem own : ownKnob Try.prog.godebug = none := by kernel_rfl
theorem laidOut : laidOutB Try.prog = true := by kernel_rfl

set_option maxHeartbeats 1000000 in
set_option maxRecDepth 100000 in
theorem lifted (os : Os) (started : os.Started) (H : Type) (enc : TypeId × Value → H) :
    ReturnsInHanded {} Try.checked os 5 .any (Rows.chipOneWaySpec.pre6 enc Try.prog Try.f5 Rows.chipOneWayRow.domain false) (Rows.chipOneWaySpec.post enc Try.prog Try.f5 false true false false) := by
  refine returnsInHanded_of_change_sized (C := Try.checked) own started (by kernel_rfl) Try.func5
    (ChangeSpec.witness6 (enc := enc) (C := Try.checked) false ⟨#[], #[.slice none 0 0, .slice none 0 0, .slice none 0 0], []⟩ 8 (by kernel_rfl) (by kernel_rfl) (by kernel_rfl) (by kernel_rfl)) ?_
  intro W base args ds gs before hval0 hW hcnd hsz0 _
  have hval : ∀ (j : Nat) t v, Try.f5.params[j]? = some t → args[j]? = some v → Value.okWide Try.prog W .any base t v := hval0
  have hsz : (DataW.weightsEach Try.prog (Try.f5.params.toList ++ Rows.chipOneWaySpec.plain.varTypes Try.prog) (ds ++ gs)).all (· ≤ reachBytes) = true := hsz0
  clear hsz0
  have hW' := hW
  obtain ⟨pp, q, hA0, hV, rfl, hfz, hnd⟩ := hW
  have hA : DataW.TrodAll enc Try.prog W 0 (fun _ => true) true Try.f5.params.toList args.toList ds pp := hA0
  rw [Try.params5] at hA hval hsz
  obtain ⟨v0, vs0, d0, ds0, p0, q0, hargs, rfl, rfl, h0, r0⟩ := trodAll_cons hA
  obtain ⟨v1, vs1, d1, ds1, p1, q1, rfl, rfl, rfl, h1, r1⟩ := trodAll_cons r0
  obtain ⟨v2, vs2, d2, ds2, p2, q2, rfl, rfl, rfl, h2, r2⟩ := trodAll_cons r1
  obtain ⟨rfl, rfl, rfl⟩ := trodAll_nil r2
  obtain rfl : args = #[v0, v1, v2] := by cases args; simp_all
  obtain ⟨rfl, rfl⟩ := trodVars_none hV
  have k0 := h0
  have lt0 : ∀ x ∈ p0, x.block < W.heap.size := by obtain ⟨m, hm⟩ := k0; exact DataW.trod_lt m _ _ _ hm
  obtain ⟨a0, l0, c0, z0, hv0, rd0, s0⟩ : ∃ a l c zs, v0 = .slice a l c ∧ ReadsI W a l zs ∧ l ≤ 9223372036854775807 := by
    obtain ⟨u0, hu0⟩ : ∃ u, v0 = u := ⟨_, rfl⟩
    obtain ⟨fuel, hf⟩ := h0
    have hc0 : v0.cells.toList = [v0] := by
      obtain ⟨q1, q2, q3, rfl⟩ := okWide_slice Try.underlying48 (hval 0 48 v0 rfl rfl)
      rfl
    rw [hc0] at hf
    exact open_intsW hf
  subst hv0
  have k1 := h1
  have lt1 : ∀ x ∈ p1, x.block < W.heap.size := by obtain ⟨m, hm⟩ := k1; exact DataW.trod_lt m _ _ _ hm
  obtain ⟨a1, l1, c1, z1, hv1, rd1, s1⟩ : ∃ a l c zs, v1 = .slice a l c ∧ ReadsF W a l zs ∧ l ≤ 140737488351232 := by
    obtain ⟨u1, hu1⟩ : ∃ u, v1 = u := ⟨_, rfl⟩
    obtain ⟨fuel, hf⟩ := h1
    have hc1 : v1.cells.toList = [v1] := by
      obtain ⟨q1, q2, q3, rfl⟩ := okWide_slice Try.underlying49 (hval 1 49 v1 rfl rfl)
      rfl
    rw [hc1] at hf
    exact open_faults hf (wts_each hsz (j := 1) rfl rfl)
  subst hv1
  have k2 := h2
  have lt2 : ∀ x ∈ p2, x.block < W.heap.size := by obtain ⟨m, hm⟩ := k2; exact DataW.trod_lt m _ _ _ hm
  obtain ⟨a2, l2, c2, z2, hv2, rd2, s2⟩ : ∃ a l c zs, v2 = .slice a l c ∧ ReadsO W a l zs ∧ l ≤ 1600000000000 := by
    obtain ⟨u2, hu2⟩ : ∃ u, v2 = u := ⟨_, rfl⟩
    obtain ⟨fuel, hf⟩ := h2
    have hc2 : v2.cells.toList = [v2] := by
      obtain ⟨q1, q2, q3, rfl⟩ := okWide_slice Try.underlying50 (hval 2 50 v2 rfl rfl)
      rfl
    rw [hc2] at hf
    exact open_opsW hf (wts_each hsz (j := 2) rfl rfl)
  subst hv2
  clear hA0 hval0
  refine (onewayWalk a0 l0 c0 z0 a1 l1 c1 z1 a2 l2 c2 z2 W rd0 s0 rd1 s1 rd2 s2).mono fun e W' ⟨he, bel⟩ => ?_
  subst he
  exact ⟨_, rfl, _, _, _, [], _, [], hW', trodAll_mk1 (shut_bool Try.underlying4 _), (trodAll_cons_mk (Below.trod laidOut (by kernel_rfl) (of_decide_eq_true (by kernel_rfl)) k0 bel lt0) (trodAll_cons_mk (Below.trod laidOut (by kernel_rfl) (of_decide_eq_true (by kernel_rfl)) k1 bel lt1) (trodAll_cons_mk (Below.trod laidOut (by kernel_rfl) (of_decide_eq_true (by kernel_rfl)) k2 bel lt2) trodAll_mk0))), rfl, bel.frame _, fun h => by cases h⟩

theorem over : Rows.chipOneWayRow.holds Try.pinned (OpenSpec.ofChange Rows.chipOneWaySpec) :=
  OpenClaim.holds_of_wide 5 Try.f5 rfl rfl rfl rfl rfl rfl rfl ⟨rfl, rfl, rfl, rfl, rfl⟩ rfl rfl rfl rfl rfl (by kernel_rfl) Try.func5 (by kernel_rfl)
    (of_decide_eq_true (by kernel_rfl)) (by unfold Func.isWrapper; first | (rw [if_pos (by decide +kernel)]; kernel_rfl) | (rw [if_neg (by decide +kernel)]; exact ⟨rfl, rfl⟩))
    (fun os started H enc _ => lifted os started H enc)

end Go.Proofs.Ytadlkikjfonkgaa.chipOneWay
namespace Go.Proofs.Ytadlkikjfonkgaa
theorem chipOneWay_holds : Rows.ChipOneWaySaid := chipOneWay.over
#print axioms chipOneWay_holds
end Go.Proofs.Ytadlkikjfonkgaa
