/-
  SEAT Ytjginocbbnmgaaa: TnodePlays.
-/
import Derived.Test.YtjginocbbnmgaaaTpT
namespace Go.Proofs.Ytjginocbbnmgaaa.tnodePlays
open Go.ChangeShapes Go.WideShapes Go.ChangeAt Go.RowKit Go.Joins
set_option linter.unusedVariables false

set_option maxHeartbeats 1000000 in
set_option maxRecDepth 100000 in
theorem lifted (os : Os) (started : os.Started) (H : Type) (enc : TypeId × Value → H) :
    ReturnsInHanded {} Try.checked os 8 .any (Rows.tnodePlaysSpec.pre6 enc Try.prog Try.f8 Rows.tnodePlaysRow.domain false) (Rows.tnodePlaysSpec.post enc Try.prog Try.f8 false true false false) := by
  refine returnsInHanded_of_change_sized (C := Try.checked) own started (by kernel_rfl) Try.func8
    (ChangeSpec.witness6 (enc := enc) (C := Try.checked) false ⟨#[], #[.slice none 0 0, .slice none 0 0], []⟩ 8 (by kernel_rfl) (by kernel_rfl) (by kernel_rfl) (by kernel_rfl)) ?_
  intro W base args ds gs before hval0 hW hcnd hsz0 _
  have hval : ∀ (j : Nat) t v, Try.f8.params[j]? = some t → args[j]? = some v → Value.okWide Try.prog W .any base t v := hval0
  have hsz : (DataW.weightsEach Try.prog (Try.f8.params.toList ++ Rows.tnodePlaysSpec.plain.varTypes Try.prog) (ds ++ gs)).all (· ≤ reachBytes) = true := hsz0
  clear hsz0
  have hW' := hW
  obtain ⟨pp, q, hA0, hV, rfl, hfz, hnd⟩ := hW
  have hA : DataW.TrodAll enc Try.prog W 0 (fun _ => true) true Try.f8.params.toList args.toList ds pp := hA0
  rw [Try.params8] at hA hval hsz
  obtain ⟨v0, vs0, d0, ds0, p0, q0, hargs, rfl, rfl, h0, r0⟩ := trodAll_cons hA
  obtain ⟨v1, vs1, d1, ds1, p1, q1, rfl, rfl, rfl, h1, r1⟩ := trodAll_cons r0
  obtain ⟨rfl, rfl, rfl⟩ := trodAll_nil r1
  obtain rfl : args = #[v0, v1] := by cases args; simp_all
  obtain ⟨rfl, rfl⟩ := trodVars_none hV
  have k0 := h0
  have lt0 : ∀ x ∈ p0, x.block < W.heap.size := by obtain ⟨m, hm⟩ := k0; exact DataW.trod_lt m _ _ _ hm
  obtain ⟨a0, l0, c0, z0, rfl, rd0, sz0⟩ := open_ops (hval 0 58 v0 rfl rfl) h0
  have s0 : l0 * 24 ≤ 140737488351232 := by
    rcases sz0 with h | ⟨el, sp, hd, hle⟩
    · omega
    · have hw := sized_slice hsz (j := 0) (t := 58) (e := 64) rfl (congrArg some hd) Try.underlying58
      rw [bytes64] at hw
      simp only [reachBytes] at hw
      omega
  have k1 := h1
  have lt1 : ∀ x ∈ p1, x.block < W.heap.size := by obtain ⟨m, hm⟩ := k1; exact DataW.trod_lt m _ _ _ hm
  obtain ⟨a1, l1, c1, z1, rfl, rd1, sz1⟩ := open_ops (hval 1 58 v1 rfl rfl) h1
  have s1 : l1 * 24 ≤ 140737488351232 := by
    rcases sz1 with h | ⟨el, sp, hd, hle⟩
    · omega
    · have hw := sized_slice hsz (j := 1) (t := 58) (e := 64) rfl (congrArg some hd) Try.underlying58
      rw [bytes64] at hw
      simp only [reachBytes] at hw
      omega
  clear hA0 hval0
  refine (plays_walk a0 l0 c0 z0 a1 l1 c1 z1 W rd0 s0 rd1 s1).mono fun e W' ⟨he, bel⟩ => ?_
  subst he
  exact ⟨_, rfl, _, _, _, [], _, [], hW', trodAll_mk1 (shut_bool Try.underlying4 _), (trodAll_cons_mk (Below.trod laidOut (by kernel_rfl) (of_decide_eq_true (by kernel_rfl)) k0 bel lt0) (trodAll_cons_mk (Below.trod laidOut (by kernel_rfl) (of_decide_eq_true (by kernel_rfl)) k1 bel lt1) trodAll_mk0)), rfl, bel.frame _, fun h => by cases h⟩

theorem over : Rows.tnodePlaysRow.holds Try.pinned (OpenSpec.ofChange Rows.tnodePlaysSpec) :=
  OpenClaim.holds_of_wide 8 Try.f8 rfl rfl rfl rfl rfl rfl rfl ⟨rfl, rfl, rfl, rfl, rfl⟩ rfl rfl rfl rfl rfl (by kernel_rfl) Try.func8 (by kernel_rfl)
    (of_decide_eq_true (by kernel_rfl)) (by unfold Func.isWrapper; first | (rw [if_pos (by decide +kernel)]; kernel_rfl) | (rw [if_neg (by decide +kernel)]; exact ⟨rfl, rfl⟩))
    (fun os started H enc _ => lifted os started H enc)

end Go.Proofs.Ytjginocbbnmgaaa.tnodePlays
namespace Go.Proofs.Ytjginocbbnmgaaa
theorem tnodePlays_holds : Rows.TnodePlaysSaid := tnodePlays.over
#print axioms tnodePlays_holds
end Go.Proofs.Ytjginocbbnmgaaa
