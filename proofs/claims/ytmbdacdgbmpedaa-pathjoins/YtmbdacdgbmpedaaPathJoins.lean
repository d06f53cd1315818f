/-
  SEAT Ytmbdacdgbmpedaa: PathJoins.
-/
import Derived.Test.YtmbdacdgbmpedaaJv
import Derived.ProofKit
import Derived.OpenShut
import Derived.ShutString
import Derived.ChangeOld
import Derived.SizedLaws
import Derived.Deep.Strs
namespace Go.Proofs.Ytmbdacdgbmpedaa.pathJoins
open Go.ChangeShapes Go.WideShapes Go.ChangeAt Go.RowKit Go.Joins
set_option linter.unusedVariables false

theorem own : ownKnob Try.prog.godebug = none := by kernel_rfl
theorem laidOut : laidOutB Try.prog = true := by kernel_rfl
theorem bytes9 : Try.prog.bytesOf 9 = 16 := by kernel_rfl
theorem addr_plain {W : World} {x : Addr} {v : Value} (h : W.cell? x = some v) : ∃ b o, x = ⟨b, o, none⟩ := by
  obtain ⟨b, o, e⟩ := x
  cases e with
  | none => exact ⟨b, o, rfl⟩
  | some e =>
    exfalso
    simp [World.cell?] at h
    split at h <;> simp at h
theorem open_names {H : Type} {enc : TypeId × Value → H} {W : World} {base : Nat} {v : Value} {d : DataW H} {p : List MemPlace} (hv : Value.okWide Try.prog W .any base 22 v) (h : DataW.Trod enc Try.prog W 0 (fun _ => true) true 22 v d p) :
    ∃ a c xs, v = .slice a (xs : List ByteArray).length c ∧ Vw W (.slice a xs.length c) xs ∧ (∀ x ∈ xs, x.size ≤ 9223372036854775807) ∧ (xs.length = 0 ∨ ∃ elems spare, d = .slice elems spare ∧ xs.length ≤ elems.length + spare.length) := by
  obtain ⟨a, len, cap, rfl⟩ := okWide_slice Try.underlying22 hv
  obtain ⟨fuel, hf⟩ := h
  rcases Deep.open_strs Try.underlying22 Try.underlying9 (by kernel_rfl) hf with ⟨hcs, _⟩ | ⟨x, l, c, m, Sx, hcs, _, hl, hm, hmm, hx, hcell⟩
  · simp [Value.cells] at hcs
    obtain ⟨rfl, rfl, rfl⟩ := hcs
    exact ⟨none, 0, [], rfl, ⟨none, 0, rfl, Nat.le_refl _, by simp [maxLen], ⟨rfl, fun _ => rfl, fun _ h => by cases h⟩, fun _ h => by cases h⟩, (fun _ h => by cases h), Or.inl rfl⟩
  · simp [Value.cells] at hcs
    obtain ⟨rfl, rfl, rfl⟩ := hcs
    have hmc : m = cap := by rw [hmm]; simp
    have hlen : ((List.range len).map Sx).length = len := by simp
    have rd : RdS W (some x) ((List.range len).map Sx).length ((List.range len).map Sx) := by
      refine ⟨rfl, (fun h => by cases h), fun y hy j u hj => ?_⟩
      cases hy
      rw [List.getElem?_map] at hj
      cases hr : (List.range len)[j]? with
      | none => rw [hr] at hj; cases hj
      | some q =>
        rw [hr] at hj
        have hq := List.getElem?_eq_some_iff.1 hr
        obtain ⟨hlt, he⟩ := hq
        simp at hlt he
        subst he
        simp at hj
        rw [← hj]
        exact (hcell j (by omega)).1
    refine ⟨some x, cap, (List.range len).map Sx, by rw [hlen], ⟨some x, cap, rfl, by rw [hlen]; exact hl, hm, rd, ?_⟩, ?_, Or.inr ⟨_, _, (Prod.mk.inj hx).1, by simp⟩⟩
    · intro y hy hne
      cases hy
      have hpos : 0 < len := by
        rcases Nat.eq_zero_or_pos len with h | h
        · subst h; simp at hne
        · exact h
      have h0 := (hcell 0 (by omega)).1
      obtain ⟨b, o, e⟩ := addr_plain h0
      obtain ⟨xb, xo, xe⟩ := x
      cases xe with
      | none => exact ⟨xb, xo, rfl⟩
      | some e' => simp [Addr.add] at e
    · intro y hy
      obtain ⟨j, hj, rfl⟩ := List.mem_map.1 hy
      have := (hcell j (by have := List.mem_range.1 hj; omega)).2
      unfold maxLen at this; omega

set_option maxHeartbeats 1000000 in
set_option maxRecDepth 100000 in
theorem lifted (os : Os) (started : os.Started) (H : Type) (enc : TypeId × Value → H) :
    ReturnsInHanded {} Try.checked os 3 .any (Rows.pathJoinsSpec.pre6 enc Try.prog Try.f3 Rows.pathJoinsRow.domain false) (Rows.pathJoinsSpec.post enc Try.prog Try.f3 false true false false) := by
  refine returnsInHanded_of_change_sized (C := Try.checked) own started (by kernel_rfl) Try.func3
    (ChangeSpec.witness6 (enc := enc) (C := Try.checked) false ⟨#[], #[.slice none 0 0, .slice none 0 0], []⟩ 8 (by kernel_rfl) (by kernel_rfl) (by kernel_rfl) (by kernel_rfl)) ?_
  intro W base args ds gs before hval0 hW hcnd hsz0 _
  have hval : ∀ (j : Nat) t v, Try.f3.params[j]? = some t → args[j]? = some v → Value.okWide Try.prog W .any base t v := hval0
  have hsz : (DataW.weightsEach Try.prog (Try.f3.params.toList ++ Rows.pathJoinsSpec.plain.varTypes Try.prog) (ds ++ gs)).all (· ≤ reachBytes) = true := hsz0
  clear hsz0
  have hW' := hW
  obtain ⟨pp, q, hA0, hV, rfl, hfz, hnd⟩ := hW
  have hA : DataW.TrodAll enc Try.prog W 0 (fun _ => true) true Try.f3.params.toList args.toList ds pp := hA0
  rw [Try.params3] at hA hval hsz
  obtain ⟨v0, vs0, d0, ds0, p0, q0, hargs, rfl, rfl, h0, r0⟩ := trodAll_cons hA
  obtain ⟨v1, vs1, d1, ds1, p1, q1, rfl, rfl, rfl, h1, r1⟩ := trodAll_cons r0
  obtain ⟨rfl, rfl, rfl⟩ := trodAll_nil r1
  obtain rfl : args = #[v0, v1] := by cases args; simp_all
  obtain ⟨rfl, rfl⟩ := trodVars_none hV
  have k0 := h0
  have lt0 : ∀ x ∈ p0, x.block < W.heap.size := by obtain ⟨m, hm⟩ := k0; exact DataW.trod_lt m _ _ _ hm
  obtain ⟨a0, c0, x0, rfl, vw0, b0, sz0⟩ := open_names (hval 0 22 v0 rfl rfl) h0
  have s0 : x0.length * 16 ≤ 140737488351232 := by
    rcases sz0 with h | ⟨el, sp, hd, hle⟩
    · omega
    · have hw := sized_slice hsz (j := 0) (t := 22) (e := 9) rfl (congrArg some hd) Try.underlying22
      rw [bytes9] at hw
      simp only [reachBytes] at hw
      omega
  have k1 := h1
  have lt1 : ∀ x ∈ p1, x.block < W.heap.size := by obtain ⟨m, hm⟩ := k1; exact DataW.trod_lt m _ _ _ hm
  obtain ⟨a1, c1, x1, rfl, vw1, b1, sz1⟩ := open_names (hval 1 22 v1 rfl rfl) h1
  have s1 : x1.length * 16 ≤ 140737488351232 := by
    rcases sz1 with h | ⟨el, sp, hd, hle⟩
    · omega
    · have hw := sized_slice hsz (j := 1) (t := 22) (e := 9) rfl (congrArg some hd) Try.underlying22
      rw [bytes9] at hw
      simp only [reachBytes] at hw
      omega
  clear hA0 hval0
  refine (joins_walk a0 c0 x0 a1 c1 x1 W vw0 b0 s0 vw1 b1 s1).mono fun e W' ⟨he, bel⟩ => ?_
  subst he
  exact ⟨_, rfl, _, _, _, [], _, [], hW', trodAll_mk1 (shut_bool Try.underlying4 _), (trodAll_cons_mk (Below.trod laidOut (by kernel_rfl) (of_decide_eq_true (by kernel_rfl)) k0 bel lt0) (trodAll_cons_mk (Below.trod laidOut (by kernel_rfl) (of_decide_eq_true (by kernel_rfl)) k1 bel lt1) trodAll_mk0)), rfl, bel.frame _, fun h => by cases h⟩

theorem over : Rows.pathJoinsRow.holds Try.pinned (OpenSpec.ofChange Rows.pathJoinsSpec) :=
  OpenClaim.holds_of_wide 3 Try.f3 rfl rfl rfl rfl rfl rfl rfl ⟨rfl, rfl, rfl, rfl, rfl⟩ rfl rfl rfl rfl rfl (by kernel_rfl) Try.func3 (by kernel_rfl)
    (of_decide_eq_true (by kernel_rfl)) (by unfold Func.isWrapper; first | (rw [if_pos (by decide +kernel)]; kernel_rfl) | (rw [if_neg (by decide +kernel)]; exact ⟨rfl, rfl⟩))
    (fun os started H enc _ => lifted os started H enc)

end Go.Proofs.Ytmbdacdgbmpedaa.pathJoins
namespace Go.Proofs.Ytmbdacdgbmpedaa
theorem pathJoins_holds : Rows.PathJoinsSaid := pathJoins.over
#print axioms pathJoins_holds
end Go.Proofs.Ytmbdacdgbmpedaa
