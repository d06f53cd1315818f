/-
  SEAT Ytgijbpkfheillaa: arguments, opened.
-/
import Derived.Test.YtgijbpkfheillaaBlC
import Derived.Lib.SmallJoins
import Derived.ProofKit
import Derived.OpenShut
import Derived.ChangeOld
import Derived.SizedLaws
import Derived.Deep.Grids
import Derived.Deep.SlicePairs
namespace Go.Proofs.Ytgijbpkfheillaa
open Go.ChangeShapes Go.WideShapes Go.ChangeAt Go.RowKit Go.Joins
set_option linter.unusedVariables false

theorem own : ownKnob Try.prog.godebug = none := by kernel_rfl
theorem laidOut : laidOutB Try.prog = true := by kernel_rfl
theorem cells23 : Try.prog.cellsOf 23 = 3 := by kernel_rfl
theorem cells4 : Try.prog.cellsOf 4 = 1 := by kernel_rfl
theorem cells34 : Try.prog.cellsOf 34 = 4 := by kernel_rfl
theorem bytes34 : Try.prog.bytesOf 34 = 32 := by kernel_rfl

theorem wf_of {n : Int} (h : (Lit.int .i64 n).wf = true) : Wf n := by
  exact bounds_i64 h

set_option maxRecDepth 100000 in
theorem open_blocks {H : Type} {enc : TypeId × Value → H} {W : World} {base : Nat} {v : Value} {d : DataW H} {p : List MemPlace} (hv : Value.okWide Try.prog W .any base 24 v) (h : DataW.Trod enc Try.prog W 0 (fun _ => true) true 24 v d p) :
    ∃ a len cap cs, v = .slice a len cap ∧ ReadsK W a len cs ∧ (len = 0 ∨ ∃ elems spare, d = .slice elems spare ∧ len ≤ elems.length + spare.length) := by
  obtain ⟨a, len, cap, rfl⟩ := okWide_slice Try.underlying24 hv
  obtain ⟨fuel, hf⟩ := h
  rcases Deep.open_slice Try.underlying24 hf with ⟨hcs, _⟩ | ⟨x, l, c, m, n, D, Pl, hcs, _, hl, hm, hmm, hx, hcell⟩
  · simp [Value.cells] at hcs
    obtain ⟨rfl, rfl, rfl⟩ := hcs
    exact ⟨none, 0, 0, [], rfl, ⟨rfl, (fun _ h => by cases h), fun _ => rfl, fun _ h => by cases h⟩, Or.inl rfl⟩
  · simp [Value.cells] at hcs
    obtain ⟨rfl, rfl, rfl⟩ := hcs
    have hmc : m = cap := by rw [hmm]; simp
    have each : ∀ i, i < len → ∃ q : Bk, q.Ok ∧ ∀ j, j < 4 → W.cell? (x.add (i * 4 + j)) = some (q.cell j) := by
      intro i hi
      obtain ⟨cs', h1, h2⟩ := hcell i (by omega)
      rw [cells34] at h1
      obtain ⟨_, hlen, hc⟩ := World.cells?_some h1
      obtain ⟨y0, y1, y2, y3, k, _, hcl, g0, g1, g2, g3⟩ := trod_struct4 Try.underlying34 h2
      match cs', hlen with
      | [v0, v1, v2, v3], _ =>
        obtain ⟨z0, e0, _, wf0⟩ := DataW.trod_int Try.underlying3 g0
        obtain ⟨z1, e1, _, wf1⟩ := DataW.trod_int Try.underlying32 g1
        obtain ⟨z2, e2, _⟩ := DataW.trod_bool Try.underlying4 g2
        obtain ⟨z3, e3, _, wf3⟩ := DataW.trod_int Try.underlying3 g3
        have c1 : Try.prog.cellsOf 3 = 1 := by kernel_rfl
        have c2 : Try.prog.cellsOf 32 = 1 := by kernel_rfl
        simp [c1, c2, cells4] at e0 e1 e2 e3
        subst e0 e1 e2 e3
        refine ⟨⟨z0, z1, z2, z3⟩, ⟨wf_of wf0, bounds_u64 wf1, wf_of wf3⟩, fun j hj => ?_⟩
        have := hc j hj
        rw [Deep.add_add] at this
        match j, hj with
        | 0, _ => simpa [Bk.cell] using this
        | 1, _ => simpa [Bk.cell] using this
        | 2, _ => simpa [Bk.cell] using this
        | 3, _ => simpa [Bk.cell] using this
    have : Inhabited Bk := ⟨Bk.zero⟩
    obtain ⟨q, hq⟩ := Deep.choose_lt each
    refine ⟨some x, len, cap, (List.range len).map q, rfl, ⟨by simp, ?_, (fun h => by cases h), fun y hy i hi j hj => ?_⟩, Or.inr ?_⟩
    · intro c hc
      obtain ⟨i, hi, rfl⟩ := List.mem_map.1 hc
      exact (hq i (by simpa using hi)).1
    · cases hy
      rw [(hq i hi).2 j hj]
      simp [List.getD_eq_getElem?_getD, hi]
    · have hd := (Prod.mk.inj hx).1
      refine ⟨_, _, hd, ?_⟩
      simp
end Go.Proofs.Ytgijbpkfheillaa
