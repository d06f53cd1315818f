/-
  SEAT Ytejonebnmeinhab: arguments, opened.
-/
import Derived.Test.YtejonebnmeinhabFnG
import Derived.ProofKit
import Derived.OpenShut
import Derived.ChangeOld
import Derived.SizedLaws
import Derived.Deep.Grids
import Derived.Deep.SlicePairs
namespace Go.Proofs.Ytejonebnmeinhab
open Go.ChangeShapes Go.WideShapes Go.ChangeAt Go.RowKit Go.Joins
set_option linter.unusedVariables false

theorem own : ownKnob Try.prog.godebug = none := by kernel_rfl
theorem laidOut : laidOutB Try.prog = true := by kernel_rfl
theorem cells23 : Try.prog.cellsOf 23 = 3 := by kernel_rfl
theorem cells4 : Try.prog.cellsOf 4 = 1 := by kernel_rfl
theorem cells73 : Try.prog.cellsOf 73 = 4 := by kernel_rfl
theorem bytes4 : Try.prog.bytesOf 4 = 1 := by kernel_rfl
theorem bytes73 : Try.prog.bytesOf 73 = 32 := by kernel_rfl

theorem wf_of {n : Int} (h : (Lit.int .i64 n).wf = true) : Wf n := by
  exact bounds_i64 h

set_option maxRecDepth 100000 in
theorem open_marks {H : Type} {enc : TypeId × Value → H} {W : World} {base : Nat} {v : Value} {d : DataW H} {p : List MemPlace} (hv : Value.okWide Try.prog W .any base 25 v) (h : DataW.Trod enc Try.prog W 0 (fun _ => true) true 25 v d p) :
    ∃ a len cap bs, v = .slice a len cap ∧ ReadsB W a len bs ∧ (len = 0 ∨ ∃ elems spare, d = .slice elems spare ∧ len ≤ elems.length + spare.length) := by
  obtain ⟨a, len, cap, rfl⟩ := okWide_slice Try.underlying25 hv
  obtain ⟨fuel, hf⟩ := h
  rcases Deep.open_bools Try.underlying25 Try.underlying4 cells4 hf with ⟨hcs, _⟩ | ⟨x, l, c, B, hcs, _, hl, hm, hx, hcell⟩
  · simp [Value.cells] at hcs
    obtain ⟨rfl, rfl, rfl⟩ := hcs
    exact ⟨none, 0, 0, [], rfl, ⟨rfl, fun _ => rfl, fun _ h => by cases h⟩, Or.inl rfl⟩
  · simp [Value.cells] at hcs
    obtain ⟨rfl, rfl, rfl⟩ := hcs
    refine ⟨some x, len, cap, (List.range len).map B, rfl, ⟨by simp, (fun h => by cases h), fun y hy i hi => ?_⟩, Or.inr ?_⟩
    · cases hy
      rw [hcell i (by omega)]
      simp [List.getD_eq_getElem?_getD, hi]
    · have hd := (Prod.mk.inj hx).1
      refine ⟨_, _, hd, ?_⟩
      simp

set_option maxRecDepth 100000 in
theorem open_cmds {H : Type} {enc : TypeId × Value → H} {W : World} {base : Nat} {v : Value} {d : DataW H} {p : List MemPlace} (hv : Value.okWide Try.prog W .any base 62 v) (h : DataW.Trod enc Try.prog W 0 (fun _ => true) true 62 v d p) :
    ∃ a len cap cs, v = .slice a len cap ∧ ReadsC W a len cs ∧ (len = 0 ∨ ∃ elems spare, d = .slice elems spare ∧ len ≤ elems.length + spare.length) := by
  obtain ⟨a, len, cap, rfl⟩ := okWide_slice Try.underlying62 hv
  obtain ⟨fuel, hf⟩ := h
  rcases Deep.open_slice Try.underlying62 hf with ⟨hcs, _⟩ | ⟨x, l, c, m, n, D, Pl, hcs, _, hl, hm, hmm, hx, hcell⟩
  · simp [Value.cells] at hcs
    obtain ⟨rfl, rfl, rfl⟩ := hcs
    exact ⟨none, 0, 0, [], rfl, ⟨rfl, (fun _ h => by cases h), fun _ => rfl, fun _ h => by cases h⟩, Or.inl rfl⟩
  · simp [Value.cells] at hcs
    obtain ⟨rfl, rfl, rfl⟩ := hcs
    have hmc : m = cap := by rw [hmm]; simp
    have each : ∀ i, i < len → ∃ q : Cmd, q.Ok ∧ ∀ j, j < 4 → W.cell? (x.add (i * 4 + j)) = some (q.cell j) := by
      intro i hi
      obtain ⟨cs', h1, h2⟩ := hcell i (by omega)
      rw [cells73] at h1
      obtain ⟨_, hlen, hc⟩ := World.cells?_some h1
      obtain ⟨y0, y1, y2, y3, k, _, hcl, g0, g1, g2, g3⟩ := trod_struct4 Try.underlying73 h2
      match cs', hlen with
      | [v0, v1, v2, v3], _ =>
        obtain ⟨z0, e0, _, wf0⟩ := DataW.trod_int Try.underlying3 g0
        obtain ⟨z1, e1, _, wf1⟩ := DataW.trod_int Try.underlying3 g1
        obtain ⟨z2, e2, _, wf2⟩ := DataW.trod_int Try.underlying3 g2
        obtain ⟨z3, e3, _, wf3⟩ := DataW.trod_int Try.underlying33 g3
        have c1 : Try.prog.cellsOf 3 = 1 := by kernel_rfl
        have c2 : Try.prog.cellsOf 33 = 1 := by kernel_rfl
        simp [c1, c2] at e0 e1 e2 e3
        subst e0 e1 e2 e3
        refine ⟨⟨z0, z1, z2, z3⟩, ⟨wf_of wf0, wf_of wf1, wf_of wf2, wf_of wf3⟩, fun j hj => ?_⟩
        have := hc j hj
        rw [Deep.add_add] at this
        match j, hj with
        | 0, _ => simpa [Cmd.cell] using this
        | 1, _ => simpa [Cmd.cell] using this
        | 2, _ => simpa [Cmd.cell] using this
        | 3, _ => simpa [Cmd.cell] using this
    have : Inhabited Cmd := ⟨Cmd.none⟩
    obtain ⟨q, hq⟩ := Deep.choose_lt each
    refine ⟨some x, len, cap, (List.range len).map q, rfl, ⟨by simp, ?_, (fun h => by cases h), fun y hy i hi j hj => ?_⟩, Or.inr ?_⟩
    · intro c hc
      obtain ⟨i, hi, rfl⟩ := List.mem_map.1 hc
      exact (hq i (by simpa using hi)).1
    · cases hy
      rw [(hq i hi).2 j hj]
      simp [List.getD_eq_getElem?_getD, hi]
    · have hd := (Prod.mk.inj hx).1
      refine ⟨_, _, hd, ?_⟩
      simp
end Go.Proofs.Ytejonebnmeinhab
