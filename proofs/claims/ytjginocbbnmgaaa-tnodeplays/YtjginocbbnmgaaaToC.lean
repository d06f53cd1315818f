/-
  SEAT Ytjginocbbnmgaaa: rows of ints; filled.
-/
import Derived.Test.YtjginocbbnmgaaaToB
import Derived.Lib.SmallJoins
import Derived.ProofKit
import Derived.OpenShut
import Derived.ChangeOld
import Derived.SizedLaws
import Derived.Deep.Grids
import Derived.Deep.SlicePairs
namespace Go.Proofs.Ytjginocbbnmgaaa
open Go.ChangeShapes Go.WideShapes Go.ChangeAt Go.RowKit Go.Joins
set_option linter.unusedVariables false

theorem own : ownKnob Try.prog.godebug = none := by kernel_rfl
theorem laidOut : laidOutB Try.prog = true := by kernel_rfl
theorem cells3 : Try.prog.cellsOf 3 = 1 := by kernel_rfl
theorem bytes3 : Try.prog.bytesOf 3 = 8 := by kernel_rfl
abbrev Wf (n : Int) : Prop := -9223372036854775808 ≤ n ∧ n < 9223372036854775808
theorem wf_of {n : Int} (h : (Lit.int .i64 n).wf = true) : Wf n := by
  have := bounds_i64 h
  exact ⟨by omega, by omega⟩
theorem plain_add (b off j : Nat) : (⟨b, off, none⟩ : Addr).add j = ⟨b, off + j, none⟩ := by unfold Addr.add; split <;> simp_all
/-- A slice of ints. -/
def ReadsI (w : World) (a : Option Addr) (len : Nat) (ks : List Int) : Prop :=
  ks.length = len ∧ (a = none → len = 0) ∧ (∀ k ∈ ks, Wf k) ∧ ∀ x, a = some x → ∀ i, i < len → w.cell? (x.add i) = some (.int .i64 (ks.getD i 0))
theorem ReadsI.wf {w : World} {a : Option Addr} {len : Nat} {ks : List Int} (h : ReadsI w a len ks) (i : Nat) : Wf (ks.getD i 0) := by
  rcases Nat.lt_or_ge i ks.length with q | q
  · rw [List.getD_eq_getElem?_getD, List.getElem?_eq_getElem q]
    exact h.2.2.1 _ (List.getElem_mem q)
  · rw [List.getD_eq_getElem?_getD, List.getElem?_eq_none q]
    exact ⟨by decide, by decide⟩
theorem ReadsI.pos {w : World} {a : Option Addr} {len : Nat} {ks : List Int} (h : ReadsI w a len ks) (hp : 0 < len) :
    ∃ b off, a = some ⟨b, off, none⟩ ∧ b < w.heap.size ∧ ∀ i, i < len → w.cell? ⟨b, off + i, none⟩ = some (.int .i64 (ks.getD i 0)) := by
  obtain ⟨hl, hn, _, hc⟩ := h
  cases a with
  | none => have := hn rfl; omega
  | some x =>
    have h0 := hc x rfl 0 hp
    obtain ⟨b, off, sp⟩ := x
    cases sp with
    | some s =>
      have hadd : (⟨b, off, some s⟩ : Addr).add 0 = ⟨b, off, some s⟩ := by unfold Addr.add; simp
      rw [hadd] at h0
      simp [World.cell?] at h0
      split at h0 <;> cases h0
    | none =>
      refine ⟨b, off, rfl, ?_, fun i hi => by have h1 := hc _ rfl i hi; rw [plain_add] at h1; exact h1⟩
      rw [plain_add] at h0
      unfold World.cell? at h0
      rcases Nat.lt_or_ge b w.heap.size with q | q
      · exact q
      · simp [Array.getElem?_eq_none q] at h0
set_option maxRecDepth 100000 in
theorem open_ints {H : Type} {enc : TypeId × Value → H} {W : World} {base : Nat} {v : Value} {d : DataW H} {p : List MemPlace} (hv : Value.okWide Try.prog W .any base 22 v) (h : DataW.Trod enc Try.prog W 0 (fun _ => true) true 22 v d p) :
    ∃ a len cap ks, v = .slice a len cap ∧ ReadsI W a len ks ∧ (len = 0 ∨ ∃ elems spare, d = .slice elems spare ∧ len ≤ elems.length + spare.length) := by
  obtain ⟨a, len, cap, rfl⟩ := okWide_slice Try.underlying22 hv
  obtain ⟨fuel, hf⟩ := h
  rcases Deep.open_slice Try.underlying22 hf with ⟨hcs, _⟩ | ⟨x, l, c, m, n, D, Pl, hcs, _, hl, hm, hmm, hx, hcell⟩
  · simp [Value.cells] at hcs
    obtain ⟨rfl, rfl, rfl⟩ := hcs
    exact ⟨none, 0, 0, [], rfl, ⟨rfl, fun _ => rfl, (fun _ h => by cases h), fun _ h => by cases h⟩, Or.inl rfl⟩
  · simp [Value.cells] at hcs
    obtain ⟨rfl, rfl, rfl⟩ := hcs
    have hmc : m = cap := by rw [hmm]; simp
    have each : ∀ i, i < len → ∃ z : Int, Wf z ∧ W.cell? (x.add i) = some (.int .i64 z) := by
      intro i hi
      obtain ⟨cs', h1, h2⟩ := hcell i (by omega)
      rw [cells3] at h1
      obtain ⟨_, hlen, hc⟩ := World.cells?_some h1
      match cs', hlen with
      | [v0], _ =>
        obtain ⟨z0, e0, _, wf0⟩ := DataW.trod_int Try.underlying3 h2
        have h9 := hc 0 (by omega)
        simp at e0
        subst e0
        refine ⟨z0, wf_of wf0, ?_⟩
        rw [Deep.add_add] at h9
        simpa using h9
    have hch : ∃ ks : Nat → Int, ∀ i, i < len → Wf (ks i) ∧ W.cell? (x.add i) = some (.int .i64 (ks i)) := ⟨fun i => if hi : i < len then Classical.choose (each i hi) else 0, fun i hi => by
      simp only [dif_pos hi]
      exact Classical.choose_spec (each i hi)⟩
    obtain ⟨ks, hks⟩ := hch
    refine ⟨some x, len, cap, (List.range len).map ks, rfl, ⟨by simp, (fun h => by cases h), ?_, fun y hy i hi => ?_⟩, Or.inr ?_⟩
    · intro k hk
      obtain ⟨i, hi, rfl⟩ := List.mem_map.1 hk
      exact (hks i (List.mem_range.1 hi)).1
    · cases hy
      rw [(hks i hi).2]
      simp [List.getD_eq_getElem?_getD, hi]
    · have hd := (Prod.mk.inj hx).1
      refine ⟨_, _, hd, ?_⟩
      simp
end Go.Proofs.Ytjginocbbnmgaaa
