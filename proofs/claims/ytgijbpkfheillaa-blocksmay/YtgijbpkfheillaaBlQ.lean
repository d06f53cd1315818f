/-
  SEAT Ytgijbpkfheillaa: the reference's book.
-/
import Derived.Test.YtgijbpkfheillaaBlL
import Derived.Test.YtgijbpkfheillaaBlP
import Derived.Deep.AppendLies
namespace Go.Proofs.Ytgijbpkfheillaa
open Go.RowKit
set_option linter.unusedVariables false

theorem info4 : (Try.prog.info? 4).map (fun i => (i.zero, i.size, i.bytes)) = some (some (.bool false), 1, 1) := by kernel_rfl
def boolsV (bs : List Bool) : List Value := bs.map Value.bool
theorem made_bools (n : Nat) : (madeCells #[.bool false] (n * 1)).toList = boolsV (List.replicate n false) := by
  apply List.ext_getElem?
  intro j
  by_cases hj : j < n
  · simp [madeCells, boolsV, hj, Nat.mod_one]
  · rw [List.getElem?_eq_none (by simp [madeCells]; omega), List.getElem?_eq_none (by simp [boolsV]; omega)]
theorem make_left (n : Nat) (hn : n ≤ 5000) (u : World) : (Instr.makeSlice 29 (.int .i64 (n : Int)) (.int .i64 (n : Int))).run Try.prog u = .ok (.slice (some ⟨u.heap.size, 0, none⟩) n n) (u.alloc (.cells (boolsV (List.replicate n false)).toArray 4)) := by
  obtain ⟨i0, hi, hz0, hz1, hz2⟩ := info_parts info4
  have h := run_makeSlice u 29 4 i0 _ Try.underlying29 hi hz0 .i64 .i64 (n : Int) (n : Int) (by omega) (by omega) (by rw [hz1]; omega) (by rw [hz2]; omega) (by omega)
  rw [h, hz1, ← made_bools]
  simp [Value.cells]

/-- The reference's book. -/
structure RefAt (w : World) (B gr gl : Nat) (P : Int) (v : Value) (bs : List Bk) (lf : List Bool) (cur last vic : Int) : Prop where
  box : w.heap[gr]? = some (.cells #[.int .i64 P, v, .slice (some ⟨gl, 0, none⟩) lf.length lf.length, .int .i64 cur, .int .i64 last, .int .i64 vic] 31 (0, 0))
  left : w.heap[gl]? = some (.cells (boolsV lf).toArray 4 (0, 0))
  own : w.ownsRow B 34 4 v bs.length (flatK bs)
  base : B ≤ gr ∧ B ≤ gl
section
variable {w w' : World} {B gr gl : Nat} {P : Int} {v : Value} {bs : List Bk} {lf : List Bool} {cur last vic : Int}
theorem own_type {w : World} {B n g : Nat} {v : Value} {xs : List Value} (h : w.ownsRow B 34 4 v n xs) (hv : v.ownBlock = some g) : ∃ cs, w.heap[g]? = some (.cells cs 34 (0, 0)) := by
  rcases h.2 with ⟨rfl, _⟩ | ⟨g', cap, cur, rfl, _, hg, _⟩
  · simp [Value.ownBlock] at hv
  · simp [Value.ownBlock] at hv
    subst hv
    exact ⟨cur, hg⟩
theorem RefAt.far (h : RefAt w B gr gl P v bs lf cur last vic) : v.ownBlock ≠ some gr ∧ v.ownBlock ≠ some gl := by
  refine ⟨fun e => ?_, fun e => ?_⟩
  · obtain ⟨cs, hc⟩ := own_type h.own e
    rw [h.box] at hc
    simp at hc
  · obtain ⟨cs, hc⟩ := own_type h.own e
    rw [h.left] at hc
    simp at hc
theorem RefAt.ne (h : RefAt w B gr gl P v bs lf cur last vic) : gr ≠ gl := by
  rintro rfl
  have h1 := h.left
  rw [h.box] at h1
  simp at h1
theorem RefAt.lt (h : RefAt w B gr gl P v bs lf cur last vic) : gr < w.heap.size ∧ gl < w.heap.size := ⟨lt_of_block h.box, lt_of_block h.left⟩
theorem RefAt.cells (h : RefAt w B gr gl P v bs lf cur last vic) : w.cell? ⟨gr, 0, none⟩ = some (.int .i64 P) ∧ w.cell? ⟨gr, 1, none⟩ = some v ∧ w.cell? ⟨gr, 2, none⟩ = some (.slice (some ⟨gl, 0, none⟩) lf.length lf.length) ∧ w.cell? ⟨gr, 3, none⟩ = some (.int .i64 cur) ∧ w.cell? ⟨gr, 4, none⟩ = some (.int .i64 last) ∧ w.cell? ⟨gr, 5, none⟩ = some (.int .i64 vic) := by
  have := h.box
  simp [World.cell?, this]
theorem RefAt.free (h : RefAt w B gr gl P v bs lf cur last vic) (j : Nat) : w.frozen? ⟨gr, j, none⟩ = false := by
  have := h.box
  simp [World.frozen?, this]
/-- Nothing but a row that is not hers is written. -/
theorem RefAt.grown {row : Option Nat} (h : RefAt w B gr gl P v bs lf cur last vic) (hg : w.grownBy w' row) (h1 : row ≠ some gr) (h2 : row ≠ some gl) (h3 : row = none ∨ row ≠ v.ownBlock) : RefAt w' B gr gl P v bs lf cur last vic := by
  refine ⟨(hg.block gr h.lt.1 (fun e => h1 e.symm)).trans h.box, (hg.block gl h.lt.2 (fun e => h2 e.symm)).trans h.left, ?_, h.base⟩
  refine ⟨h.own.1, ?_⟩
  rcases h.own.2 with hn | ⟨g, cap, cu, hv, hb, hh, rest⟩
  · exact Or.inl hn
  · refine Or.inr ⟨g, cap, cu, hv, hb, (hg.block g (lt_of_block hh) ?_).trans hh, rest⟩
    rcases h3 with rfl | h3
    · simp
    · rw [hv] at h3
      exact fun e => h3 e.symm
theorem RefAt.below (h : RefAt w B gr gl P v bs lf cur last vic) (hb : Below w.heap.size w w') : RefAt w' B gr gl P v bs lf cur last vic := h.grown (grown_of hb none) (by simp) (by simp) (Or.inl rfl)
theorem RefAt.readsK (h : RefAt w B gr gl P v bs lf cur last vic) (hok : ∀ c ∈ bs, c.Ok) : ∃ a cap, v = .slice a bs.length cap ∧ ReadsK w a bs.length bs := by
  rcases h.own.2 with ⟨hv, hn⟩ | ⟨g, cap, cu, hv, hb, hh, rest⟩
  · exact ⟨none, 0, by rw [hv, hn], rfl, hok, fun _ => hn, fun x hx => by cases hx⟩
  · have h9 := h.own
    rw [hv] at h9
    have h8 := own_readsK h9 hok (Nat.le_refl _)
    rw [List.take_of_length_le (Nat.le_refl _)] at h8
    exact ⟨_, cap, hv, h8⟩
end
end Go.Proofs.Ytgijbpkfheillaa
