/-
  SEAT Ytgijbpkfheillaa: the reference's book, entry by entry.
-/
import Derived.Test.YtgijbpkfheillaaFiH
namespace Go.Proofs.Ytgijbpkfheillaa
open Go.RowKit
set_option linter.unusedVariables false

/-- The reference's book, as it goes with the program's. -/
structure RefB (w : World) (gr gl g c : Nat) (P : Int) (es : List Ent) (cur last vic : Int) : Prop where
  box : w.heap[gr]? = some (.cells #[.int .i64 P, .slice (some ⟨g, 0, none⟩) es.length c, .slice (some ⟨gl, 0, none⟩) es.length es.length, .int .i64 cur, .int .i64 last, .int .i64 vic] 31 (0, 0))
  left : w.heap[gl]? = some (.cells (boolsV (es.map Ent.left)).toArray 4 (0, 0))
  row : ∃ tl : List Value, w.heap[g]? = some (.cells (flatK (es.map Ent.bk) ++ tl).toArray 34 (0, 0))
  cl : es.length ≤ c ∧ c ≤ maxLen
theorem bkD' (es : List Ent) (i : Nat) (hi : i < es.length) : (es.map Ent.bk).getD i Bk.zero = (es.getD i Ent.zero).bk := by
  rw [List.getD_eq_getElem?_getD, List.getElem?_map, List.getD_eq_getElem?_getD, List.getElem?_eq_getElem hi]
  rfl
theorem RefAt.refB {w : World} {B gr gl : Nat} {P : Int} {v : Value} {es : List Ent} {cur last vic : Int} (h : RefAt w B gr gl P v (es.map Ent.bk) (es.map Ent.left) cur last vic) (hn : 0 < es.length) : ∃ g c, RefB w gr gl g c P es cur last vic ∧ B ≤ g := by
  rcases h.own.2 with ⟨_, h0⟩ | ⟨g, c, cu, hv, hb, hg, hnc, hcm, hs, ht⟩
  · rw [List.length_map] at h0; omega
  · refine ⟨g, c, ⟨?_, h.left, ⟨cu.toList.drop ((es.map Ent.bk).length * 4), ?_⟩, by simpa using hnc, hcm⟩, hb⟩
    · have h9 := h.box
      rw [hv] at h9
      simpa using h9
    · rw [hg, ← ht, List.take_append_drop]
section
variable {w w' : World} {gr gl g c : Nat} {P : Int} {es : List Ent} {cur last vic : Int}
theorem RefB.cells (h : RefB w gr gl g c P es cur last vic) : w.cell? ⟨gr, 0, none⟩ = some (.int .i64 P) ∧ w.cell? ⟨gr, 1, none⟩ = some (.slice (some ⟨g, 0, none⟩) es.length c) ∧ w.cell? ⟨gr, 2, none⟩ = some (.slice (some ⟨gl, 0, none⟩) es.length es.length) ∧ w.cell? ⟨gr, 3, none⟩ = some (.int .i64 cur) ∧ w.cell? ⟨gr, 4, none⟩ = some (.int .i64 last) ∧ w.cell? ⟨gr, 5, none⟩ = some (.int .i64 vic) := by
  have := h.box
  simp [World.cell?, this]
theorem RefB.free (h : RefB w gr gl g c P es cur last vic) (j : Nat) : w.frozen? ⟨gr, j, none⟩ = false ∧ w.frozen? ⟨gl, j, none⟩ = false ∧ w.frozen? ⟨g, j, none⟩ = false := by
  obtain ⟨tl, h3⟩ := h.row
  have h1 := h.box
  have h2 := h.left
  simp [World.frozen?, h1, h2, h3]
theorem RefB.lt (h : RefB w gr gl g c P es cur last vic) : gr < w.heap.size ∧ gl < w.heap.size ∧ g < w.heap.size := by
  obtain ⟨tl, h3⟩ := h.row
  exact ⟨lt_of_block h.box, lt_of_block h.left, lt_of_block h3⟩
theorem RefB.ne (h : RefB w gr gl g c P es cur last vic) : gr ≠ gl ∧ gr ≠ g ∧ gl ≠ g := by
  obtain ⟨tl, h3⟩ := h.row
  have h1 := h.box
  have h2 := h.left
  refine ⟨?_, ?_, ?_⟩
  · rintro rfl; rw [h1] at h2; simp at h2
  · rintro rfl; rw [h1] at h3; simp at h3
  · rintro rfl; rw [h2] at h3; simp at h3
theorem RefB.leftC (h : RefB w gr gl g c P es cur last vic) (i : Nat) (hi : i < es.length) : w.cell? ⟨gl, i, none⟩ = some (.bool (es.getD i Ent.zero).left) := by
  have h1 := h.left
  simp [World.cell?, h1, boolsV, hi, List.getD_eq_getElem?_getD]
theorem RefB.entry (h : RefB w gr gl g c P es cur last vic) (i : Nat) (hi : i < es.length) : w.cell? ⟨g, i * 4, none⟩ = some (.int .i64 (es.getD i Ent.zero).s) ∧ w.cell? ⟨g, i * 4 + 1, none⟩ = some (.int .u64 (es.getD i Ent.zero).h) ∧ w.cell? ⟨g, i * 4 + 2, none⟩ = some (.bool (es.getD i Ent.zero).r) ∧ w.cell? ⟨g, i * 4 + 3, none⟩ = some (.int .i64 (es.getD i Ent.zero).l) := by
  obtain ⟨tl, h3⟩ := h.row
  have key : ∀ j, j < 4 → w.cell? ⟨g, i * 4 + j, none⟩ = some ((es.getD i Ent.zero).bk.cell j) := fun j hj => by
    have h4 := flatK_cell (es.map Ent.bk) i j (by simpa using hi) hj
    rw [bkD' es i hi] at h4
    simp only [World.cell?, h3, List.getElem?_toArray]
    rw [List.getElem?_append_left (by rw [flatK_length]; simp; omega)]
    exact h4
  exact ⟨key 0 (by omega), key 1 (by omega), key 2 (by omega), key 3 (by omega)⟩
theorem RefB.below (h : RefB w gr gl g c P es cur last vic) (hb : Below w.heap.size w w') : RefB w' gr gl g c P es cur last vic := by
  obtain ⟨tl, h3⟩ := h.row
  exact ⟨(hb.block gr h.lt.1).trans h.box, (hb.block gl h.lt.2.1).trans h.left, ⟨tl, (hb.block g h.lt.2.2).trans h3⟩, h.cl⟩
theorem RefB.drewN (h : RefB w gr gl g c P es cur last vic) (k : Nat) : RefB (w.drewN k) gr gl g c P es cur last vic := ⟨h.box, h.left, h.row, h.cl⟩
theorem RefB.setCur (h : RefB w gr gl g c P es cur last vic) (x : Int) : RefB (w.setCell ⟨gr, 3, none⟩ (.int .i64 x)) gr gl g c P es x last vic := by
  obtain ⟨n1, n2, n3⟩ := h.ne
  obtain ⟨tl, h3⟩ := h.row
  refine ⟨heap_setCell_same w gr 3 _ 31 _ h.box, ?_, ⟨tl, ?_⟩, h.cl⟩
  · rw [heap_setCell_other _ _ _ _ (fun e => n1 e.symm)]; exact h.left
  · rw [heap_setCell_other _ _ _ _ (fun e => n2 e.symm)]; exact h3
theorem RefB.setLast (h : RefB w gr gl g c P es cur last vic) (x : Int) : RefB (w.setCell ⟨gr, 4, none⟩ (.int .i64 x)) gr gl g c P es cur x vic := by
  obtain ⟨n1, n2, n3⟩ := h.ne
  obtain ⟨tl, h3⟩ := h.row
  refine ⟨heap_setCell_same w gr 4 _ 31 _ h.box, ?_, ⟨tl, ?_⟩, h.cl⟩
  · rw [heap_setCell_other _ _ _ _ (fun e => n1 e.symm)]; exact h.left
  · rw [heap_setCell_other _ _ _ _ (fun e => n2 e.symm)]; exact h3
theorem RefB.setVic (h : RefB w gr gl g c P es cur last vic) (x : Int) : RefB (w.setCell ⟨gr, 5, none⟩ (.int .i64 x)) gr gl g c P es cur last x := by
  obtain ⟨n1, n2, n3⟩ := h.ne
  obtain ⟨tl, h3⟩ := h.row
  refine ⟨heap_setCell_same w gr 5 _ 31 _ h.box, ?_, ⟨tl, ?_⟩, h.cl⟩
  · rw [heap_setCell_other _ _ _ _ (fun e => n1 e.symm)]; exact h.left
  · rw [heap_setCell_other _ _ _ _ (fun e => n2 e.symm)]; exact h3
theorem map_set_same {f : Ent → Bool} (es : List Ent) (i : Nat) (hi : i < es.length) (x : Ent) (h : f x = f (es.getD i Ent.zero)) : (es.set i x).map f = es.map f := by
  rw [List.map_set, h]
  apply List.ext_getElem?
  intro j
  by_cases e : i = j
  · subst e
    rw [List.getElem?_set_self (by simpa using hi), List.getElem?_map, List.getD_eq_getElem?_getD, List.getElem?_eq_getElem hi]
    rfl
  · rw [List.getElem?_set_ne e]
theorem map_set_bk (es : List Ent) (i : Nat) (hi : i < es.length) (x : Ent) (h : x.bk = (es.getD i Ent.zero).bk) : (es.set i x).map Ent.bk = es.map Ent.bk := by
  rw [List.map_set, h]
  apply List.ext_getElem?
  intro j
  by_cases e : i = j
  · subst e
    rw [List.getElem?_set_self (by simpa using hi), List.getElem?_map, List.getD_eq_getElem?_getD, List.getElem?_eq_getElem hi]
    rfl
  · rw [List.getElem?_set_ne e]
/-- One cell of a block is written. -/
theorem RefB.set1 (h : RefB w gr gl g c P es cur last vic) (i j : Nat) (hi : i < es.length) (hj : j < 4) (v : Value) (x : Ent) (hl : x.left = (es.getD i Ent.zero).left) (hx : (flatK (es.map Ent.bk)).set (i * 4 + j) v = flatK ((es.set i x).map Ent.bk)) : RefB (w.setCell ⟨g, i * 4 + j, none⟩ v) gr gl g c P (es.set i x) cur last vic := by
  obtain ⟨n1, n2, n3⟩ := h.ne
  obtain ⟨tl, h3⟩ := h.row
  refine ⟨?_, ?_, ⟨tl, ?_⟩, by rw [List.length_set]; exact h.cl⟩
  · rw [heap_setCell_other _ _ _ _ (fun e => n2 e), List.length_set]; exact h.box
  · rw [heap_setCell_other _ _ _ _ (fun e => n3 e), map_set_same es i hi x hl]; exact h.left
  · rw [heap_setCell_same w g (i * 4 + j) _ 34 v h3, ← hx, ← List.set_append_left _ _ (by rw [flatK_length]; simp; omega)]
    simp
theorem RefB.setLeft (h : RefB w gr gl g c P es cur last vic) (i : Nat) (hi : i < es.length) (b : Bool) : RefB (w.setCell ⟨gl, i, none⟩ (.bool b)) gr gl g c P (es.set i { es.getD i Ent.zero with left := b }) cur last vic := by
  obtain ⟨n1, n2, n3⟩ := h.ne
  obtain ⟨tl, h3⟩ := h.row
  refine ⟨?_, ?_, ⟨tl, ?_⟩, by rw [List.length_set]; exact h.cl⟩
  · rw [heap_setCell_other _ _ _ _ (fun e => n1 e), List.length_set]; exact h.box
  · rw [heap_setCell_same w gl i _ 4 _ h.left]
    simp [boolsV, List.map_set]
  · have e9 := map_set_bk es i hi { es.getD i Ent.zero with left := b } rfl
    rw [heap_setCell_other _ _ _ _ (fun e => n3 e.symm), e9]; exact h3
end
end Go.Proofs.Ytgijbpkfheillaa
