/-
  SEAT YteefekhlbillfaaDoor: lent.
-/
import Derived.Test.YteefekhlbillfaaDoorD
namespace Go.Proofs.YteefekhlbillfaaDoor
open Go.RowKit
set_option linter.unusedVariables false

theorem Own.base {w : World} {B B' g n cap : Nat} {xs : List Int} (h : Own w B g n cap xs) (hb : B' ≤ B) : Own w B' g n cap xs := by
  obtain ⟨h1, h2⟩ := h
  refine ⟨h1, ?_⟩
  rcases h2 with h2 | ⟨g', cap', cur, hv, hg, r⟩
  · exact Or.inl h2
  · exact Or.inr ⟨g', cap', cur, hv, Nat.le_trans hb hg, r⟩
theorem OwnB.base {w : World} {B B' g n cap : Nat} {xs : List Bool} (h : OwnB w B g n cap xs) (hb : B' ≤ B) : OwnB w B' g n cap xs := by
  obtain ⟨h1, h2⟩ := h
  refine ⟨h1, ?_⟩
  rcases h2 with h2 | ⟨g', cap', cur, hv, hg, r⟩
  · exact Or.inl h2
  · exact Or.inr ⟨g', cap', cur, hv, Nat.le_trans hb hg, r⟩
theorem OwnB.lt {w : World} {B g n cap : Nat} {xs : List Bool} (h : OwnB w B g n cap xs) : B ≤ g ∧ g < w.heap.size :=
  World.ownsRow.lt h g rfl

theorem OwnB.apart {w w' : World} {B g n cap g' : Nat} {xs : List Bool} (h : OwnB w B g n cap xs) (hg : w.grownBy w' (some g')) (hne : g ≠ g') : OwnB w' B g n cap xs :=
  World.ownsRow.kept h hg (Or.inr (by simp [Value.ownBlock]; exact hne))
theorem set_grown (w : World) (g j : Nat) (v : Value) : w.grownBy (w.setCell ⟨g, j, none⟩ v) (some g) := ⟨rfl, rfl, rfl, by simp, fun k hk hne => heap_setCell_other w ⟨g, j, none⟩ k v (fun e => hne (congrArg some e))⟩

/-- What stands behind lent. -/
structure Lent (w w' : World) (b p s : Int) (n m : Nat) (zs : List Int) (bs : List Bool) (e : Ending) : Prop where
  out : ∃ g c g' c', e = .returned (.tuple #[.agg #[.int .i64 b, .int .i64 p, .int .i64 s, .slice (some ⟨g, 0, none⟩) n c, .slice (some ⟨g', 0, none⟩) m c'], .slice (some ⟨g, 0, none⟩) (n + 70) c, .slice (some ⟨g', 0, none⟩) (m + 9) c']) ∧
    Own w' w.heap.size g (n + 70) c (room zs 70) ∧ OwnB w' w.heap.size g' (m + 9) c' (roomB bs 9)
  below : Below w.heap.size w w'

theorem box55 {w u : World} {b p s : Int} {vc vm : Value} (h : ((w.alloc (.cells #[.int .i64 b, .int .i64 p, .int .i64 s, vc, vm] 30)).alloc (.cells #[.int .i64 0, .int .i64 0, .int .i64 0, .slice none 0 0, .slice none 0 0] 30)).grownBy u none) :
    (u.cell? ⟨w.heap.size, 0, none⟩ = some (.int .i64 b) ∧ u.cell? ⟨w.heap.size, 1, none⟩ = some (.int .i64 p) ∧ u.cell? ⟨w.heap.size, 2, none⟩ = some (.int .i64 s) ∧ u.cell? ⟨w.heap.size, 3, none⟩ = some vc ∧ u.cell? ⟨w.heap.size, 4, none⟩ = some vm) ∧
    u.heap[w.heap.size + 1]? = some (.cells #[.int .i64 0, .int .i64 0, .int .i64 0, .slice none 0 0, .slice none 0 0] 30) := by
  refine ⟨⟨?_, ?_, ?_, ?_, ?_⟩, ?_⟩
  iterate 5 exact h.cell (by simp [World.cell?_alloc_lt]) (by simp)
  have := h.block (w.heap.size + 1) (by simp) (by simp)
  rw [this]
  have e : (w.alloc (.cells #[.int .i64 b, .int .i64 p, .int .i64 s, vc, vm] 30)).heap.size = w.heap.size + 1 := by simp
  rw [← e]
  exact heap_alloc_new _ _

end Go.Proofs.YteefekhlbillfaaDoor
