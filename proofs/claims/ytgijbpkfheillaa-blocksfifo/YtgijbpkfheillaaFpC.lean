/-
  SEAT Ytgijbpkfheillaa: pieces for BlocksFifo.
-/
import Derived.Test.YtgijbpkfheillaaFiH
namespace Go.Proofs.Ytgijbpkfheillaa
open Go.RowKit
set_option linter.unusedVariables false

theorem fifo_live (es : List Ent) (v : Nat) (last : Int) : settleE (es.set v { es.getD v Ent.zero with l := (es.getD v Ent.zero).l + -(es.getD v Ent.zero).l }) last (v : Int) v = es.set v { es.getD v Ent.zero with l := 0 } := by
  unfold settleE
  rw [if_neg (fun h => h.2.2 rfl), show (es.getD v Ent.zero).l + -(es.getD v Ent.zero).l = 0 by omega]
theorem fifo_leave (es : List Ent) (v : Nat) (hv : v < es.length) : (es.set v { es.getD v Ent.zero with l := 0 }).set v (leaveE ((es.set v { es.getD v Ent.zero with l := 0 }).getD v Ent.zero)) = es.set v (gone0 (es.getD v Ent.zero)) := by
  rw [getD_set_same _ _ _ hv, List.set_set]
  rfl
theorem bkD (es : List Ent) (i : Nat) (hi : i < es.length) : (es.map Ent.bk).getD i Bk.zero = (es.getD i Ent.zero).bk := by
  rw [List.getD_eq_getElem?_getD, List.getElem?_map, List.getD_eq_getElem?_getD, List.getElem?_eq_getElem hi]
  rfl
/-- The cells of one block of a new row. -/
theorem RowAt.four {w : World} {g : Nat} {es : List Ent} (h : RowAt w g (es.map Ent.bk)) (i : Nat) (hi : i < es.length) {s hd : Int} {r : Bool} {l : Int} {lf : Bool} (hx : es.getD i Ent.zero = ⟨s, hd, r, l, lf⟩) :
    w.cell? ⟨g, i * 4, none⟩ = some (.int .i64 s) ∧ w.cell? ⟨g, i * 4 + 1, none⟩ = some (.int .u64 hd) ∧ w.cell? ⟨g, i * 4 + 2, none⟩ = some (.bool r) ∧ w.cell? ⟨g, i * 4 + 3, none⟩ = some (.int .i64 l) := by
  have e := bkD es i hi
  rw [hx] at e
  have h0 := h.cell i 0 (by simpa using hi) (by omega)
  have h1 := h.cell i 1 (by simpa using hi) (by omega)
  have h2 := h.cell i 2 (by simpa using hi) (by omega)
  have h3 := h.cell i 3 (by simpa using hi) (by omega)
  rw [e] at h0 h1 h2 h3
  exact ⟨h0, h1, h2, h3⟩
/-- What is so of the block that is cleaned next. -/
theorem next_facts {P : Int} {bs : List Bk} {es : List Ent} {k v : Nat} {before hd : Int} (hm : MayF P bs) (h : FifoI P bs es k before) (ho : oldE es = some (v, hd)) :
    v < bs.length ∧ es.getD v Ent.zero = (bs.getD v Bk.zero).ent ∧ ((bs.getD v Bk.zero).s = 1 ∨ (bs.getD v Bk.zero).s = 4) ∧ before < (bs.getD v Bk.zero).h ∧ (bs.getD v Bk.zero).h < hd ∧ 1 ≤ (bs.getD v Bk.zero).h ∧ (bs.getD v Bk.zero).h ≤ 281474976710655 ∧ 0 ≤ (bs.getD v Bk.zero).l ∧ (bs.getD v Bk.zero).l ≤ P - 1 := by
  obtain ⟨h1, h2, h3, _, _⟩ := old_facts ho
  have hvb : v < bs.length := by have := h.len; omega
  have hs := h.same hvb (cand_of.1 h2).1
  have h4 := h.above v hvb h2
  have h5 := log_states (cand_of.1 h2).1
  have h6 := (cand_of.1 h2).2
  rw [hs] at h3 h4 h5 h6
  simp only [Bk.ent] at h3 h4 h5 h6
  have h7 := row_log (hm.row v hvb) (by omega)
  exact ⟨hvb, hs, by omega, h4, h3, h7.1, h7.2.1, h7.2.2.1, h7.2.2.2⟩
end Go.Proofs.Ytgijbpkfheillaa
