/-
  SEAT Ytjhphkfpcpfdnaa: a page of one byte: even.
-/
import Derived.Test.YtjhphkfpcpfdnaaLa
namespace Go.Proofs.Ytjhphkfpcpfdnaa
open Go.RowKit Go.Conc
set_option linter.unusedVariables false

theorem fitL_one (v : Int) (n : Nat) : fitL [v] n = List.replicate n v := by
  induction n with
  | zero => rfl
  | succ n ih => rw [fitL_succ, ih, List.replicate_succ']; simp [Nat.mod_one]
/-- A page that was made: two rows. -/
structure EvV (w w' : World) (S : Nat) (v : Int) (e : Ending) : Prop where
  ex : ∃ g1 c1 g2 c2, e = .returned (.agg #[.slice (some ⟨g1, 0, none⟩) (256 * S) c1, .slice (some ⟨g2, 0, none⟩) (54 + 3 * S) c2]) ∧ Own w' w.heap.size g1 (256 * S) c1 (List.replicate (256 * S) v) ∧ Own w' w.heap.size g2 (54 + 3 * S) c2 (List.replicate (54 + 3 * S) v)
  bel : Below w.heap.size w w'
theorem reads_one {w : World} {g : Nat} {v : Int} (h : w.heap[g]? = some (.cells #[.int .u8 v] 5 (0, 0))) (hv : 0 ≤ v ∧ v ≤ 255) : Reads w (some ⟨g, 0, none⟩) 1 [v] :=
  ⟨rfl, fun x hx => by simp at hx; rw [hx]; exact hv, (fun h => by cases h), fun x hx i hi => by
    cases hx
    have : i = 0 := by omega
    subst this
    exact cells1 h⟩

theorem own_le {w : World} {B B0 n : Nat} {v : Value} {xs : List Value} (h : w.ownsRow B 5 1 v n xs) (hB : B0 ≤ B) : w.ownsRow B0 5 1 v n xs := by
  obtain ⟨h1, h2⟩ := h
  exact ⟨h1, h2.imp (fun h => h) (fun ⟨g, cap, cur, a1, a2, a3⟩ => ⟨g, cap, cur, a1, Nat.le_trans hB a2, a3⟩)⟩
theorem own_keep4 {w w' : World} {B n : Nat} {v : Value} {xs : List Value} (h : w.ownsRow B 5 1 v n xs) (hb : Below w.heap.size w w') : w'.ownsRow B 5 1 v n xs :=
  owns_keep h (fun g hg => by obtain ⟨cs, hc⟩ := own_tag h hg; exact hb.block g (lt_of_block hc))

end Go.Proofs.Ytjhphkfpcpfdnaa
