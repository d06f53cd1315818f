/-
  SEAT Ytjginocbbnmgaaa: growFor.
-/
import Derived.Test.YtjginocbbnmgaaaTnG
namespace Go.Proofs.Ytjginocbbnmgaaa
open Go.RowKit
set_option linter.unusedVariables false
variable {bx : Nat}

theorem grown_setC (w : World) (g j : Nat) (v : Value) : w.grownBy (w.setCell ⟨g, j, none⟩ v) (some g) := ⟨rfl, rfl, rfl, by simp, fun k hk hne => heap_setCell_other w ⟨g, j, none⟩ k v (fun e => hne (congrArg some e))⟩
theorem grown_mono {w w' : World} (h : Below w.heap.size w w') (r : Option Nat) : w.grownBy w' r := ⟨h.os, h.tape, h.output, h.size, fun k hk _ => h.block k hk⟩
/-- What is shown beside a block does not hang on it. -/
theorem shows_grown {w w' : World} {g : Nat} (h : w.grownBy w' (some g)) : Shows (seenH w (Eg g bx)) (seenH w' (Eg g bx)) := fun i o hi => by
  obtain ⟨h1, h2⟩ := seen_block hi
  exact seen_of h1 ((h.block i (lt_of_block h2) (fun e => h1 (Or.inl (by injection e)))).trans h2)
theorem firsts_eq {M : Mp} {s : Nat} (h : ∀ k, s ≤ k → M k = none) : firsts M s = M := by
  funext k
  unfold firsts
  split
  · rfl
  · exact (h k (by omega)).symm
theorem spn_le {a b : Nat} (h : a ≤ b) : spn a ≤ spn b := Nat.pow_le_pow_right (by omega) h
/-- A tree's box after it is written anew. -/
theorem tree_box {w : World} {gt : Nat} {p q r : Value} {x : Value} (j : Nat) (hb : w.heap[gt]? = some (.cells #[p, q, r] 72 (0, 0))) : (w.setCell ⟨gt, j, none⟩ x).heap[gt]? = some (.cells (#[p, q, r].setIfInBounds j x) 72 (0, 0)) := heap_setCell_same w gt j _ 72 x hb
/-- One level more on top of a node, or of nothing. -/
theorem TreeOn.higher {w : World} {gt h : Nat} {n : Int} {M : Mp} (hT : TreeOn bx w gt h n M) (h4 : h ≤ 4) (top' : Option Nat) (w' : World) (hb : w'.heap[gt]? = some (.cells #[ptr top', .int .i64 ((h + 1 : Nat) : Int), .int .i64 n] 72 (0, 0))) (hn : NodeOn (seenH w' (Eg gt bx)) h top' M) (hlow : bx < w'.heap.size) : TreeOn bx w' gt (h + 1) n M :=
  ⟨⟨top', hb, (fun q => by omega), fun l hl => by obtain rfl : l = h := (by omega); exact hn⟩, fun k hk => hT.out k (Nat.le_trans (spn_le (by omega)) hk), by omega, hlow⟩
theorem TreeOn.bare {w : World} {gt h : Nat} {n : Int} {M : Mp} (hT : TreeOn bx w gt h n M) {P : Value} (hb : w.heap[gt]? = some (.cells #[.pointer none, .int .i64 (h : Int), .int .i64 n] 72 (0, 0))) : ∀ k, M k = none := fun k => by
  obtain ⟨top, hb2, h0, hN⟩ := hT.blk
  rw [hb] at hb2
  injection hb2 with hb2
  injection hb2 with hb2
  have ht : top = none := by
    cases top with
    | none => rfl
    | some g => simp [ptr] at hb2
  subst ht
  by_cases hk : spn h ≤ k
  · exact hT.out k hk
  · cases h with
    | zero => exact hT.void k
    | succ l => exact (NodeOn.isVoid (hN l rfl)) k (by omega)
end Go.Proofs.Ytjginocbbnmgaaa
