/-
  SEAT YtgdmagmbkmgdfabDoor: unmet, its first half: all rows are filled, each with its marks.
-/
import Derived.Test.YtgdmagmbkmgdfabDoorUnA
namespace Go.Proofs.YtgdmagmbkmgdfabDoor
open Go.RowKit
set_option linter.unusedVariables false

/-- m rows in a list at the block G, each in a block of its own. -/
structure Apart (w : World) (B G m : Nat) (vs : Nat → Value) (ns : Nat → Nat) (X : Nat → List Int) : Prop where
  outer : ∀ i, i < m → w.cell? ⟨G, i, none⟩ = some (vs i)
  small : ∀ i, i < m → ns i ≤ 100000
  rows : ∀ i, i < m → w.ownsRow B 5 1 (vs i) (ns i) ((X i).map (Value.int .u8))
  ne : ∀ i j, i < m → j < m → i ≠ j → ∀ g, (vs i).ownBlock = some g → (vs j).ownBlock ≠ some g
  neG : ∀ i, i < m → (vs i).ownBlock ≠ some G
  hG : G < w.heap.size

theorem Apart.move {w w' : World} {B G m : Nat} {vs : Nat → Value} {ns : Nat → Nat} {X Y : Nat → List Int} (h : Apart w B G m vs ns X) (i : Nat) (hi : i < m) (hg : w.grownBy w' (vs i).ownBlock)
    (hr : w'.ownsRow B 5 1 (vs i) (ns i) ((Y i).map (Value.int .u8))) (hY : ∀ j, j < m → j ≠ i → Y j = X j) : Apart w' B G m vs ns Y := by
  obtain ⟨h1, h2, h3, h4, h5, h6⟩ := h
  refine ⟨fun j hj => ?_, h2, fun j hj => ?_, h4, h5, Nat.lt_of_lt_of_le h6 hg.size⟩
  · rw [World.cell?_of_block (hg.block G h6 (fun e => h5 i hi e.symm))]
    exact h1 j hj
  · by_cases e : j = i
    · subst e; exact hr
    · rw [hY j hj e]
      refine (h3 j hj).kept hg ?_
      cases hb : (vs j).ownBlock with
      | none => exact Or.inl rfl
      | some g => exact Or.inr (fun e2 => h4 j i hj hi e g hb e2.symm)

theorem Apart.drewN {w : World} {B G m : Nat} {vs : Nat → Value} {ns : Nat → Nat} {X : Nat → List Int} (h : Apart w B G m vs ns X) (q : Nat) : Apart (w.drewN q) B G m vs ns X := by
  obtain ⟨h1, h2, h3, h4, h5, h6⟩ := h
  exact ⟨fun i hi => by simpa using h1 i hi, h2, fun i hi => h3 i hi, h4, h5, h6⟩

theorem own_form {w : World} {B n : Nat} {v : Value} {xs : List Value} (h : w.ownsRow B 5 1 v n xs) : ∃ a c, v = .slice a n c := by
  rcases h.2 with ⟨hv, h0⟩ | ⟨g, cap, cur, hv, _⟩
  · exact ⟨none, 0, by rw [hv, h0]⟩
  · exact ⟨_, _, hv⟩

/-- The row i with its first k marks. -/
def fillT (i k : Nat) (xs : List Int) : List Int := (List.range k).map (tl i) ++ xs.drop k
theorem fillT_step (i k : Nat) (xs : List Int) (h : k < xs.length) : (fillT i k xs).set k (tl i k) = fillT i (k + 1) xs := by
  unfold fillT
  rw [List.set_append_right _ _ (by simp), List.length_map, List.length_range, Nat.sub_self, List.drop_eq_getElem_cons h, List.set_cons_zero, List.range_succ, List.map_append]
  simp
def markT (i n : Nat) : List Int := (List.range n).map (tl i)
theorem fillT_all (i n : Nat) (xs : List Int) (h : xs.length = n) : fillT i n xs = markT i n := by
  unfold fillT markT
  rw [List.drop_of_length_le (by omega), List.append_nil]
theorem markT_succ (i n : Nat) : markT i (n + 1) = markT i n ++ [tl i n] := by simp [markT, List.range_succ]
theorem markT_length (i n : Nat) : (markT i n).length = n := by simp [markT]
theorem markT_range (i n : Nat) : ∀ x ∈ markT i n, 0 ≤ x ∧ x ≤ 255 := by
  intro x hx
  obtain ⟨k, _, rfl⟩ := List.mem_map.1 hx
  exact tl_range i k
theorem markT_getD (i n k : Nat) (h : k < n) : (markT i n).getD k 0 = tl i k := by simp [markT, List.getD_eq_getElem?_getD, h]

/-- The rows when the first i are filled. -/
def part1 (ns : Nat → Nat) (X : Nat → List Int) (i : Nat) : Nat → List Int := fun j => if j < i then markT j (ns j) else X j
end Go.Proofs.YtgdmagmbkmgdfabDoor
