/-
  SEAT YtgdmagmbkmgdfabDoor: the reference's Pack.
-/
import Derived.Test.YtgdmagmbkmgdfabDoorPb
namespace Go.Proofs.YtgdmagmbkmgdfabDoor
open Go.RowKit
set_option linter.unusedVariables false

theorem Box.c0 {w : World} {T : Nat} {n0 n1 n2 n3 n4 n5 n6 n7 : Int} (h : Box w T n0 n1 n2 n3 n4 n5 n6 n7) : w.cell? ⟨T, 0, none⟩ = some (.int .i64 n0) := by unfold Box at h; simp [World.cell?, h]
theorem Box.c1 {w : World} {T : Nat} {n0 n1 n2 n3 n4 n5 n6 n7 : Int} (h : Box w T n0 n1 n2 n3 n4 n5 n6 n7) : w.cell? ⟨T, 1, none⟩ = some (.int .i64 n1) := by unfold Box at h; simp [World.cell?, h]
theorem Box.c2 {w : World} {T : Nat} {n0 n1 n2 n3 n4 n5 n6 n7 : Int} (h : Box w T n0 n1 n2 n3 n4 n5 n6 n7) : w.cell? ⟨T, 2, none⟩ = some (.int .u64 n2) := by unfold Box at h; simp [World.cell?, h]
theorem Box.c3 {w : World} {T : Nat} {n0 n1 n2 n3 n4 n5 n6 n7 : Int} (h : Box w T n0 n1 n2 n3 n4 n5 n6 n7) : w.cell? ⟨T, 3, none⟩ = some (.int .u64 n3) := by unfold Box at h; simp [World.cell?, h]
theorem Box.c4 {w : World} {T : Nat} {n0 n1 n2 n3 n4 n5 n6 n7 : Int} (h : Box w T n0 n1 n2 n3 n4 n5 n6 n7) : w.cell? ⟨T, 4, none⟩ = some (.int .i64 n4) := by unfold Box at h; simp [World.cell?, h]
theorem Box.c5 {w : World} {T : Nat} {n0 n1 n2 n3 n4 n5 n6 n7 : Int} (h : Box w T n0 n1 n2 n3 n4 n5 n6 n7) : w.cell? ⟨T, 5, none⟩ = some (.int .i64 n5) := by unfold Box at h; simp [World.cell?, h]
theorem Box.c6 {w : World} {T : Nat} {n0 n1 n2 n3 n4 n5 n6 n7 : Int} (h : Box w T n0 n1 n2 n3 n4 n5 n6 n7) : w.cell? ⟨T, 6, none⟩ = some (.int .i64 n6) := by unfold Box at h; simp [World.cell?, h]
theorem Box.c7 {w : World} {T : Nat} {n0 n1 n2 n3 n4 n5 n6 n7 : Int} (h : Box w T n0 n1 n2 n3 n4 n5 n6 n7) : w.cell? ⟨T, 7, none⟩ = some (.int .i64 n7) := by unfold Box at h; simp [World.cell?, h]

/-- Do all fields fit their bytes? -/
def Small (n0 n1 n2 n3 n4 n5 n6 n7 : Int) : Prop := (0 ≤ n0 ∧ n0 ≤ 255) ∧ (0 ≤ n1 ∧ n1 ≤ 255) ∧ n2 ≤ 281474976710655 ∧ n3 ≤ 281474976710655 ∧ (0 ≤ n4 ∧ n4 ≤ 4294967295) ∧ (0 ≤ n5 ∧ n5 ≤ 4294967295) ∧ (0 ≤ n6 ∧ n6 ≤ 65535) ∧ (0 ≤ n7 ∧ n7 ≤ 65535)
/-- The bytes of fields. -/
def tagL (n0 n1 n2 n3 n4 n5 n6 n7 : Int) : List Int := lowL n0 1 ++ lowL n1 1 ++ lowL n2 6 ++ lowL n3 6 ++ lowL n4 4 ++ lowL n5 4 ++ lowL n6 2 ++ lowL n7 2
theorem tagL_length (n0 n1 n2 n3 n4 n5 n6 n7 : Int) : (tagL n0 n1 n2 n3 n4 n5 n6 n7).length = 26 := by simp [tagL, lowL_length]
theorem tagL_range (n0 n1 n2 n3 n4 n5 n6 n7 : Int) : ∀ x ∈ tagL n0 n1 n2 n3 n4 n5 n6 n7, 0 ≤ x ∧ x ≤ 255 := by
  intro x hx
  simp only [tagL, List.mem_append] at hx
  rcases hx with ((((((hx | hx) | hx) | hx) | hx) | hx) | hx) | hx <;> exact lowL_range _ _ x hx

theorem own_any' {w : World} {B n : Nat} {v : Value} {xs : List Int} (h : w.ownsRow B 5 1 v n (xs.map (Value.int .u8))) (hr : ∀ x ∈ xs, 0 ≤ x ∧ x ≤ 255) : ∃ a c, v = .slice a n c := by
  obtain ⟨a, c, e, _⟩ := own_any h hr
  exact ⟨a, c, e⟩
theorem own_kept {w w' : World} {B n : Nat} {v : Value} {xs : List Value} (h : w.ownsRow B 5 1 v n xs) (hb : Below w.heap.size w w') : w'.ownsRow B 5 1 v n xs := by
  obtain ⟨h1, h2⟩ := h
  refine ⟨h1, ?_⟩
  rcases h2 with h2 | ⟨g', cap', cur, hv, hg, hh, r⟩
  · exact Or.inl h2
  · refine Or.inr ⟨g', cap', cur, hv, hg, ?_, r⟩
    rw [hb.block g' ?_]
    · exact hh
    · rcases Nat.lt_or_ge g' w.heap.size with h | h
      · exact h
      · simp [Array.getElem?_eq_none h] at hh

theorem rd_of {w : World} {B n c : Nat} {a : Option Addr} {xs : List Int} (h : w.ownsRow B 5 1 (.slice a n c) n (xs.map (Value.int .u8))) (hr : ∀ x ∈ xs, 0 ≤ x ∧ x ≤ 255) : Reads w a n xs := by
  obtain ⟨a', c', e, hrd⟩ := own_any h hr
  cases e
  exact hrd

theorem box_grown {w w' : World} {T B n : Nat} {n0 n1 n2 n3 n4 n5 n6 n7 : Int} {v : Value} {xs : List Value} (h : Box w T n0 n1 n2 n3 n4 n5 n6 n7) (ho : w.ownsRow B 5 1 v n xs) (hg : w.grownBy w' v.ownBlock) : Box w' T n0 n1 n2 n3 n4 n5 n6 n7 := by
  refine (hg.block T h.lt fun e => ?_).trans h
  rcases ho.2 with ⟨rfl, _⟩ | ⟨g', cap, cur, rfl, _, hh, _⟩
  · cases e
  · simp [Value.ownBlock] at e
    subst e
    unfold Box at h
    rw [h] at hh
    simp at hh

end Go.Proofs.YtgdmagmbkmgdfabDoor
