/-
  SEAT Ytjginocbbnmgaaa: Put.
-/
import Derived.Test.YtjginocbbnmgaaaTnI
namespace Go.Proofs.Ytjginocbbnmgaaa
open Go.RowKit
set_option linter.unusedVariables false
variable {bx : Nat}

theorem TreeOn.size {w : World} {gt h : Nat} {n n' : Int} {M : Mp} (hT : TreeOn bx w gt h n M) : TreeOn bx (w.setCell ⟨gt, 2, none⟩ (.int .i64 n')) gt h n' M := by
  obtain ⟨top, hb, h0, hN⟩ := hT.blk
  exact ⟨⟨top, by rw [tree_box 2 hb]; rfl, h0, fun l hl => (hN l hl).mono (shows_grown (grown_setC _ _ _ _))⟩, hT.out, hT.h5, by have := hT.low; simpa using this⟩
theorem TreeOn.drewN {w : World} {gt h : Nat} {n : Int} {M : Mp} (hT : TreeOn bx w gt h n M) (q : Nat) : TreeOn bx (w.drewN q) gt h n M := ⟨hT.blk, hT.out, hT.h5, hT.low⟩
theorem ptr_eq (t : Option Nat) : (t = none ∧ ptr t = .pointer none) ∨ ∃ g, t = some g ∧ ptr t = .pointer (some ⟨g, 0, none⟩) := by
  cases t with
  | none => exact Or.inl ⟨rfl, rfl⟩
  | some g => exact Or.inr ⟨g, rfl, rfl⟩
set_option maxHeartbeats 1000000 in
set_option maxRecDepth 100000 in
/-- The last step of Put: the new top. -/
theorem puts_tail (gt h k : Nat) (v n : Int) (M : Mp) (w : World) (l : Nat) (hh : h = l + 1) (hT : TreeOn bx w gt h n M) (hk : k < spn h) (hk5 : k < 1048576) : ∃ top, w.cell? ⟨gt, 0, none⟩ = some (ptr top) ∧ w.cell? ⟨gt, 1, none⟩ = some (.int .i64 ((l : Int) + 1)) ∧ w.frozen? ⟨gt, 0, none⟩ = false ∧
    Calls Try.prog 38 #[ptr top, .int .i64 (l : Int), .int .i64 (k : Int), .int .i64 v] w.drew fun e w1 => ∃ g, e = .returned (.pointer (some ⟨g, 0, none⟩)) ∧ Below w.heap.size w w1 ∧ TreeOn bx (w1.setCell ⟨gt, 0, none⟩ (.pointer (some ⟨g, 0, none⟩))) gt h n (upd M k v) ∧ w1.cell? ⟨gt, 1, none⟩ = some (.int .i64 ((l : Int) + 1)) ∧ w1.frozen? ⟨gt, 0, none⟩ = false ∧ ∃ y, w1.cell? ⟨gt, 0, none⟩ = some y := by
  obtain ⟨top, hb, h0, hN⟩ := hT.blk
  have h5 := hT.h5
  subst hh
  have hkk : k % spn (l + 1) = k := Nat.mod_eq_of_lt hk
  have hgt := lt_of_block hb
  refine ⟨top, by rw [cell_of_row _ _ 0 _ 72 (0, 0) hb]; rfl, by rw [cell_of_row _ _ 1 _ 72 (0, 0) hb, Int.natCast_add]; rfl, by unfold World.frozen?; simp only [hb]; simp, ?_⟩
  refine (with_any l k v top M w.drew (Eg gt bx) (by omega) hk5 (fun i q => by show i < w.heap.size; have := hT.low; rcases q with q | q <;> omega) (hN l rfl)).mono ?_
  rintro e w1 ⟨g, rfl, n1, q1⟩
  have q1' : Below w.heap.size w w1 := (Below.refl _ _).drew.trans q1
  have hb1 := (q1'.block gt hgt).trans hb
  have hb2 := tree_box (x := .pointer (some ⟨g, 0, none⟩)) 0 hb1
  rw [hkk] at n1
  refine ⟨g, rfl, q1', ⟨⟨some g, by rw [hb2]; rfl, (fun q => by omega), fun l' hl => ?_⟩, fun j hj => ?_, h5, by have h8 := hT.low; have h9 := q1'.size; simp; omega⟩, by rw [cell_of_row _ _ 1 _ 72 (0, 0) hb1, Int.natCast_add]; rfl, by unfold World.frozen?; simp only [hb1]; simp, _, by rw [cell_of_row _ _ 0 _ 72 (0, 0) hb1]; rfl⟩
  · obtain rfl : l' = l := by omega
    exact n1.mono (shows_grown (grown_setC _ _ _ _))
  · unfold upd
    rw [if_neg (by omega)]
    exact hT.out j hj
end Go.Proofs.Ytjginocbbnmgaaa
