/-
  SEAT YtgdmagmbkmgdfabDoor: rest, turn.
-/
import Derived.Test.YtgdmagmbkmgdfabDoorRdB
import Derived.Test.YtgdmagmbkmgdfabDoorRdE
namespace Go.Proofs.YtgdmagmbkmgdfabDoor
open Go.RowKit
set_option linter.unusedVariables false

theorem turn_eq (x C : Nat) (hx : x < 256) (hC : C < 8) : bits .xor .u8 (x : Int) (2 ^ C % 256) = ((x ^^^ 2 ^ C : Nat) : Int) := by
  have h2 : 2 ^ C ≤ 2 ^ 7 := Nat.pow_le_pow_right (by omega) (by omega)
  have e : (2 : Int) ^ C % 256 = ((2 ^ C : Nat) : Int) := by
    obtain ⟨t, ht⟩ : ∃ t, t = 2 ^ C := ⟨_, rfl⟩
    have : ((2 : Int) ^ C) = ((2 ^ C : Nat) : Int) := by simp
    rw [this, ← ht]
    rw [← ht] at h2
    omega
  rw [e, u8_xor_nat x (2 ^ C) hx (by omega)]


theorem cst_of (zs : List Int) (h : ∀ x ∈ zs, 0 ≤ x ∧ x ≤ 255) : cst (zs.map Int.toNat) = zs ∧ ∀ x ∈ zs.map Int.toNat, x < 256 := by
  constructor
  · unfold cst
    rw [List.map_map]
    conv => rhs; rw [← List.map_id zs]
    apply List.map_congr_left
    intro x hx
    have := h x hx
    simp
    omega
  · intro x hx
    obtain ⟨z, hz, rfl⟩ := List.mem_map.1 hx
    have := h z hz
    omega

theorem lay_cst (ys : List Nat) : layL (cst ys) = cst (layLN ys) := by
  induction ys with
  | nil => rfl
  | cons y r ih =>
    have e1 : layL (cst (y :: r)) = layB (y : Int) ++ layL (cst r) := rfl
    have e2 : cst (layLN (y :: r)) = [((layN y : Nat) : Int), ((layN (y / 16) : Nat) : Int)] ++ cst (layLN r) := rfl
    rw [e1, e2, ih]
    congr 1

theorem layLN_lt (ys : List Nat) : ∀ x ∈ layLN ys, x < 256 := by
  induction ys with
  | nil => intro x hx; cases hx
  | cons y r ih =>
    intro x hx
    rw [layLN_cons] at hx
    rcases List.mem_cons.1 hx with rfl | hx
    · exact layN_lt _
    · rcases List.mem_cons.1 hx with rfl | hx
      · exact layN_lt _
      · exact ih x hx

theorem turnN_lt (xs : List Nat) (i : Nat) (h : ∀ x ∈ xs, x < 256) : ∀ x ∈ turnN xs i, x < 256 := by
  intro x hx
  rcases List.mem_or_eq_of_mem_set hx with h1 | h1
  · exact h x h1
  · subst h1
    have ho : xs.getD (i / 8) 0 < 2 ^ 8 := by
      rcases Nat.lt_or_ge (i / 8) xs.length with h2 | h2
      · rw [List.getD_eq_getElem?_getD, List.getElem?_eq_getElem h2]; exact h _ (List.getElem_mem _)
      · rw [List.getD_eq_getElem?_getD, List.getElem?_eq_none h2]; simp
    exact Nat.xor_lt_two_pow ho (Nat.pow_lt_pow_right (by omega) (by omega))
theorem turnN_length (xs : List Nat) (i : Nat) : (turnN xs i).length = xs.length := by simp [turnN]

/-- What a Read that is OK leaves can be read. -/
theorem read_got {w w' : World} {m : Nat} {ns : List Nat} {n : Int} {e : Ending} (h : readR w m (some (ns, n)) e w') : e = .returned (.tuple #[.slice (some ⟨w.heap.size, 0, none⟩) (m - 1) m, .int .i64 n, .int .i64 0]) ∧ Reads w' (some ⟨w.heap.size, 0, none⟩) (m - 1) (cst ns) := by
  obtain ⟨h1, rows, ht, hr, own⟩ := h
  refine ⟨h1, ?_⟩
  have := own.reads (cst_range rows hr) (m - 1) (by omega)
  have e : (cst rows).take (m - 1) = cst ns := by rw [← ht]; simp [cst, List.map_take]
  rwa [e] at this
end Go.Proofs.YtgdmagmbkmgdfabDoor
