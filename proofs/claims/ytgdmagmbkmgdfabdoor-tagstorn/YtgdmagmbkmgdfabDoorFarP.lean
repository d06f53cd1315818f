/-
  SEAT YtgdmagmbkmgdfabDoor: how far rows lie apart.
-/
import Derived.Test.YtgdmagmbkmgdfabDoorRdE
namespace Go.Proofs.YtgdmagmbkmgdfabDoor
set_option linter.unusedVariables false

theorem xor_left (x a b : Nat) (h : x ^^^ a = x ^^^ b) : a = b := by
  have := congrArg (fun t => x ^^^ t) h
  simpa [← Nat.xor_assoc] using this
theorem xor_right (x a b : Nat) (h : a ^^^ x = b ^^^ x) : a = b := xor_left x a b (by rw [Nat.xor_comm x a, Nat.xor_comm x b, h])

/-- How many of the first k bits are 1. -/
def pcK (z : Nat) : Nat → Nat
  | 0 => 0
  | k + 1 => pcK z k + z / 2 ^ k % 2

def distL : List Nat → List Nat → Nat
  | x :: r, y :: s => pcK (x ^^^ y) 8 + distL r s
  | _, _ => 0

theorem pcK_le (z k : Nat) : pcK z k ≤ k := by
  induction k with
  | zero => exact Nat.le_refl _
  | succ k ih => have := Nat.mod_lt (z / 2 ^ k) (show 2 > 0 by omega); simp only [pcK]; omega

theorem distL_step (xs ys : List Nat) (i : Nat) (hx : i < xs.length) (hy : i < ys.length) : distL (xs.take (i + 1)) (ys.take (i + 1)) = distL (xs.take i) (ys.take i) + pcK (xs.getD i 0 ^^^ ys.getD i 0) 8 := by
  induction i generalizing xs ys with
  | zero =>
    match xs, ys, hx, hy with
    | x :: r, y :: s, _, _ => simp [distL]
  | succ i ih =>
    match xs, ys, hx, hy with
    | x :: r, y :: s, hx, hy =>
      have := ih r s (by simpa using hx) (by simpa using hy)
      simp only [List.take_succ_cons, distL, List.getD_cons_succ] at this ⊢
      omega

theorem distL_le (xs ys : List Nat) : distL xs ys ≤ 8 * xs.length := by
  induction xs generalizing ys with
  | nil => simp [distL]
  | cons x r ih =>
    cases ys with
    | nil => simp [distL]
    | cons y s =>
      have := ih s
      have h8 := pcK_le (x ^^^ y) 8
      simp only [distL, List.length_cons]
      omega

/-- In how many places two rows are unlike. -/
def diffL : List Nat → List Nat → Nat
  | x :: r, y :: s => (if x = y then 0 else 1) + diffL r s
  | _, _ => 0

theorem far_nib : ∀ a : Nat, a < 16 → ∀ b : Nat, b < 16 → a = b ∨ 2 ≤ pcK (layN a ^^^ layN b) 8 := by decide +kernel
theorem four_nib : ∀ a : Nat, a < 16 → pcK (layN a) 8 = 4 := by decide +kernel

theorem four_lay (ys : List Nat) (i : Nat) (h : i < 2 * ys.length) : pcK ((layLN ys).getD i 0) 8 = 4 := by
  rw [lay_getD ys i h, layN_mod]
  exact four_nib _ (Nat.mod_lt _ (by omega))

theorem far_lay (zs ys : List Nat) (hl : zs.length = ys.length) (hz : ∀ z ∈ zs, z < 256) (hy : ∀ y ∈ ys, y < 256) : 2 * diffL zs ys ≤ distL (layLN zs) (layLN ys) := by
  induction zs generalizing ys with
  | nil => simp [diffL]
  | cons z r ih =>
    match ys, hl with
    | y :: s, hl =>
      have h1 := ih s (by simpa using hl) (fun x h => hz x (by simp [h])) (fun x h => hy x (by simp [h]))
      have hz1 := hz z (by simp)
      have hy1 := hy y (by simp)
      rw [layLN_cons, layLN_cons]
      simp only [distL, diffL]
      by_cases h : z = y
      · rw [if_pos h]; omega
      · rw [if_neg h]
        have a1 := far_nib (z % 16) (by omega) (y % 16) (by omega)
        have a2 := far_nib (z / 16) (by omega) (y / 16) (by omega)
        rw [← layN_mod, ← layN_mod] at a1
        rcases a1 with a1 | a1
        · rcases a2 with a2 | a2
          · exact absurd (by omega) h
          · omega
        · omega

theorem diff_none (zs ys : List Nat) (hl : zs.length = ys.length) (h : diffL zs ys = 0) : zs = ys := by
  induction zs generalizing ys with
  | nil => exact (List.eq_nil_of_length_eq_zero (by simpa using hl.symm)).symm
  | cons z r ih =>
    match ys, hl with
    | y :: s, hl =>
      simp only [diffL] at h
      by_cases e : z = y
      · rw [if_pos e] at h
        rw [e, ih s (by simpa using hl) (by omega)]
      · rw [if_neg e] at h; omega

theorem diff_one (zs ys : List Nat) (hl : zs.length = ys.length) (h : diffL zs ys = 1) : colN zs ≠ colN ys := by
  induction zs generalizing ys with
  | nil => simp [diffL] at h
  | cons z r ih =>
    match ys, hl with
    | y :: s, hl =>
      simp only [diffL] at h
      rw [col_cons, col_cons]
      by_cases e : z = y
      · rw [if_pos e] at h
        have := ih s (by simpa using hl) (by omega)
        intro he
        rw [e] at he
        exact this (xor_left _ _ _ he)
      · rw [if_neg e] at h
        have := diff_none r s (by simpa using hl) (by omega)
        intro he
        rw [this] at he
        exact e (xor_right _ _ _ he)

theorem diff_snoc (zs ys : List Nat) (a b : Nat) (hl : zs.length = ys.length) : diffL (zs ++ [a]) (ys ++ [b]) = diffL zs ys + if a = b then 0 else 1 := by
  induction zs generalizing ys with
  | nil =>
    have : ys = [] := List.eq_nil_of_length_eq_zero (by simpa using hl.symm)
    subst this
    simp [diffL]
  | cons z r ih =>
    match ys, hl with
    | y :: s, hl =>
      simp only [List.cons_append, diffL]
      rw [ih s (by simpa using hl)]
      omega

theorem far_all (zs ys : List Nat) (hl : zs.length = ys.length) (hz : ∀ z ∈ zs, z < 256) (hy : ∀ y ∈ ys, y < 256) (hne : zs ≠ ys) : 4 ≤ distL (layLN (zs ++ [colN zs])) (layLN (ys ++ [colN ys])) := by
  have h1 := far_lay (zs ++ [colN zs]) (ys ++ [colN ys]) (by simp [hl]) (by
      intro x hx
      rcases List.mem_append.1 hx with h | h
      · exact hz x h
      · simp at h; subst h; exact col_lt zs hz) (by
      intro x hx
      rcases List.mem_append.1 hx with h | h
      · exact hy x h
      · simp at h; subst h; exact col_lt ys hy)
  rw [diff_snoc zs ys _ _ hl] at h1
  by_cases h0 : diffL zs ys = 0
  · exact absurd (diff_none zs ys hl h0) hne
  · by_cases h2 : diffL zs ys = 1
    · rw [if_neg (diff_one zs ys hl h2)] at h1
      omega
    · omega
end Go.Proofs.YtgdmagmbkmgdfabDoor
