/-
  SEAT YtgdmagmbkmgdfabDoor: what is lifted, pair by pair.
-/
import Derived.Test.YtgdmagmbkmgdfabDoorPure
namespace Go.Proofs.YtgdmagmbkmgdfabDoor
set_option linter.unusedVariables false

/-- The rows when the pairs below p have been lifted. -/
def rowsP (xs : List Nat) (m : Nat) : Nat → List Nat
  | 0 => List.replicate m 0
  | p + 1 => if brokenAt xs p then rowsP xs m p else (rowsP xs m p).set (p / 8) ((rowsP xs m p).getD (p / 8) 0 ||| (xs.getD (p / 4) 0 / 4 ^ (p % 4) % 2) * 2 ^ (p % 8))

theorem rowsP_length (xs : List Nat) (m p : Nat) : (rowsP xs m p).length = m := by
  induction p with
  | zero => simp [rowsP]
  | succ p ih => unfold rowsP; split <;> simp [ih]

/-- One row, pair by pair. -/
def accR (xs : List Nat) (r : Nat) : Nat → Nat
  | 0 => 0
  | j + 1 => if brokenAt xs (8 * r + j) then accR xs r j else accR xs r j ||| (xs.getD ((8 * r + j) / 4) 0 / 4 ^ ((8 * r + j) % 4) % 2) * 2 ^ j

theorem rowsP_getD (xs : List Nat) (m p r : Nat) (hr : r < m) : (rowsP xs m p).getD r 0 = accR xs r (min 8 (p - 8 * r)) := by
  induction p with
  | zero => simp [rowsP, accR, List.getD_eq_getElem?_getD, hr]
  | succ p ih =>
    unfold rowsP
    by_cases hin : p / 8 = r
    · have e1 : min 8 (p - 8 * r) = p % 8 := by omega
      have e2 : min 8 (p + 1 - 8 * r) = p % 8 + 1 := by omega
      have e3 : 8 * r + p % 8 = p := by omega
      rw [e1] at ih
      rw [e2, accR, e3]
      split
      · exact ih
      · rw [hin, ih, List.getD_eq_getElem?_getD, List.getElem?_set_self (by rw [rowsP_length]; exact hr)]
        rfl
    · have e1 : min 8 (p + 1 - 8 * r) = min 8 (p - 8 * r) := by omega
      rw [e1, ← ih]
      split
      · rfl
      · rw [List.getD_eq_getElem?_getD, List.getElem?_set_ne hin, ← List.getD_eq_getElem?_getD]

theorem or_add (x b j : Nat) (h : x < 2 ^ j) (hb : b ≤ 1) : x ||| b * 2 ^ j = x + b * 2 ^ j := by
  rcases (show b = 0 ∨ b = 1 by omega) with rfl | rfl
  · simp
  · rw [Nat.one_mul, Nat.or_comm, Nat.add_comm]
    have := Nat.two_pow_add_eq_or_of_lt h 1
    simpa using this.symm

theorem accR_step (xs : List Nat) (r j : Nat) (h : accR xs r j < 2 ^ j) : accR xs r (j + 1) = accR xs r j + lob (xs.getD ((8 * r + j) / 4) 0) ((8 * r + j) % 4) * 2 ^ j ∧ accR xs r (j + 1) < 2 ^ (j + 1) := by
  have hl := lob_le (xs.getD ((8 * r + j) / 4) 0) ((8 * r + j) % 4)
  have e : accR xs r (j + 1) = accR xs r j + lob (xs.getD ((8 * r + j) / 4) 0) ((8 * r + j) % 4) * 2 ^ j := by
    rw [accR]
    unfold lob
    split
    · rename_i hb
      unfold brokenAt at hb
      rw [if_pos hb]
      simp
    · rename_i hb
      unfold brokenAt at hb
      rw [if_neg hb, or_add _ _ _ h (by omega)]
  refine ⟨e, ?_⟩
  rw [e, Nat.pow_succ]
  have : lob (xs.getD ((8 * r + j) / 4) 0) ((8 * r + j) % 4) * 2 ^ j ≤ 1 * 2 ^ j := Nat.mul_le_mul_right _ hl
  omega

theorem accR_lt (xs : List Nat) (r j : Nat) : accR xs r j < 2 ^ j := by
  induction j with
  | zero => simp [accR]
  | succ j ih => exact (accR_step xs r j ih).2

theorem accR_8 (xs : List Nat) (r : Nat) : accR xs r 8 = lw (xs.getD (2 * r) 0) + 16 * lw (xs.getD (2 * r + 1) 0) := by
  have h0 := (accR_step xs r 0 (accR_lt xs r 0)).1
  have h1 := (accR_step xs r 1 (accR_lt xs r 1)).1
  have h2 := (accR_step xs r 2 (accR_lt xs r 2)).1
  have h3 := (accR_step xs r 3 (accR_lt xs r 3)).1
  have h4 := (accR_step xs r 4 (accR_lt xs r 4)).1
  have h5 := (accR_step xs r 5 (accR_lt xs r 5)).1
  have h6 := (accR_step xs r 6 (accR_lt xs r 6)).1
  have h7 := (accR_step xs r 7 (accR_lt xs r 7)).1
  rw [show (8 * r + 0) / 4 = 2 * r by omega, show (8 * r + 0) % 4 = 0 by omega] at h0
  rw [show (8 * r + 1) / 4 = 2 * r by omega, show (8 * r + 1) % 4 = 1 by omega] at h1
  rw [show (8 * r + 2) / 4 = 2 * r by omega, show (8 * r + 2) % 4 = 2 by omega] at h2
  rw [show (8 * r + 3) / 4 = 2 * r by omega, show (8 * r + 3) % 4 = 3 by omega] at h3
  rw [show (8 * r + 4) / 4 = 2 * r + 1 by omega, show (8 * r + 4) % 4 = 0 by omega] at h4
  rw [show (8 * r + 5) / 4 = 2 * r + 1 by omega, show (8 * r + 5) % 4 = 1 by omega] at h5
  rw [show (8 * r + 6) / 4 = 2 * r + 1 by omega, show (8 * r + 6) % 4 = 2 by omega] at h6
  rw [show (8 * r + 7) / 4 = 2 * r + 1 by omega, show (8 * r + 7) % 4 = 3 by omega] at h7
  have z : accR xs r 0 = 0 := rfl
  simp only [Nat.zero_add, Nat.reduceAdd, Nat.reducePow] at h0 h1 h2 h3 h4 h5 h6 h7
  unfold lw
  omega

theorem rowsP_all (xs : List Nat) (m : Nat) (hl : xs.length = 2 * m) : rowsP xs m (4 * xs.length) = rowsOf xs := by
  have h1 := rowsOf_length xs m hl
  have h2 := rowsP_length xs m (4 * xs.length)
  apply List.ext_getElem (by omega)
  intro r ha hb
  have hr : r < m := by omega
  have e1 := rowsP_getD xs m (4 * xs.length) r hr
  have e2 := rowsOf_getD xs m hl r hr
  rw [show min 8 (4 * xs.length - 8 * r) = 8 by omega, accR_8, ← e2] at e1
  simpa [List.getD_eq_getElem?_getD, List.getElem?_eq_getElem ha, List.getElem?_eq_getElem hb] using e1

theorem rowsP_lt (xs : List Nat) (m p : Nat) : ∀ x ∈ rowsP xs m p, x < 256 := by
  intro x hx
  obtain ⟨r, hr, rfl⟩ := List.getElem_of_mem hx
  have hr' : r < m := by rw [rowsP_length] at hr; exact hr
  have e := rowsP_getD xs m p r hr'
  have h1 := accR_lt xs r (min 8 (p - 8 * r))
  have h2 : 2 ^ (min 8 (p - 8 * r)) ≤ 2 ^ 8 := Nat.pow_le_pow_right (by omega) (by omega)
  rw [List.getD_eq_getElem?_getD, List.getElem?_eq_getElem hr] at e
  simp at e
  omega

theorem brkL_mono (xs : List Nat) (n k : Nat) : (brkL xs n).length ≤ (brkL xs (n + k)).length := by
  induction k with
  | zero => exact Nat.le_refl _
  | succ k ih =>
    rw [← Nat.add_assoc, brkL_succ, List.length_append]
    omega

theorem rowsP_broken {xs : List Nat} {m p : Nat} (h : brokenAt xs p = true) : rowsP xs m (p + 1) = rowsP xs m p := by
  rw [rowsP, if_pos h]
theorem rowsP_whole {xs : List Nat} {m p : Nat} (h : brokenAt xs p = false) : rowsP xs m (p + 1) = (rowsP xs m p).set (p / 8) ((rowsP xs m p).getD (p / 8) 0 ||| (xs.getD (p / 4) 0 / 4 ^ (p % 4) % 2) * 2 ^ (p % 8)) := by
  rw [rowsP, if_neg (by simp [h])]

theorem brokenAt_at (xs : List Nat) (k t : Nat) (ht : t < 4) : brokenAt xs (4 * k + t) = bkn (xs.getD k 0) t := by
  unfold brokenAt
  rw [show (4 * k + t) / 4 = k by omega, show (4 * k + t) % 4 = t by omega]
end Go.Proofs.YtgdmagmbkmgdfabDoor
