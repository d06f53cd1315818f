/-
  SEAT YtgdmagmbkmgdfabDoor: rails, over numbers.
-/
import Derived.Test.YtgdmagmbkmgdfabDoorLayB
namespace Go.Proofs.YtgdmagmbkmgdfabDoor
set_option linter.unusedVariables false

/-- Is the k-th pair of a byte broken? -/
def bkn (z k : Nat) : Bool := z / 4 ^ k % 2 == z / 4 ^ k / 2 % 2
/-- The lower bit of a pair, 0 if it is broken; those of a byte. -/
def lob (z k : Nat) : Nat := if bkn z k then 0 else z / 4 ^ k % 2
def lw (z : Nat) : Nat := lob z 0 + 2 * lob z 1 + 4 * lob z 2 + 8 * lob z 3

def rowsOf : List Nat → List Nat
  | a :: b :: r => (lw a + 16 * lw b) :: rowsOf r
  | _ => []

def layP (n : Nat) : List Nat := [layN n, layN (n / 16)]
def layLN (ys : List Nat) : List Nat := ys.flatMap layP

def brokenAt (xs : List Nat) (p : Nat) : Bool := bkn (xs.getD (p / 4) 0) (p % 4)
def brkL (xs : List Nat) (n : Nat) : List Nat := (List.range n).filter (brokenAt xs)

def colN (xs : List Nat) : Nat := xs.foldl (fun s z => s ^^^ z) 0

def mendN (rows : List Nat) (p : Nat) : List Nat := rows.set (p / 8) (rows.getD (p / 8) 0 ||| (colN rows &&& 2 ^ (p % 8)))

def sealN (rows : List Nat) (p : Int) : Option (List Nat × Int) := if colN rows = 0 then some (rows.take (rows.length - 1), p) else none

def readN (xs : List Nat) : Option (List Nat × Int) :=
  match brkL xs (4 * xs.length) with
  | [] => sealN (rowsOf xs) (-1)
  | [p] => sealN (mendN (rowsOf xs) p) p
  | _ => none

/-! bytes -/
theorem lob_le (z k : Nat) : lob z k ≤ 1 := by unfold lob; split <;> omega
theorem lw_lt (z : Nat) : lw z < 16 := by
  have h0 := lob_le z 0; have h1 := lob_le z 1; have h2 := lob_le z 2; have h3 := lob_le z 3
  unfold lw; omega
theorem lay_bkn : ∀ n : Nat, n < 16 → ∀ k : Nat, k < 4 → bkn (layN n) k = false := by decide +kernel
theorem lay_lw : ∀ n : Nat, n < 16 → lw (layN n) = n := by decide +kernel
theorem layN_mod (n : Nat) : layN n = layN (n % 16) := by unfold layN; omega
theorem layN_lt (n : Nat) : layN n < 256 := by unfold layN; omega
theorem lw_lay : ∀ z : Nat, z < 256 → (∀ k : Nat, k < 4 → bkn z k = false) → layN (lw z) = z := by decide +kernel

theorem layLN_length (ys : List Nat) : (layLN ys).length = 2 * ys.length := by
  induction ys with
  | nil => rfl
  | cons y r ih => simp only [layLN, List.flatMap_cons, List.length_append, layP, List.length_cons, List.length_nil] at *; omega

theorem layLN_cons (y : Nat) (r : List Nat) : layLN (y :: r) = layN y :: layN (y / 16) :: layLN r := rfl

theorem rows_lay (ys : List Nat) (h : ∀ y ∈ ys, y < 256) : rowsOf (layLN ys) = ys := by
  induction ys with
  | nil => rfl
  | cons y r ih =>
    have hy := h y (by simp)
    rw [layLN_cons, rowsOf, ih (fun z hz => h z (by simp [hz])), layN_mod y, layN_mod (y / 16), lay_lw _ (by omega), lay_lw _ (by omega)]
    congr 1
    omega

theorem lay_rows (xs : List Nat) (m : Nat) (hl : xs.length = 2 * m) (hx : ∀ x ∈ xs, x < 256) (hb : ∀ x ∈ xs, ∀ k : Nat, k < 4 → bkn x k = false) : layLN (rowsOf xs) = xs := by
  induction m generalizing xs with
  | zero => have : xs = [] := List.eq_nil_of_length_eq_zero (by omega); subst this; rfl
  | succ m ih =>
    match xs, hl with
    | a :: b :: r, hl =>
      have ha := lw_lay a (hx a (by simp)) (hb a (by simp))
      have hb' := lw_lay b (hx b (by simp)) (hb b (by simp))
      have h1 := lw_lt a
      have h2 := lw_lt b
      rw [rowsOf, layLN_cons, ih r (by simp at hl; omega) (fun x h => hx x (by simp [h])) (fun x h => hb x (by simp [h]))]
      rw [layN_mod (lw a + 16 * lw b), show (lw a + 16 * lw b) % 16 = lw a by omega, show (lw a + 16 * lw b) / 16 = lw b by omega, ha, hb']

theorem rowsOf_length (xs : List Nat) (m : Nat) (hl : xs.length = 2 * m) : (rowsOf xs).length = m := by
  induction m generalizing xs with
  | zero => have : xs = [] := List.eq_nil_of_length_eq_zero (by omega); subst this; rfl
  | succ m ih =>
    match xs, hl with
    | a :: b :: r, hl => simp [rowsOf, ih r (by simp at hl; omega)]

theorem rowsOf_getD (xs : List Nat) (m : Nat) (hl : xs.length = 2 * m) (r : Nat) (hr : r < m) : (rowsOf xs).getD r 0 = lw (xs.getD (2 * r) 0) + 16 * lw (xs.getD (2 * r + 1) 0) := by
  induction m generalizing xs r with
  | zero => omega
  | succ m ih =>
    match xs, hl with
    | a :: b :: q, hl =>
      cases r with
      | zero => simp [rowsOf]
      | succ r =>
        have := ih q (by simp at hl; omega) r (by omega)
        rw [rowsOf, List.getD_cons_succ, this]
        rfl

theorem rows_lt (xs : List Nat) (m : Nat) (hl : xs.length = 2 * m) : ∀ x ∈ rowsOf xs, x < 256 := by
  induction m generalizing xs with
  | zero => have : xs = [] := List.eq_nil_of_length_eq_zero (by omega); subst this; simp [rowsOf]
  | succ m ih =>
    match xs, hl with
    | a :: b :: q, hl =>
      intro x hx
      simp [rowsOf] at hx
      have h1 := lw_lt a
      have h2 := lw_lt b
      rcases hx with rfl | hx
      · omega
      · exact ih q (by simp at hl; omega) x hx

theorem lay_getD (ys : List Nat) (q : Nat) (hq : q < 2 * ys.length) : (layLN ys).getD q 0 = layN (ys.getD (q / 2) 0 / 16 ^ (q % 2)) := by
  induction ys generalizing q with
  | nil => simp at hq
  | cons y r ih =>
    match q with
    | 0 => simp [layLN_cons]
    | 1 => simp [layLN_cons]
    | q + 2 =>
      have := ih q (by simp at hq; omega)
      rw [layLN_cons, List.getD_cons_succ, List.getD_cons_succ, this, show (q + 2) / 2 = q / 2 + 1 by omega, show (q + 2) % 2 = q % 2 by omega, List.getD_cons_succ]

theorem lay_whole (ys : List Nat) (p : Nat) (hp : p < 8 * ys.length) : brokenAt (layLN ys) p = false := by
  unfold brokenAt
  rw [lay_getD ys (p / 4) (by omega), layN_mod]
  exact lay_bkn _ (by omega) _ (by omega)

/-! which pairs are broken -/
theorem brkL_nil {xs : List Nat} {n : Nat} : brkL xs n = [] ↔ ∀ p, p < n → brokenAt xs p = false := by
  unfold brkL
  rw [List.filter_eq_nil_iff]
  constructor
  · intro h p hp; have := h p (by simpa using hp); simpa using this
  · intro h p hp; simp [h p (by simpa using hp)]

theorem brkL_succ (xs : List Nat) (n : Nat) : brkL xs (n + 1) = brkL xs n ++ if brokenAt xs n then [n] else [] := by
  unfold brkL
  rw [List.range_succ, List.filter_append]
  congr 1
  by_cases h : brokenAt xs n <;> simp [h]

theorem brkL_mem {xs : List Nat} {n p : Nat} : p ∈ brkL xs n ↔ p < n ∧ brokenAt xs p = true := by simp [brkL]

theorem brkL_one {xs : List Nat} {n q : Nat} (hq : q < n) (hb : ∀ p, p < n → brokenAt xs p = decide (p = q)) : brkL xs n = [q] := by
  induction n with
  | zero => omega
  | succ n ih =>
    rw [brkL_succ]
    by_cases h : n = q
    · subst h
      rw [brkL_nil.2 (fun p hp => by rw [hb p (by omega)]; simp; omega), hb n (by omega)]
      simp
    · rw [ih (by omega) (fun p hp => hb p (by omega)), hb n (by omega)]
      simp [h]

theorem brkL_one_inv {xs : List Nat} {n q : Nat} (h : brkL xs n = [q]) : q < n ∧ ∀ p, p < n → brokenAt xs p = decide (p = q) := by
  have h1 := brkL_mem.1 (show q ∈ brkL xs n by rw [h]; simp)
  refine ⟨h1.1, fun p hp => ?_⟩
  by_cases e : p = q
  · subst e; simp [h1.2]
  · cases hb : brokenAt xs p with
    | false => simp [e]
    | true =>
      have := brkL_mem.2 ⟨hp, hb⟩
      rw [h] at this
      simp at this
      exact absurd this e

theorem brkL_two {xs : List Nat} {n p q : Nat} (hp : p < n) (hq : q < n) (hne : p ≠ q) (h1 : brokenAt xs p = true) (h2 : brokenAt xs q = true) : 2 ≤ (brkL xs n).length := by
  have m1 := brkL_mem.2 ⟨hp, h1⟩
  have m2 := brkL_mem.2 ⟨hq, h2⟩
  match h : brkL xs n with
  | [] => rw [h] at m1; simp at m1
  | [a] => rw [h] at m1 m2; simp at m1 m2; omega
  | a :: b :: r => simp

theorem readN_two {xs : List Nat} (h : 2 ≤ (brkL xs (4 * xs.length)).length) : readN xs = none := by
  unfold readN
  match h' : brkL xs (4 * xs.length) with
  | [] => rw [h'] at h; simp at h
  | [a] => rw [h'] at h; simp at h
  | a :: b :: r => rfl

/-! the column sum -/
theorem col_from (xs : List Nat) (s : Nat) : xs.foldl (fun s z => s ^^^ z) s = s ^^^ colN xs := by
  induction xs generalizing s with
  | nil => simp [colN]
  | cons x r ih =>
    simp only [colN, List.foldl_cons] at *
    rw [ih, ih (0 ^^^ x)]
    simp [Nat.xor_assoc]

theorem col_cons (x : Nat) (r : List Nat) : colN (x :: r) = x ^^^ colN r := by
  have := col_from r (0 ^^^ x)
  simpa [colN] using this

theorem col_append (xs ys : List Nat) : colN (xs ++ ys) = colN xs ^^^ colN ys := by
  induction xs with
  | nil => simp [colN]
  | cons x r ih => rw [List.cons_append, col_cons, col_cons, ih, Nat.xor_assoc]

theorem col_set (xs : List Nat) (r v : Nat) (hr : r < xs.length) : colN (xs.set r v) = colN xs ^^^ xs.getD r 0 ^^^ v := by
  induction xs generalizing r with
  | nil => simp at hr
  | cons x q ih =>
    cases r with
    | zero =>
      simp only [List.set_cons_zero, col_cons, List.getD_cons_zero]
      rw [Nat.xor_comm x (colN q), Nat.xor_assoc (colN q), Nat.xor_self, Nat.xor_zero, Nat.xor_comm]
    | succ r =>
      simp only [List.set_cons_succ, col_cons, List.getD_cons_succ]
      rw [ih r (by simpa using hr)]
      simp [Nat.xor_assoc]

theorem col_lt (xs : List Nat) (h : ∀ x ∈ xs, x < 256) : colN xs < 256 := by
  induction xs with
  | nil => simp [colN]
  | cons x r ih =>
    rw [col_cons]
    exact Nat.xor_lt_two_pow (n := 8) (h x (by simp)) (ih fun y hy => h y (by simp [hy]))

theorem col_seal (zs : List Nat) : colN (zs ++ [colN zs]) = 0 := by
  rw [col_append]
  simp [colN]

theorem seal_col (rows : List Nat) (m : Nat) (hm : rows.length = m + 1) (h : colN rows = 0) : rows.take m ++ [colN (rows.take m)] = rows := by
  have e : rows = rows.take m ++ [rows.getD m 0] := by
    have := List.take_succ_eq_append_getElem (show m < rows.length by omega)
    rw [List.take_of_length_le (by omega)] at this
    rw [List.getD_eq_getElem?_getD, List.getElem?_eq_getElem (by omega)]
    exact this
  have h2 : colN (rows.take m) ^^^ rows.getD m 0 = 0 := by
    rw [e, col_append] at h
    simpa [colN] using h
  have h3 : colN (rows.take m) = rows.getD m 0 := by
    have := congrArg (· ^^^ rows.getD m 0) h2
    simpa [Nat.xor_assoc] using this
  rw [h3]
  exact e.symm

/-! there and back -/
theorem read_lay (zs : List Nat) (h : ∀ z ∈ zs, z < 256) : readN (layLN (zs ++ [colN zs])) = some (zs, -1) := by
  have hy : ∀ y ∈ zs ++ [colN zs], y < 256 := by
    intro y hy
    rcases List.mem_append.1 hy with h1 | h1
    · exact h y h1
    · simp at h1; subst h1; exact col_lt zs h
  unfold readN
  rw [brkL_nil.2 (fun p hp => lay_whole _ p (by rw [layLN_length] at hp; omega))]
  simp only [rows_lay _ hy, sealN, col_seal, if_true]
  simp

end Go.Proofs.YtgdmagmbkmgdfabDoor
