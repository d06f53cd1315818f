/-
  SEAT YtgdmagmbkmgdfabDoor: one bit turned, two bits turned, over numbers.
-/
import Derived.Test.YtgdmagmbkmgdfabDoorRdP
namespace Go.Proofs.YtgdmagmbkmgdfabDoor
set_option linter.unusedVariables false

/-- A byte with one bit cleared. -/
def clr (y c : Nat) : Nat := y - y / 2 ^ c % 2 * 2 ^ c
theorem clr_mend : ∀ y : Nat, y < 256 → ∀ c : Nat, c < 8 → clr y c ||| ((y ^^^ clr y c) &&& 2 ^ c) = y := by decide +kernel
theorem lob_lay : ∀ n : Nat, n < 16 → ∀ k : Nat, k < 4 → lob (layN n) k = n / 2 ^ k % 2 := by decide +kernel

theorem getD_set_self (xs : List Nat) (q v : Nat) (h : q < xs.length) : (xs.set q v).getD q 0 = v := by
  rw [List.getD_eq_getElem?_getD, List.getElem?_set_self h]; rfl
theorem getD_set_ne (xs : List Nat) (q i v : Nat) (h : q ≠ i) : (xs.set q v).getD i 0 = xs.getD i 0 := by
  rw [List.getD_eq_getElem?_getD, List.getElem?_set_ne h, ← List.getD_eq_getElem?_getD]

theorem brk_set (ys : List Nat) (q z p : Nat) (hq : q < 2 * ys.length) (hp : p < 8 * ys.length) : brokenAt ((layLN ys).set q z) p = if p / 4 = q then bkn z (p % 4) else false := by
  have hl := layLN_length ys
  unfold brokenAt
  by_cases h : p / 4 = q
  · rw [if_pos h, h, getD_set_self _ _ _ (by omega)]
  · rw [if_neg h, getD_set_ne _ _ _ _ (fun e => h e.symm)]
    exact lay_whole ys p hp

/-- The rows of a laying of which one byte is another. -/
theorem rows_set (ys : List Nat) (hy : ∀ y ∈ ys, y < 256) (q z : Nat) (hq : q < 2 * ys.length) : rowsOf ((layLN ys).set q z) = ys.set (q / 2) (if q % 2 = 0 then lw z + ys.getD (q / 2) 0 / 16 * 16 else ys.getD (q / 2) 0 % 16 + 16 * lw z) := by
  have hl := layLN_length ys
  have hl2 : ((layLN ys).set q z).length = 2 * ys.length := by simp [hl]
  have h1 := rowsOf_length _ _ hl2
  apply List.ext_getElem (by simp [h1])
  intro r ha hb
  have hr : r < ys.length := by omega
  have e1 := rowsOf_getD _ _ hl2 r hr
  have e0 := rowsOf_getD (layLN ys) ys.length hl r hr
  rw [rows_lay ys hy] at e0
  rw [List.getD_eq_getElem?_getD, List.getElem?_eq_getElem ha] at e1
  simp only [Option.getD_some] at e1
  rw [e1, List.getElem_set]
  have hyr : ys.getD r 0 = ys[r] := by rw [List.getD_eq_getElem?_getD, List.getElem?_eq_getElem hr]; rfl
  have w0 := lw_lt ((layLN ys).getD (2 * r) 0)
  have w1 := lw_lt ((layLN ys).getD (2 * r + 1) 0)
  by_cases h : q / 2 = r
  · rw [if_pos h]
    subst h
    by_cases h2 : q % 2 = 0
    · rw [if_pos h2]
      have eq : 2 * (q / 2) = q := by omega
      rw [eq] at e0 w0 w1 ⊢
      rw [getD_set_self _ _ _ (by omega), getD_set_ne _ _ _ _ (by omega)]
      omega
    · rw [if_neg h2]
      have eq : 2 * (q / 2) + 1 = q := by omega
      rw [eq] at e0 w1 ⊢
      rw [getD_set_self _ _ _ (by omega), getD_set_ne _ _ _ _ (by omega)]
      omega
  · rw [if_neg h, getD_set_ne _ _ _ _ (by omega), getD_set_ne _ _ _ _ (by omega), ← e0, hyr]
end Go.Proofs.YtgdmagmbkmgdfabDoor
