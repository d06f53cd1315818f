/-
  SEAT Ytoaahellfflooaa: what is left behind a header.
-/
import Derived.Test.YtoaahellfflooaaRM
namespace Go.Proofs.Ytoaahellfflooaa
open Go.RowKit
set_option linter.unusedVariables false


theorem getL_one (zs : List Int) (p : Nat) : getL zs p 1 = zs.getD p 0 := by simp [getL]
theorem num_pos (zs : List Int) (len : Nat) (p size : Nat) (L : Int) (hL : L = (len : Int) - p) (h : p + size ≤ len) : numV zs len L size = getL zs p size := by
  subst hL
  unfold numV atN
  rw [if_pos (by omega), show ((len : Int) - ((len : Int) - p)).toNat = p by omega]
theorem num_neg (zs : List Int) (len size : Nat) (L : Int) (h : L < size) : numV zs len L size = 0 := by
  unfold numV
  rw [if_neg (by omega)]
theorem piece_pos (zs : List Int) (len : Nat) (p size : Nat) (L : Int) (hL : L = (len : Int) - p) (h : p + size ≤ len) : pieceV zs len L size = (zs.drop p).take size := by
  subst hL
  unfold pieceV atN
  rw [if_pos (by omega), show ((len : Int) - ((len : Int) - p)).toNat = p by omega]

/-- How long the name is, and the target. -/
def kN (zs : List Int) : Nat := (zs.getD 23 0).toNat
def tN (zs : List Int) : Nat := (zs.getD (24 + kN zs) 0).toNat
/-- Do the bytes end just where a header ends? -/
def fitsN (zs : List Int) (len : Nat) : Prop := 24 ≤ len ∧ 24 + kN zs + 1 ≤ len ∧ len = 24 + kN zs + 1 + tN zs
/-- What the closures tell of the two lengths. -/
def kV (zs : List Int) (len : Nat) : Nat := (numV zs len ((len : Int) - 23) 1).toNat
def tV (zs : List Int) (len : Nat) : Nat := (numV zs len ((len : Int) - 24 - kV zs len) 1).toNat

theorem kV_eq (zs : List Int) (len : Nat) (h : 24 ≤ len) : kV zs len = kN zs := by
  unfold kV kN
  rw [num_pos zs len 23 1 _ (by omega) (by omega), getL_one]
theorem end_iff (zs : List Int) (len : Nat) : (len : Int) - 25 - kV zs len - tV zs len = 0 ↔ fitsN zs len := by
  unfold fitsN
  by_cases h : 24 ≤ len
  · by_cases h2 : 24 + kN zs + 1 ≤ len
    · have e : tV zs len = tN zs := by
        unfold tV tN
        rw [kV_eq zs len h, num_pos zs len (24 + kN zs) 1 _ (by omega) (by omega), getL_one]
      rw [kV_eq zs len h, e]
      omega
    · have e : tV zs len = 0 := by
        unfold tV
        rw [num_neg _ _ _ _ (by rw [kV_eq zs len h]; omega)]
        rfl
      rw [kV_eq zs len h, e]
      omega
  · have e : kV zs len = 0 := by
      unfold kV
      rw [num_neg _ _ _ _ (by omega)]
      rfl
    have e2 : tV zs len = 0 := by
      unfold tV
      rw [e, num_neg _ _ _ _ (by omega)]
      rfl
    rw [e, e2]
    omega

end Go.Proofs.Ytoaahellfflooaa
