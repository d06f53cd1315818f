/-
  SEAT Ytjginocbbnmgaaa: trees of a fixed width: keys and digits.
-/
import Derived.RowKit
namespace Go.Proofs.Ytjginocbbnmgaaa
set_option linter.unusedVariables false

/-- What lies at each number. -/
abbrev Mp := Nat → Option Int
def upd (M : Mp) (k : Nat) (v : Int) : Mp := fun j => if j = k then some v else M j
/-- What lies below the pointer i of a node whose children have s keys each. -/
def sub (M : Mp) (s i : Nat) : Mp := fun k => M (i * s + k)
/-- How many keys so many digits have. -/
def spn (d : Nat) : Nat := 16 ^ d
theorem spn_pos (d : Nat) : 0 < spn d := Nat.pow_pos (by omega)
theorem spn_succ (d : Nat) : spn (d + 1) = 16 * spn d := by unfold spn; rw [Nat.pow_succ]; omega
/-- Nothing at the first s numbers. -/
def Void (M : Mp) (s : Nat) : Prop := ∀ k, k < s → M k = none
theorem sub_lt {s i k : Nat} (hi : i < 16) (hk : k < s) : i * s + k < 16 * s := by
  have : i * s + s ≤ 16 * s := by rw [← Nat.succ_mul]; exact Nat.mul_le_mul_right s hi
  omega
theorem split_key {s k : Nat} (hs : 0 < s) (hk : k < 16 * s) : k / s < 16 ∧ k % s < s ∧ k = k / s * s + k % s :=
  ⟨(Nat.div_lt_iff_lt_mul hs).2 hk, Nat.mod_lt _ hs, by rw [Nat.mul_comm]; exact (Nat.div_add_mod k s).symm⟩
theorem void_sub {M : Mp} {s : Nat} (hs : 0 < s) : Void M (16 * s) ↔ ∀ i, i < 16 → Void (sub M s i) s := by
  constructor
  · intro h i hi k hk
    exact h _ (sub_lt hi hk)
  · intro h k hk
    obtain ⟨h1, h2, h3⟩ := split_key hs hk
    rw [h3]
    exact h _ h1 _ h2
theorem sub_upd_same (M : Mp) {s k : Nat} (hs : 0 < s) (v : Int) : ∀ j, j < s → sub (upd M k v) s (k / s) j = upd (sub M s (k / s)) (k % s) v j := by
  intro j hj
  unfold sub upd
  have hdm := Nat.div_add_mod k s
  have e : (k / s * s + j = k) ↔ (j = k % s) := by
    have : k / s * s = s * (k / s) := Nat.mul_comm _ _
    constructor <;> intro h <;> omega
  simp only [e]
theorem sub_upd_other (M : Mp) {s k i : Nat} (hs : 0 < s) (v : Int) (hi : i ≠ k / s) : ∀ j, j < s → sub (upd M k v) s i j = sub M s i j := by
  intro j hj
  unfold sub upd
  rw [if_neg]
  intro h
  apply hi
  have := congrArg (· / s) h
  simp only [Nat.mul_comm i s, Nat.mul_add_div hs, Nat.div_eq_of_lt hj] at this
  omega
/-- A key's digit. -/
def dig (k l : Nat) : Nat := k / spn l % 16
theorem dig_lt (k l : Nat) : dig k l < 16 := Nat.mod_lt _ (by omega)
theorem dig_top (k l : Nat) : k % spn (l + 1) / spn l = dig k l := by
  unfold dig
  rw [spn_succ, Nat.mul_comm, Nat.mod_mul_right_div_self]
theorem mod_mod (k l : Nat) : k % spn (l + 1) % spn l = k % spn l := by
  rw [spn_succ]
  exact Nat.mod_mod_of_dvd _ ⟨16, Nat.mul_comm _ _⟩
end Go.Proofs.Ytjginocbbnmgaaa
