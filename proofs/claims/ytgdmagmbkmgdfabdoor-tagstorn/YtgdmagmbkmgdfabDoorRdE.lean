/-
  SEAT YtgdmagmbkmgdfabDoor: one bit turned is put right, two are refused.
-/
import Derived.Test.YtgdmagmbkmgdfabDoorRdD
namespace Go.Proofs.YtgdmagmbkmgdfabDoor
set_option linter.unusedVariables false

/-- A bit turned. -/
def turnN (xs : List Nat) (i : Nat) : List Nat := xs.set (i / 8) (xs.getD (i / 8) 0 ^^^ 2 ^ (i % 8))

theorem t1_bkn : ∀ n : Nat, n < 16 → ∀ j : Nat, j < 8 → ∀ k : Nat, k < 4 → bkn (layN n ^^^ 2 ^ j) k = decide (k = j / 2) := by decide +kernel
theorem t1_lw : ∀ n : Nat, n < 16 → ∀ j : Nat, j < 8 → lw (layN n ^^^ 2 ^ j) = clr n (j / 2) := by decide +kernel
theorem t2_bkn : ∀ n : Nat, n < 16 → ∀ i : Nat, i < 8 → ∀ j : Nat, j < 8 → i / 2 ≠ j / 2 → bkn (layN n ^^^ 2 ^ i ^^^ 2 ^ j) (i / 2) = true ∧ bkn (layN n ^^^ 2 ^ i ^^^ 2 ^ j) (j / 2) = true := by decide +kernel
theorem t2_pair0 : ∀ n : Nat, n < 16 → ∀ i : Nat, i < 8 → ∀ j : Nat, j < 8 → ∀ k : Nat, k < 4 → (i == j || i / 2 != j / 2 || !bkn (layN n ^^^ 2 ^ i ^^^ 2 ^ j) k) = true := by decide +kernel
theorem t2_pair1 (n : Nat) (hn : n < 16) (i : Nat) (hi : i < 8) (j : Nat) (hj : j < 8) (k : Nat) (hk : k < 4) : i = j ∨ i / 2 ≠ j / 2 ∨ bkn (layN n ^^^ 2 ^ i ^^^ 2 ^ j) k = false := by
  have := t2_pair0 n hn i hi j hj k hk
  simp only [Bool.or_eq_true, beq_iff_eq, bne_iff_ne, Bool.not_eq_true'] at this
  rcases this with (h | h) | h
  · exact Or.inl h
  · exact Or.inr (Or.inl h)
  · exact Or.inr (Or.inr h)
theorem t2_pair2 : ∀ n : Nat, n < 16 → ∀ i : Nat, i < 8 → ∀ j : Nat, j < 8 → i = j ∨ i / 2 ≠ j / 2 ∨ lw (layN n ^^^ 2 ^ i ^^^ 2 ^ j) = n ^^^ 2 ^ (i / 2) := by decide +kernel
theorem clr_low : ∀ y : Nat, y < 256 → ∀ k : Nat, k < 4 → clr (y % 16) k + y / 16 * 16 = clr y k ∧ y % 16 + 16 * clr (y / 16) k = clr y (4 + k) := by decide +kernel
theorem xor_low : ∀ y : Nat, y < 256 → ∀ k : Nat, k < 4 → (y % 16 ^^^ 2 ^ k) + y / 16 * 16 = y ^^^ 2 ^ k ∧ y % 16 + 16 * (y / 16 ^^^ 2 ^ k) = y ^^^ 2 ^ (4 + k) := by decide +kernel

theorem nib (ys : List Nat) (hy : ∀ y ∈ ys, y < 256) (q : Nat) (hq : q < 2 * ys.length) : ∃ n, n < 16 ∧ (layLN ys).getD q 0 = layN n ∧ n = ys.getD (q / 2) 0 / 16 ^ (q % 2) % 16 :=
  ⟨_, Nat.mod_lt _ (by omega), by rw [lay_getD ys q hq, layN_mod], rfl⟩

theorem byteN (ys : List Nat) (hy : ∀ y ∈ ys, y < 256) (r : Nat) (hr : r < ys.length) : ys.getD r 0 < 256 := by
  rw [List.getD_eq_getElem?_getD, List.getElem?_eq_getElem hr]
  exact hy _ (List.getElem_mem _)

theorem read_turn (ys : List Nat) (hy : ∀ y ∈ ys, y < 256) (h0 : colN ys = 0) (i : Nat) (hi : i < 16 * ys.length) : readN (turnN (layLN ys) i) = some (ys.take (ys.length - 1), ((i / 2 : Nat) : Int)) := by
  have hl := layLN_length ys
  have hq : i / 8 < 2 * ys.length := by omega
  obtain ⟨n, hn, hx, hne⟩ := nib ys hy (i / 8) hq
  have hr : i / 8 / 2 < ys.length := by omega
  have hyr := byteN ys hy (i / 8 / 2) hr
  unfold turnN
  rw [hx]
  have hbr : brkL ((layLN ys).set (i / 8) (layN n ^^^ 2 ^ (i % 8))) (4 * ((layLN ys).set (i / 8) (layN n ^^^ 2 ^ (i % 8))).length) = [i / 2] := by
    have hll : ((layLN ys).set (i / 8) (layN n ^^^ 2 ^ (i % 8))).length = 2 * ys.length := by simp [hl]
    rw [hll]
    refine brkL_one (by omega) fun p hp => ?_
    rw [brk_set ys _ _ p hq (by omega)]
    by_cases h : p / 4 = i / 8
    · rw [if_pos h, t1_bkn n hn _ (by omega) _ (by omega), decide_eq_decide]
      omega
    · rw [if_neg h]
      symm
      rw [decide_eq_false_iff_not]
      omega
  unfold readN
  rw [hbr]
  have hrows := rows_set ys hy (i / 8) (layN n ^^^ 2 ^ (i % 8)) hq
  have hv : (if i / 8 % 2 = 0 then lw (layN n ^^^ 2 ^ (i % 8)) + ys.getD (i / 8 / 2) 0 / 16 * 16 else ys.getD (i / 8 / 2) 0 % 16 + 16 * lw (layN n ^^^ 2 ^ (i % 8))) = clr (ys.getD (i / 8 / 2) 0) (i / 2 % 8) := by
    rw [t1_lw n hn _ (by omega)]
    have hc := clr_low (ys.getD (i / 8 / 2) 0) hyr (i % 8 / 2) (by omega)
    by_cases h2 : i / 8 % 2 = 0
    · rw [if_pos h2]
      rw [h2] at hne
      simp only [Nat.pow_zero, Nat.div_one] at hne
      rw [hne, hc.1, show i % 8 / 2 = i / 2 % 8 by omega]
    · rw [if_neg h2]
      rw [show i / 8 % 2 = 1 by omega] at hne
      simp only [Nat.pow_one] at hne
      rw [Nat.mod_eq_of_lt (show ys.getD (i / 8 / 2) 0 / 16 < 16 by omega)] at hne
      rw [hne, hc.2, show 4 + i % 8 / 2 = i / 2 % 8 by omega]
  rw [hv] at hrows
  simp only [hrows]
  have hm : mendN (ys.set (i / 8 / 2) (clr (ys.getD (i / 8 / 2) 0) (i / 2 % 8))) (i / 2) = ys := by
    unfold mendN
    rw [show i / 2 / 8 = i / 8 / 2 by omega, getD_set_self _ _ _ hr, col_set _ _ _ hr, h0, Nat.zero_xor, clr_mend _ hyr _ (by omega), List.set_set]
    rw [List.getD_eq_getElem?_getD, List.getElem?_eq_getElem hr]
    simp
  rw [hm]
  unfold sealN
  rw [if_pos h0]

theorem turn_same (xs : List Nat) (i j : Nat) (h : i / 8 = j / 8) (hi : i / 8 < xs.length) : turnN (turnN xs i) j = xs.set (i / 8) (xs.getD (i / 8) 0 ^^^ 2 ^ (i % 8) ^^^ 2 ^ (j % 8)) := by
  unfold turnN
  rw [← h, getD_set_self _ _ _ hi, List.set_set]

theorem turn_back (xs : List Nat) (i : Nat) (hi : i / 8 < xs.length) : turnN (turnN xs i) i = xs := by
  rw [turn_same xs i i rfl hi, Nat.xor_assoc, Nat.xor_self, Nat.xor_zero, List.getD_eq_getElem?_getD, List.getElem?_eq_getElem hi]
  simp

theorem read_turn2 (ys : List Nat) (hy : ∀ y ∈ ys, y < 256) (h0 : colN ys = 0) (i j : Nat) (hi : i < 16 * ys.length) (hj : j < 16 * ys.length) (hne : i ≠ j) : readN (turnN (turnN (layLN ys) i) j) = none := by
  have hl := layLN_length ys
  have hq : i / 8 < 2 * ys.length := by omega
  obtain ⟨n, hn, hx, hnn⟩ := nib ys hy (i / 8) hq
  by_cases hb : i / 8 = j / 8
  · rw [turn_same _ i j hb (by omega), hx]
    have hll : ((layLN ys).set (i / 8) (layN n ^^^ 2 ^ (i % 8) ^^^ 2 ^ (j % 8))).length = 2 * ys.length := by simp [hl]
    by_cases hp : i / 2 = j / 2
    · have hr : i / 8 / 2 < ys.length := by omega
      have hyr := byteN ys hy (i / 8 / 2) hr
      have hnone : brkL ((layLN ys).set (i / 8) (layN n ^^^ 2 ^ (i % 8) ^^^ 2 ^ (j % 8))) (4 * ((layLN ys).set (i / 8) (layN n ^^^ 2 ^ (i % 8) ^^^ 2 ^ (j % 8))).length) = [] := by
        rw [hll]
        refine brkL_nil.2 fun p hpp => ?_
        rw [brk_set ys _ _ p hq (by omega)]
        split
        · rcases t2_pair1 n hn (i % 8) (by omega) (j % 8) (by omega) (p % 4) (by omega) with h | h | h
          · omega
          · omega
          · exact h
        · rfl
      unfold readN
      rw [hnone]
      have hrows := rows_set ys hy (i / 8) (layN n ^^^ 2 ^ (i % 8) ^^^ 2 ^ (j % 8)) hq
      have hlw : lw (layN n ^^^ 2 ^ (i % 8) ^^^ 2 ^ (j % 8)) = n ^^^ 2 ^ (i % 8 / 2) := by
        rcases t2_pair2 n hn (i % 8) (by omega) (j % 8) (by omega) with h | h | h
        · omega
        · omega
        · exact h
      have hxl := xor_low (ys.getD (i / 8 / 2) 0) hyr (i % 8 / 2) (by omega)
      have hv : (if i / 8 % 2 = 0 then lw (layN n ^^^ 2 ^ (i % 8) ^^^ 2 ^ (j % 8)) + ys.getD (i / 8 / 2) 0 / 16 * 16 else ys.getD (i / 8 / 2) 0 % 16 + 16 * lw (layN n ^^^ 2 ^ (i % 8) ^^^ 2 ^ (j % 8))) = ys.getD (i / 8 / 2) 0 ^^^ 2 ^ (i / 2 % 8) := by
        rw [hlw]
        by_cases h2 : i / 8 % 2 = 0
        · rw [if_pos h2]
          rw [h2] at hnn
          simp only [Nat.pow_zero, Nat.div_one] at hnn
          rw [hnn, hxl.1, show i % 8 / 2 = i / 2 % 8 by omega]
        · rw [if_neg h2]
          rw [show i / 8 % 2 = 1 by omega] at hnn
          simp only [Nat.pow_one] at hnn
          rw [Nat.mod_eq_of_lt (show ys.getD (i / 8 / 2) 0 / 16 < 16 by omega)] at hnn
          rw [hnn, hxl.2, show 4 + i % 8 / 2 = i / 2 % 8 by omega]
      rw [hv] at hrows
      simp only [hrows]
      unfold sealN
      rw [if_neg]
      rw [col_set _ _ _ hr, h0, Nat.zero_xor, ← Nat.xor_assoc, Nat.xor_self, Nat.zero_xor]
      exact Nat.ne_of_gt (Nat.two_pow_pos _)
    · refine readN_two ?_
      rw [hll]
      have h2 := t2_bkn n hn (i % 8) (by omega) (j % 8) (by omega) (by omega)
      refine brkL_two (p := i / 2) (q := j / 2) (by omega) (by omega) hp ?_ ?_
      · rw [brk_set ys _ _ _ hq (by omega), if_pos (by omega), show i / 2 % 4 = i % 8 / 2 by omega]
        exact h2.1
      · rw [brk_set ys _ _ _ hq (by omega), if_pos (by omega), show j / 2 % 4 = j % 8 / 2 by omega]
        exact h2.2
  · obtain ⟨n', hn', hx', _⟩ := nib ys hy (j / 8) (by omega)
    refine readN_two ?_
    unfold turnN
    rw [hx, getD_set_ne _ _ _ _ hb, hx']
    have hll : (((layLN ys).set (i / 8) (layN n ^^^ 2 ^ (i % 8))).set (j / 8) (layN n' ^^^ 2 ^ (j % 8))).length = 2 * ys.length := by simp [hl]
    rw [hll]
    refine brkL_two (p := i / 2) (q := j / 2) (by omega) (by omega) (by omega) ?_ ?_
    · unfold brokenAt
      rw [show i / 2 / 4 = i / 8 by omega, getD_set_ne _ _ _ _ (fun e => hb e.symm), getD_set_self _ _ _ (by omega), t1_bkn n hn _ (by omega) _ (by omega)]
      exact decide_eq_true (by omega)
    · unfold brokenAt
      rw [show j / 2 / 4 = j / 8 by omega, getD_set_self _ _ _ (by simp [hl]; omega), t1_bkn n' hn' _ (by omega) _ (by omega)]
      exact decide_eq_true (by omega)
end Go.Proofs.YtgdmagmbkmgdfabDoor
