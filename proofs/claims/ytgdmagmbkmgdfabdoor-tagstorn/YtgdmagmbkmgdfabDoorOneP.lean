/-
  SEAT YtgdmagmbkmgdfabDoor: what is read, laid again.
-/
import Derived.Test.YtgdmagmbkmgdfabDoorFarP
namespace Go.Proofs.YtgdmagmbkmgdfabDoor
set_option linter.unusedVariables false

/-- Of a byte with one broken pair: with either bit in its place it is laid one bit away. -/
theorem one_nib0 : ∀ z : Nat, z < 256 → ∀ k : Nat, k < 4 → ((bkn z 0 == decide (0 = k)) && (bkn z 1 == decide (1 = k)) && (bkn z 2 == decide (2 = k)) && (bkn z 3 == decide (3 = k))) = true → ∀ b : Nat, b < 2 → layN (lw z ||| b * 2 ^ k) = z ^^^ 2 ^ (2 * k) ∨ layN (lw z ||| b * 2 ^ k) = z ^^^ 2 ^ (2 * k + 1) := by decide +kernel

theorem one_nib (z k b : Nat) (hz : z < 256) (hk : k < 4) (hb : b < 2) (h : ∀ t, t < 4 → bkn z t = decide (t = k)) : ∃ e, e < 2 ∧ layN (lw z ||| b * 2 ^ k) = z ^^^ 2 ^ (2 * k + e) := by
  have := one_nib0 z hz k hk (by rw [h 0 (by omega), h 1 (by omega), h 2 (by omega), h 3 (by omega)]; simp) b hb
  rcases this with h1 | h1
  · exact ⟨0, by omega, h1⟩
  · exact ⟨1, by omega, h1⟩

theorem or_low : ∀ a : Nat, a < 16 → ∀ c : Nat, c < 16 → ∀ k : Nat, k < 4 → ∀ b : Nat, b < 2 → ((a + 16 * c) ||| b * 2 ^ k) % 16 = a ||| b * 2 ^ k ∧ ((a + 16 * c) ||| b * 2 ^ k) / 16 = c := by decide +kernel
theorem or_high : ∀ a : Nat, a < 16 → ∀ c : Nat, c < 16 → ∀ k : Nat, k < 4 → ∀ b : Nat, b < 2 → ((a + 16 * c) ||| b * 2 ^ (4 + k)) % 16 = a ∧ ((a + 16 * c) ||| b * 2 ^ (4 + k)) / 16 = c ||| b * 2 ^ k := by decide +kernel
theorem and_bit0 : ∀ s : Nat, s < 256 → ∀ c : Nat, c < 8 → s &&& 2 ^ c = s / 2 ^ c % 2 * 2 ^ c := by decide +kernel
theorem and_bit (s c : Nat) (hs : s < 256) (hc : c < 8) : ∃ b, b < 2 ∧ s &&& 2 ^ c = b * 2 ^ c :=
  ⟨s / 2 ^ c % 2, Nat.mod_lt _ (by omega), and_bit0 s hs c hc⟩

theorem ext_getD (xs ys : List Nat) (hl : xs.length = ys.length) (h : ∀ i, i < xs.length → xs.getD i 0 = ys.getD i 0) : xs = ys := by
  apply List.ext_getElem hl
  intro i h1 h2
  have := h i h1
  rw [List.getD_eq_getElem?_getD, List.getD_eq_getElem?_getD, List.getElem?_eq_getElem h1, List.getElem?_eq_getElem h2] at this
  simpa using this

theorem at_lt {xs : List Nat} (h : ∀ x ∈ xs, x < 256) (i : Nat) : xs.getD i 0 < 256 := by
  rcases Nat.lt_or_ge i xs.length with h1 | h1
  · rw [List.getD_eq_getElem?_getD, List.getElem?_eq_getElem h1]; exact h _ (List.getElem_mem _)
  · rw [List.getD_eq_getElem?_getD, List.getElem?_eq_none h1]; simp

/-- What is laid of the rows with the broken pair mended. -/
theorem lay_mend (xs : List Nat) (m p : Nat) (hl : xs.length = 2 * m) (hx : ∀ x ∈ xs, x < 256) (h : brkL xs (4 * xs.length) = [p]) : ∃ i, i < 16 * m ∧ p = i / 2 ∧ layLN (mendN (rowsOf xs) p) = turnN xs i := by
  obtain ⟨hp, hbk⟩ := brkL_one_inv h
  obtain ⟨b, hb, hand⟩ := and_bit (colN (rowsOf xs)) (p % 8) (col_lt _ (rows_lt xs m hl)) (Nat.mod_lt _ (by omega))
  have hb4 : ∀ q t, q < 2 * m → t < 4 → bkn (xs.getD q 0) t = decide (4 * q + t = p) := by
    intro q t hq ht
    have := hbk (4 * q + t) (by omega)
    unfold brokenAt at this
    rw [show (4 * q + t) / 4 = q by omega, show (4 * q + t) % 4 = t by omega] at this
    exact this
  have hrl := rowsOf_length xs m hl
  obtain ⟨e, he, hlay⟩ := one_nib (xs.getD (p / 4) 0) (p % 4) b (at_lt hx _) (Nat.mod_lt _ (by omega)) hb (by
    intro t ht
    rw [hb4 (p / 4) t (by omega) ht]
    exact decide_eq_decide.2 (by omega))
  refine ⟨2 * p + e, by omega, by omega, ?_⟩
  have hw : ∀ q, q < 2 * m → q ≠ p / 4 → layN (lw (xs.getD q 0)) = xs.getD q 0 := by
    intro q hq hne
    refine lw_lay _ (at_lt hx _) fun k hk => ?_
    rw [hb4 q k hq hk]
    exact decide_eq_false (by omega)
  apply ext_getD
  · rw [layLN_length]; simp [mendN, turnN, hrl, hl]
  · intro q hq
    rw [layLN_length] at hq
    have hq2 : q < 2 * m := by simpa [mendN, hrl] using hq
    rw [lay_getD _ q (by simpa [mendN, hrl] using hq2)]
    unfold mendN turnN
    rw [hand]
    have l0 := lw_lt (xs.getD (2 * (q / 2)) 0)
    have l1 := lw_lt (xs.getD (2 * (q / 2) + 1) 0)
    have hg := rowsOf_getD xs m hl (q / 2) (by omega)
    by_cases hr : p / 8 = q / 2
    · rw [hr, getD_set_self _ _ _ (by omega), hg]
      rw [show (2 * p + e) / 8 = p / 4 by omega, show (2 * p + e) % 8 = 2 * (p % 4) + e by omega]
      by_cases hlow : p % 8 < 4
      · obtain ⟨o1, o2⟩ := or_low _ l0 _ l1 (p % 8) hlow b hb
        rcases (show q % 2 = 0 ∨ q % 2 = 1 by omega) with h2 | h2
        · rw [h2, Nat.pow_zero, Nat.div_one, layN_mod, o1, show 2 * (q / 2) = p / 4 by omega, show p % 8 = p % 4 by omega, hlay, show p / 4 = q by omega, getD_set_self _ _ _ (by omega)]
        · rw [h2, Nat.pow_one, o2, getD_set_ne _ _ _ _ (by omega), show 2 * (q / 2) + 1 = q by omega, hw q hq2 (by omega)]
      · obtain ⟨o1, o2⟩ := or_high _ l0 _ l1 (p % 4) (Nat.mod_lt _ (by omega)) b hb
        rw [show p % 8 = 4 + p % 4 by omega]
        rcases (show q % 2 = 0 ∨ q % 2 = 1 by omega) with h2 | h2
        · rw [h2, Nat.pow_zero, Nat.div_one, layN_mod, o1, getD_set_ne _ _ _ _ (by omega), show 2 * (q / 2) = q by omega, hw q hq2 (by omega)]
        · rw [h2, Nat.pow_one, o2, show 2 * (q / 2) + 1 = p / 4 by omega, hlay, show p / 4 = q by omega, getD_set_self _ _ _ (by omega)]
    · rw [getD_set_ne _ _ _ _ hr, getD_set_ne _ _ _ _ (by omega), hg]
      rcases (show q % 2 = 0 ∨ q % 2 = 1 by omega) with h2 | h2
      · rw [h2, Nat.pow_zero, Nat.div_one, layN_mod, show (lw (xs.getD (2 * (q / 2)) 0) + 16 * lw (xs.getD (2 * (q / 2) + 1) 0)) % 16 = lw (xs.getD (2 * (q / 2)) 0) by omega, show 2 * (q / 2) = q by omega, hw q hq2 (by omega)]
      · rw [h2, Nat.pow_one, show (lw (xs.getD (2 * (q / 2)) 0) + 16 * lw (xs.getD (2 * (q / 2) + 1) 0)) / 16 = lw (xs.getD (2 * (q / 2) + 1) 0) by omega, show 2 * (q / 2) + 1 = q by omega, hw q hq2 (by omega)]

theorem mend_rows_len (rows : List Nat) (p : Nat) : (mendN rows p).length = rows.length := by simp [mendN]
theorem mend_rows_lt (rows : List Nat) (p : Nat) (h : ∀ x ∈ rows, x < 256) : ∀ x ∈ mendN rows p, x < 256 := by
  intro x hx
  rcases List.mem_or_eq_of_mem_set hx with h1 | h1
  · exact h x h1
  · subst h1
    exact Nat.or_lt_two_pow (n := 8) (at_lt h _) (Nat.lt_of_le_of_lt Nat.and_le_left (col_lt rows h))

theorem read_one (xs : List Nat) (m : Nat) (hl : xs.length = 2 * m) (hm : 1 ≤ m) (hx : ∀ x ∈ xs, x < 256) (zs : List Nat) (n : Int) (h : readN xs = some (zs, n)) :
    zs.length = m - 1 ∧ (∀ z ∈ zs, z < 256) ∧ ((n = -1 ∧ layLN (zs ++ [colN zs]) = xs) ∨ ∃ i, i < 16 * m ∧ n = ((i / 2 : Nat) : Int) ∧ layLN (zs ++ [colN zs]) = turnN xs i) := by
  have hrl := rowsOf_length xs m hl
  have hr := rows_lt xs m hl
  have fin : ∀ (rows : List Nat) (q : Int), rows.length = m → (∀ x ∈ rows, x < 256) → sealN rows q = some (zs, n) → n = q ∧ zs.length = m - 1 ∧ (∀ z ∈ zs, z < 256) ∧ zs ++ [colN zs] = rows := by
    intro rows q h1 h2 h3
    unfold sealN at h3
    by_cases h0 : colN rows = 0
    · rw [if_pos h0] at h3
      simp only [Option.some.injEq, Prod.mk.injEq] at h3
      obtain ⟨rfl, rfl⟩ := h3
      refine ⟨rfl, by simp; omega, fun z hz => h2 z (List.mem_of_mem_take hz), ?_⟩
      rw [h1]
      exact seal_col rows (m - 1) (by omega) h0
    · rw [if_neg h0] at h3; cases h3
  unfold readN at h
  split at h
  · rename_i hL
    obtain ⟨h1, h2, h3, h4⟩ := fin _ _ hrl hr h
    refine ⟨h2, h3, Or.inl ⟨h1, ?_⟩⟩
    rw [h4]
    refine lay_rows xs m hl hx fun x hxm k hk => ?_
    obtain ⟨q, hq, rfl⟩ := List.mem_iff_getElem.1 hxm
    have := brkL_nil.1 hL (4 * q + k) (by omega)
    unfold brokenAt at this
    rw [show (4 * q + k) / 4 = q by omega, show (4 * q + k) % 4 = k by omega, List.getD_eq_getElem?_getD, List.getElem?_eq_getElem hq] at this
    exact this
  · rename_i p hL
    obtain ⟨h1, h2, h3, h4⟩ := fin _ _ ((mend_rows_len _ _).trans hrl) (mend_rows_lt _ _ hr) h
    obtain ⟨i, hi, hpi, hlay⟩ := lay_mend xs m p hl hx hL
    refine ⟨h2, h3, Or.inr ⟨i, hi, by rw [h1, hpi], ?_⟩⟩
    rw [h4, hlay]
  · cases h

theorem pc_pow : ∀ j : Nat, j < 8 → pcK (2 ^ j) 8 = 1 := by decide +kernel

theorem dist_self (xs : List Nat) : distL xs xs = 0 := by
  induction xs with
  | nil => rfl
  | cons x r ih => simp only [distL, Nat.xor_self, ih]; decide

theorem xor_back (x y : Nat) : x ^^^ y ^^^ x = y := by rw [Nat.xor_comm x y, Nat.xor_assoc, Nat.xor_self, Nat.xor_zero]

theorem dist_turn (xs : List Nat) (i : Nat) (h : i < 8 * xs.length) : distL (turnN xs i) xs = 1 := by
  unfold turnN
  have key : ∀ (xs : List Nat) (q j : Nat), q < xs.length → j < 8 → distL (xs.set q (xs.getD q 0 ^^^ 2 ^ j)) xs = 1 := by
    intro xs
    induction xs with
    | nil => intro q j h; simp at h
    | cons x r ih =>
      intro q j h hj
      cases q with
      | zero =>
        simp only [List.set_cons_zero, distL, List.getD_cons_zero, dist_self, xor_back]
        exact pc_pow j hj
      | succ q =>
        simp only [List.set_cons_succ, distL, List.getD_cons_succ, Nat.xor_self]
        rw [ih q j (by simpa using h) hj]
        decide
  exact key xs _ _ (by omega) (by omega)
end Go.Proofs.YtgdmagmbkmgdfabDoor
