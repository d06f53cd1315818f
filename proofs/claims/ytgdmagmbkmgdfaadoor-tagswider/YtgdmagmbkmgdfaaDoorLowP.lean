/-
  SEAT YtgdmagmbkmgdfaaDoor: all lower bits; the document's mend.
-/
import Derived.Test.YtgdmagmbkmgdfaaDoorOneP
namespace Go.Proofs.YtgdmagmbkmgdfaaDoor
set_option linter.unusedVariables false

/-- The lower bits of a byte's pairs, whether broken or not. -/
def loA (z k : Nat) : Nat := z / 4 ^ k % 2
theorem loA_le (z k : Nat) : loA z k ≤ 1 := by have := Nat.mod_lt (z / 4 ^ k) (show 2 > 0 by omega); unfold loA; omega
def lwA (z : Nat) : Nat := loA z 0 + 2 * loA z 1 + 4 * loA z 2 + 8 * loA z 3

def lowP (xs : List Nat) (m : Nat) : Nat → List Nat
  | 0 => List.replicate m 0
  | p + 1 => (lowP xs m p).set (p / 8) ((lowP xs m p).getD (p / 8) 0 ||| loA (xs.getD (p / 4) 0) (p % 4) * 2 ^ (p % 8))

theorem lowP_length (xs : List Nat) (m p : Nat) : (lowP xs m p).length = m := by
  induction p with
  | zero => simp [lowP]
  | succ p ih => unfold lowP; simp [ih]

def accL (xs : List Nat) (r : Nat) : Nat → Nat
  | 0 => 0
  | j + 1 => accL xs r j ||| loA (xs.getD ((8 * r + j) / 4) 0) ((8 * r + j) % 4) * 2 ^ j

theorem lowP_getD (xs : List Nat) (m p r : Nat) (hr : r < m) : (lowP xs m p).getD r 0 = accL xs r (min 8 (p - 8 * r)) := by
  induction p with
  | zero => simp [lowP, accL, List.getD_eq_getElem?_getD, hr]
  | succ p ih =>
    unfold lowP
    by_cases hin : p / 8 = r
    · have e1 : min 8 (p - 8 * r) = p % 8 := by omega
      have e2 : min 8 (p + 1 - 8 * r) = p % 8 + 1 := by omega
      have e3 : 8 * r + p % 8 = p := by omega
      rw [e1] at ih
      rw [e2, accL, e3, hin, ih, List.getD_eq_getElem?_getD, List.getElem?_set_self (by rw [lowP_length]; exact hr)]
      rfl
    · have e1 : min 8 (p + 1 - 8 * r) = min 8 (p - 8 * r) := by omega
      rw [e1, ← ih, List.getD_eq_getElem?_getD, List.getElem?_set_ne hin, ← List.getD_eq_getElem?_getD]

theorem accL_step (xs : List Nat) (r j : Nat) (h : accL xs r j < 2 ^ j) : accL xs r (j + 1) = accL xs r j + loA (xs.getD ((8 * r + j) / 4) 0) ((8 * r + j) % 4) * 2 ^ j ∧ accL xs r (j + 1) < 2 ^ (j + 1) := by
  have hl := loA_le (xs.getD ((8 * r + j) / 4) 0) ((8 * r + j) % 4)
  have e : accL xs r (j + 1) = accL xs r j + loA (xs.getD ((8 * r + j) / 4) 0) ((8 * r + j) % 4) * 2 ^ j := by
    rw [accL, or_add _ _ _ h hl]
  refine ⟨e, ?_⟩
  rw [e, Nat.pow_succ]
  have : loA (xs.getD ((8 * r + j) / 4) 0) ((8 * r + j) % 4) * 2 ^ j ≤ 1 * 2 ^ j := Nat.mul_le_mul_right _ hl
  omega

theorem accL_lt (xs : List Nat) (r j : Nat) : accL xs r j < 2 ^ j := by
  induction j with
  | zero => simp [accL]
  | succ j ih => exact (accL_step xs r j ih).2

theorem accL_8 (xs : List Nat) (r : Nat) : accL xs r 8 = lwA (xs.getD (2 * r) 0) + 16 * lwA (xs.getD (2 * r + 1) 0) := by
  have h0 := (accL_step xs r 0 (accL_lt xs r 0)).1
  have h1 := (accL_step xs r 1 (accL_lt xs r 1)).1
  have h2 := (accL_step xs r 2 (accL_lt xs r 2)).1
  have h3 := (accL_step xs r 3 (accL_lt xs r 3)).1
  have h4 := (accL_step xs r 4 (accL_lt xs r 4)).1
  have h5 := (accL_step xs r 5 (accL_lt xs r 5)).1
  have h6 := (accL_step xs r 6 (accL_lt xs r 6)).1
  have h7 := (accL_step xs r 7 (accL_lt xs r 7)).1
  rw [show (8 * r + 0) / 4 = 2 * r by omega, show (8 * r + 0) % 4 = 0 by omega] at h0
  rw [show (8 * r + 1) / 4 = 2 * r by omega, show (8 * r + 1) % 4 = 1 by omega] at h1
  rw [show (8 * r + 2) / 4 = 2 * r by omega, show (8 * r + 2) % 4 = 2 by omega] at h2
  rw [show (8 * r + 3) / 4 = 2 * r by omega, show (8 * r + 3) % 4 = 3 by omega] at h3
  rw [show (8 * r + 4) / 4 = 2 * r + 1 by omega, show (8 * r + 4) % 4 = 0 by omega] at h4
  rw [show (8 * r + 5) / 4 = 2 * r + 1 by omega, show (8 * r + 5) % 4 = 1 by omega] at h5
  rw [show (8 * r + 6) / 4 = 2 * r + 1 by omega, show (8 * r + 6) % 4 = 2 by omega] at h6
  rw [show (8 * r + 7) / 4 = 2 * r + 1 by omega, show (8 * r + 7) % 4 = 3 by omega] at h7
  have z : accL xs r 0 = 0 := rfl
  simp only [Nat.zero_add, Nat.reduceAdd, Nat.reducePow] at h0 h1 h2 h3 h4 h5 h6 h7
  unfold lwA
  omega

theorem lowP_lt (xs : List Nat) (m p : Nat) : ∀ x ∈ lowP xs m p, x < 256 := by
  intro x hx
  obtain ⟨r, hr, rfl⟩ := List.getElem_of_mem hx
  have hr' : r < m := by rw [lowP_length] at hr; exact hr
  have e := lowP_getD xs m p r hr'
  have h1 := accL_lt xs r (min 8 (p - 8 * r))
  have h2 : 2 ^ (min 8 (p - 8 * r)) ≤ 2 ^ 8 := Nat.pow_le_pow_right (by omega) (by omega)
  rw [List.getD_eq_getElem?_getD, List.getElem?_eq_getElem hr] at e
  simp at e
  omega

/-- The rows of all lower bits. -/
def lowA (xs : List Nat) (m : Nat) : List Nat := lowP xs m (8 * m)

theorem lowA_getD (xs : List Nat) (m r : Nat) (hr : r < m) : (lowA xs m).getD r 0 = lwA (xs.getD (2 * r) 0) + 16 * lwA (xs.getD (2 * r + 1) 0) := by
  unfold lowA
  rw [lowP_getD xs m _ r hr, show min 8 (8 * m - 8 * r) = 8 by omega, accL_8]

theorem lw_whole : ∀ z : Nat, z < 256 → (bkn z 0 || bkn z 1 || bkn z 2 || bkn z 3) = false → lwA z = lw z := by decide +kernel
theorem lw_one : ∀ z : Nat, z < 256 → ∀ k : Nat, k < 4 → ((bkn z 0 == decide (0 = k)) && (bkn z 1 == decide (1 = k)) && (bkn z 2 == decide (2 = k)) && (bkn z 3 == decide (3 = k))) = true → lwA z = lw z ||| loA z k * 2 ^ k := by decide +kernel
theorem lw_clear : ∀ z : Nat, z < 256 → ∀ k : Nat, k < 4 → bkn z k = true → lw z / 2 ^ k % 2 = 0 := by decide +kernel

theorem low_none (xs : List Nat) (m : Nat) (hl : xs.length = 2 * m) (hx : ∀ x ∈ xs, x < 256) (h : brkL xs (4 * xs.length) = []) : lowA xs m = rowsOf xs := by
  have hb : ∀ q k, q < 2 * m → k < 4 → bkn (xs.getD q 0) k = false := by
    intro q k hq hk
    have := brkL_nil.1 h (4 * q + k) (by omega)
    rwa [brokenAt_at xs q k hk] at this
  have hw : ∀ q, q < 2 * m → lwA (xs.getD q 0) = lw (xs.getD q 0) := fun q hq => lw_whole _ (at_lt hx _) (by rw [hb q 0 hq (by omega), hb q 1 hq (by omega), hb q 2 hq (by omega), hb q 3 hq (by omega)]; rfl)
  refine ext_getD _ _ (by rw [lowA, lowP_length, rowsOf_length xs m hl]) fun r hr => ?_
  have hr' : r < m := by rw [lowA, lowP_length] at hr; exact hr
  rw [lowA_getD xs m r hr', rowsOf_getD xs m hl r hr', hw _ (by omega), hw _ (by omega)]

theorem or_low2 : ∀ a : Nat, a < 16 → ∀ c : Nat, c < 16 → ∀ k : Nat, k < 4 → ∀ b : Nat, b < 2 → (a ||| b * 2 ^ k) + 16 * c = (a + 16 * c) ||| b * 2 ^ k ∧ a + 16 * (c ||| b * 2 ^ k) = (a + 16 * c) ||| b * 2 ^ (4 + k) := by decide +kernel

theorem low_one (xs : List Nat) (m p : Nat) (hl : xs.length = 2 * m) (hx : ∀ x ∈ xs, x < 256) (h : brkL xs (4 * xs.length) = [p]) : ∃ v, v < 2 ∧ p / 8 < m ∧ lowA xs m = (rowsOf xs).set (p / 8) ((rowsOf xs).getD (p / 8) 0 ||| v * 2 ^ (p % 8)) ∧ (rowsOf xs).getD (p / 8) 0 / 2 ^ (p % 8) % 2 = 0 := by
  obtain ⟨hp, hbk⟩ := brkL_one_inv h
  have hrl := rowsOf_length xs m hl
  have hb4 : ∀ q t, q < 2 * m → t < 4 → bkn (xs.getD q 0) t = decide (4 * q + t = p) := by
    intro q t hq ht
    have := hbk (4 * q + t) (by omega)
    rwa [brokenAt_at xs q t ht] at this
  have hw : ∀ q, q < 2 * m → q ≠ p / 4 → lwA (xs.getD q 0) = lw (xs.getD q 0) := fun q hq hne => lw_whole _ (at_lt hx _) (by
    rw [hb4 q 0 hq (by omega), hb4 q 1 hq (by omega), hb4 q 2 hq (by omega), hb4 q 3 hq (by omega), decide_eq_false (by omega), decide_eq_false (by omega), decide_eq_false (by omega), decide_eq_false (by omega)]; rfl)
  have hbp : ∀ t, t < 4 → bkn (xs.getD (p / 4) 0) t = decide (t = p % 4) := by
    intro t ht
    rw [hb4 _ t (by omega) ht]
    exact decide_eq_decide.2 (by omega)
  have ho := lw_one (xs.getD (p / 4) 0) (at_lt hx _) (p % 4) (Nat.mod_lt _ (by omega)) (by
    rw [hbp 0 (by omega), hbp 1 (by omega), hbp 2 (by omega), hbp 3 (by omega)]; simp)
  have hcl := lw_clear (xs.getD (p / 4) 0) (at_lt hx _) (p % 4) (Nat.mod_lt _ (by omega)) (by rw [hb4 _ _ (by omega) (Nat.mod_lt _ (by omega))]; exact decide_eq_true (by omega))
  have hv : loA (xs.getD (p / 4) 0) (p % 4) < 2 := by have := loA_le (xs.getD (p / 4) 0) (p % 4); omega
  have hp8 : p / 8 < m := by omega
  have g8 := rowsOf_getD xs m hl (p / 8) hp8
  have l0 := lw_lt (xs.getD (2 * (p / 8)) 0)
  have l1 := lw_lt (xs.getD (2 * (p / 8) + 1) 0)
  refine ⟨_, hv, hp8, ?_, ?_⟩
  · refine ext_getD _ _ (by simp [lowA, lowP_length, hrl]) fun r hr => ?_
    have hr' : r < m := by rw [lowA, lowP_length] at hr; exact hr
    rw [lowA_getD xs m r hr']
    by_cases hrp : p / 8 = r
    · rw [hrp, getD_set_self _ _ _ (by omega), ← hrp, g8]
      obtain ⟨o1, o2⟩ := or_low2 _ l0 _ l1 (p % 4) (Nat.mod_lt _ (by omega)) _ hv
      by_cases hlow : p % 8 < 4
      · rw [show 2 * (p / 8) = p / 4 by omega] at o1 ⊢
        rw [show p % 8 = p % 4 by omega, ho, hw _ (by omega) (by omega)]
        exact o1
      · rw [show 2 * (p / 8) + 1 = p / 4 by omega] at o2 ⊢
        rw [show p % 8 = 4 + p % 4 by omega, ho, hw _ (by omega) (by omega)]
        exact o2
    · rw [getD_set_ne _ _ _ _ hrp, rowsOf_getD xs m hl r hr', hw _ (by omega) (by omega), hw _ (by omega) (by omega)]
  · rw [g8]
    by_cases hlow : p % 8 < 4
    · rw [show 2 * (p / 8) = p / 4 by omega] at l0 ⊢
      rw [show p % 8 = p % 4 by omega]
      have hk : p % 4 = 0 ∨ p % 4 = 1 ∨ p % 4 = 2 ∨ p % 4 = 3 := by omega
      rcases hk with hk | hk | hk | hk <;> rw [hk] at hcl ⊢ <;> simp only [Nat.reducePow] at hcl ⊢ <;> omega
    · rw [show 2 * (p / 8) + 1 = p / 4 by omega] at l1 ⊢
      rw [show p % 8 = 4 + p % 4 by omega]
      have hk : p % 4 = 0 ∨ p % 4 = 1 ∨ p % 4 = 2 ∨ p % 4 = 3 := by omega
      rcases hk with hk | hk | hk | hk <;> rw [hk] at hcl ⊢ <;> simp only [Nat.reducePow, Nat.reduceAdd] at hcl ⊢ <;> omega

/-- What the document's mend comes to. -/
def flipC (rows : List Nat) (p : Nat) : List Nat := if colN rows / 2 ^ (p % 8) % 2 = 1 then rows.set (p / 8) (rows.getD (p / 8) 0 ^^^ 2 ^ (p % 8)) else rows

theorem flip_byte : ∀ R : Nat, R < 256 → ∀ c : Nat, c < 8 → R / 2 ^ c % 2 = 0 → R ^^^ (R ||| 2 ^ c) = 2 ^ c ∧ R ^^^ 2 ^ c = R ||| 2 ^ c ∧ (R ||| 2 ^ c) ^^^ 2 ^ c = R := by decide +kernel
theorem flip_col : ∀ s : Nat, s < 256 → ∀ c : Nat, c < 8 → (s ^^^ 2 ^ c) / 2 ^ c % 2 = 1 - s / 2 ^ c % 2 := by decide +kernel

theorem flip_mend (rows : List Nat) (p v : Nat) (hr : ∀ x ∈ rows, x < 256) (hp : p / 8 < rows.length) (hv : v < 2) (h0 : rows.getD (p / 8) 0 / 2 ^ (p % 8) % 2 = 0) :
    flipC (rows.set (p / 8) (rows.getD (p / 8) 0 ||| v * 2 ^ (p % 8))) p = mendN rows p := by
  have hR : rows.getD (p / 8) 0 < 256 := at_lt hr _
  have hs : colN rows < 256 := col_lt rows hr
  have hc : p % 8 < 8 := Nat.mod_lt _ (by omega)
  obtain ⟨f1, f2, f3⟩ := flip_byte _ hR _ hc h0
  have hcs := col_set rows (p / 8) (rows.getD (p / 8) 0 ||| v * 2 ^ (p % 8)) hp
  have hself : rows.set (p / 8) (rows.getD (p / 8) 0) = rows := by
    refine ext_getD _ _ (by simp) fun i hi => ?_
    by_cases e : p / 8 = i
    · rw [← e, getD_set_self _ _ _ hp]
    · rw [getD_set_ne _ _ _ _ e]
  have hab := and_bit0 _ hs _ hc
  have hb : colN rows / 2 ^ (p % 8) % 2 = 0 ∨ colN rows / 2 ^ (p % 8) % 2 = 1 := by have := Nat.mod_lt (colN rows / 2 ^ (p % 8)) (show 2 > 0 by omega); omega
  have hset : ∀ a b : Nat, (rows.set (p / 8) a).set (p / 8) b = rows.set (p / 8) b := fun a b => List.set_set ..
  unfold flipC mendN
  rw [hab]
  rcases (show v = 0 ∨ v = 1 by omega) with rfl | rfl
  · rw [Nat.zero_mul, Nat.or_zero, hself]
    rcases hb with hb | hb
    · rw [if_neg (by omega), hb, Nat.zero_mul, Nat.or_zero, hself]
    · rw [if_pos hb, hb, Nat.one_mul, f2]
  · rw [Nat.one_mul] at hcs ⊢
    rw [Nat.xor_assoc, f1] at hcs
    rw [hcs, flip_col _ hs _ hc, getD_set_self _ _ _ hp]
    rcases hb with hb | hb
    · rw [hb, if_pos rfl, hset, f3, Nat.zero_mul, Nat.or_zero]
    · rw [hb, if_neg (by omega), Nat.one_mul]

theorem flip_low (xs : List Nat) (m p : Nat) (hl : xs.length = 2 * m) (hx : ∀ x ∈ xs, x < 256) (h : brkL xs (4 * xs.length) = [p]) : flipC (lowA xs m) p = mendN (rowsOf xs) p := by
  obtain ⟨v, hv, hp, he, h0⟩ := low_one xs m p hl hx h
  rw [he]
  exact flip_mend (rowsOf xs) p v (rows_lt xs m hl) (by rw [rowsOf_length xs m hl]; exact hp) hv h0
end Go.Proofs.YtgdmagmbkmgdfaaDoor
