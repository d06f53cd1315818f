/-
  SEAT YtgdmagmbkmgdfabDoor: bits that went one way.
-/
import Derived.Test.YtgdmagmbkmgdfabDoorOneP
namespace Go.Proofs.YtgdmagmbkmgdfabDoor
set_option linter.unusedVariables false

/-- Bits that rose, or fell, by a mask. -/
def opN (up : Bool) (z m : Nat) : Nat := if up then z ||| m else z &&& (m ^^^ 255)

def tornL (up : Bool) (xs mask : List Nat) : List Nat := (List.range xs.length).map (fun i => opN up (xs.getD i 0) (mask.getD i 0))

theorem tornL_length (up : Bool) (xs mask : List Nat) : (tornL up xs mask).length = xs.length := by simp [tornL]
theorem tornL_getD (up : Bool) (xs mask : List Nat) (i : Nat) (h : i < xs.length) : (tornL up xs mask).getD i 0 = opN up (xs.getD i 0) (mask.getD i 0) := by
  simp [tornL, List.getD_eq_getElem?_getD, h]
theorem opN_lt (up : Bool) (z m : Nat) (hz : z < 256) (hm : m < 256) : opN up z m < 256 := by
  unfold opN
  split
  · exact Nat.or_lt_two_pow (n := 8) hz hm
  · exact Nat.lt_of_le_of_lt Nat.and_le_left hz
theorem tornL_lt (up : Bool) (xs mask : List Nat) (hx : ∀ x ∈ xs, x < 256) (hm : ∀ x ∈ mask, x < 256) : ∀ x ∈ tornL up xs mask, x < 256 := by
  intro x h
  obtain ⟨i, _, rfl⟩ := List.mem_map.1 h
  exact opN_lt up _ _ (at_lt hx i) (at_lt hm i)

/-- Which bits are others. -/
def chgAt (xs ys : List Nat) (i : Nat) : Bool := (xs.getD (i / 8) 0 ^^^ ys.getD (i / 8) 0) / 2 ^ (i % 8) % 2 == 1
def chgL (xs ys : List Nat) (n : Nat) : List Nat := (List.range n).filter (chgAt xs ys)
def lastL (L : List Nat) : Int := match L.getLast? with
  | none => -1
  | some p => ((p / 2 : Nat) : Int)

theorem chgL_succ (xs ys : List Nat) (n : Nat) : chgL xs ys (n + 1) = chgL xs ys n ++ if chgAt xs ys n then [n] else [] := by
  unfold chgL
  rw [List.range_succ, List.filter_append]
  congr 1
  by_cases h : chgAt xs ys n <;> simp [h]
theorem chgL_mem {xs ys : List Nat} {n p : Nat} : p ∈ chgL xs ys n ↔ p < n ∧ chgAt xs ys p = true := by simp [chgL]
theorem chgL_nodup (xs ys : List Nat) (n : Nat) : (chgL xs ys n).Nodup := List.Nodup.sublist List.filter_sublist List.nodup_range
theorem lastL_snoc (L : List Nat) (p : Nat) : lastL (L ++ [p]) = ((p / 2 : Nat) : Int) := by simp [lastL]

theorem no_bit : ∀ d : Nat, d < 256 → ((d / 2 ^ 0 % 2 == 1) || (d / 2 ^ 1 % 2 == 1) || (d / 2 ^ 2 % 2 == 1) || (d / 2 ^ 3 % 2 == 1) || (d / 2 ^ 4 % 2 == 1) || (d / 2 ^ 5 % 2 == 1) || (d / 2 ^ 6 % 2 == 1) || (d / 2 ^ 7 % 2 == 1)) = false → d = 0 := by decide +kernel
theorem bit_of : ∀ d : Nat, d < 256 → ∀ j : Nat, j < 8 → ((d / 2 ^ 0 % 2 == 1) == decide (0 = j) && (d / 2 ^ 1 % 2 == 1) == decide (1 = j) && (d / 2 ^ 2 % 2 == 1) == decide (2 = j) && (d / 2 ^ 3 % 2 == 1) == decide (3 = j) && (d / 2 ^ 4 % 2 == 1) == decide (4 = j) && (d / 2 ^ 5 % 2 == 1) == decide (5 = j) && (d / 2 ^ 6 % 2 == 1) == decide (6 = j) && (d / 2 ^ 7 % 2 == 1) == decide (7 = j)) = true → d = 2 ^ j := by decide +kernel

theorem no_bit' (d : Nat) (hd : d < 256) (h : ∀ j, j < 8 → (d / 2 ^ j % 2 == 1) = false) : d = 0 :=
  no_bit d hd (by rw [h 0 (by omega), h 1 (by omega), h 2 (by omega), h 3 (by omega), h 4 (by omega), h 5 (by omega), h 6 (by omega), h 7 (by omega)]; rfl)
theorem bit_of' (d j : Nat) (hd : d < 256) (hj : j < 8) (h : ∀ t, t < 8 → (d / 2 ^ t % 2 == 1) = decide (t = j)) : d = 2 ^ j :=
  bit_of d hd j hj (by rw [h 0 (by omega), h 1 (by omega), h 2 (by omega), h 3 (by omega), h 4 (by omega), h 5 (by omega), h 6 (by omega), h 7 (by omega)]; simp)

theorem torn_up : ∀ n : Nat, n < 16 → ∀ m : Nat, m < 256 → ∀ k : Nat, k < 4 → ((!((layN n ^^^ opN true (layN n) m) / 2 ^ (2 * k) % 2 == 1) || bkn (opN true (layN n) m) k) && (!((layN n ^^^ opN true (layN n) m) / 2 ^ (2 * k + 1) % 2 == 1) || bkn (opN true (layN n) m) k) && (!((layN n ^^^ opN true (layN n) m) / 2 ^ (2 * k) % 2 == 1) || !((layN n ^^^ opN true (layN n) m) / 2 ^ (2 * k + 1) % 2 == 1))) = true := by decide +kernel
theorem torn_down : ∀ n : Nat, n < 16 → ∀ m : Nat, m < 256 → ∀ k : Nat, k < 4 → ((!((layN n ^^^ opN false (layN n) m) / 2 ^ (2 * k) % 2 == 1) || bkn (opN false (layN n) m) k) && (!((layN n ^^^ opN false (layN n) m) / 2 ^ (2 * k + 1) % 2 == 1) || bkn (opN false (layN n) m) k) && (!((layN n ^^^ opN false (layN n) m) / 2 ^ (2 * k) % 2 == 1) || !((layN n ^^^ opN false (layN n) m) / 2 ^ (2 * k + 1) % 2 == 1))) = true := by decide +kernel
theorem torn_byte (up : Bool) (n m k : Nat) (hn : n < 16) (hm : m < 256) (hk : k < 4) : ((!((layN n ^^^ opN up (layN n) m) / 2 ^ (2 * k) % 2 == 1) || bkn (opN up (layN n) m) k) && (!((layN n ^^^ opN up (layN n) m) / 2 ^ (2 * k + 1) % 2 == 1) || bkn (opN up (layN n) m) k) && (!((layN n ^^^ opN up (layN n) m) / 2 ^ (2 * k) % 2 == 1) || !((layN n ^^^ opN up (layN n) m) / 2 ^ (2 * k + 1) % 2 == 1))) = true := by
  cases up
  · exact torn_down n hn m hm k hk
  · exact torn_up n hn m hm k hk

section
variable (up : Bool) (ys mask : List Nat)

theorem chg_none (hx : ∀ x ∈ ys, x < 256) (zs : List Nat) (hz : ∀ x ∈ zs, x < 256) (hl : zs.length = ys.length) (h : chgL ys zs (8 * ys.length) = []) : zs = ys := by
  refine ext_getD _ _ hl fun q hq => ?_
  have hd : ys.getD q 0 ^^^ zs.getD q 0 < 256 := Nat.xor_lt_two_pow (n := 8) (at_lt hx q) (at_lt hz q)
  have h0 : ys.getD q 0 ^^^ zs.getD q 0 = 0 := by
    refine no_bit' _ hd fun j hj => ?_
    cases hc : ((ys.getD q 0 ^^^ zs.getD q 0) / 2 ^ j % 2 == 1) with
    | false => rfl
    | true =>
      have : 8 * q + j ∈ chgL ys zs (8 * ys.length) := chgL_mem.2 ⟨by omega, by
        unfold chgAt
        rw [show (8 * q + j) / 8 = q by omega, show (8 * q + j) % 8 = j by omega]
        exact hc⟩
      rw [h] at this; cases this
  have h1 : ys.getD q 0 ^^^ zs.getD q 0 = ys.getD q 0 ^^^ ys.getD q 0 := by rw [h0, Nat.xor_self]
  exact xor_left _ _ _ h1

theorem chg_one (hx : ∀ x ∈ ys, x < 256) (zs : List Nat) (hz : ∀ x ∈ zs, x < 256) (hl : zs.length = ys.length) (i : Nat) (h : chgL ys zs (8 * ys.length) = [i]) : i < 8 * ys.length ∧ zs = turnN ys i := by
  have hi := (chgL_mem.1 (show i ∈ chgL ys zs (8 * ys.length) by rw [h]; simp)).1
  have hall : ∀ p, p < 8 * ys.length → chgAt ys zs p = decide (p = i) := by
    intro p hp
    cases hc : chgAt ys zs p with
    | true =>
      have : p ∈ chgL ys zs (8 * ys.length) := chgL_mem.2 ⟨hp, hc⟩
      rw [h] at this
      simp at this
      simp [this]
    | false =>
      have : p ≠ i := fun e => by
        have := (chgL_mem.1 (show i ∈ chgL ys zs (8 * ys.length) by rw [h]; simp)).2
        rw [e, this] at hc; cases hc
      simp [this]
  have hbit : ∀ q j, q < ys.length → j < 8 → ((ys.getD q 0 ^^^ zs.getD q 0) / 2 ^ j % 2 == 1) = decide (8 * q + j = i) := by
    intro q j hq hj
    have := hall (8 * q + j) (by omega)
    unfold chgAt at this
    rw [show (8 * q + j) / 8 = q by omega, show (8 * q + j) % 8 = j by omega] at this
    exact this
  refine ⟨hi, ext_getD _ _ (by simp [turnN, hl]) fun q hq => ?_⟩
  have hd : ys.getD q 0 ^^^ zs.getD q 0 < 256 := Nat.xor_lt_two_pow (n := 8) (at_lt hx q) (at_lt hz q)
  unfold turnN
  by_cases hqi : i / 8 = q
  · have h1 : ys.getD q 0 ^^^ zs.getD q 0 = 2 ^ (i % 8) := bit_of' _ _ hd (by omega) fun t ht => by
      rw [hbit q t (by omega) ht]
      exact decide_eq_decide.2 (by omega)
    rw [hqi, getD_set_self _ _ _ (by omega)]
    refine xor_left (ys.getD q 0) _ _ ?_
    rw [h1, ← Nat.xor_assoc, Nat.xor_self, Nat.zero_xor]
  · have h1 : ys.getD q 0 ^^^ zs.getD q 0 = 0 := no_bit' _ hd fun t ht => by
      rw [hbit q t (by omega) ht]
      exact decide_eq_false (by omega)
    rw [getD_set_ne _ _ _ _ hqi]
    refine xor_left (ys.getD q 0) _ _ ?_
    rw [h1, Nat.xor_self]

theorem chg_brk (hy : ∀ y ∈ ys, y < 256) (hm : ∀ x ∈ mask, x < 256) (p : Nat) (hp : p < 16 * ys.length) (h : chgAt (layLN ys) (tornL up (layLN ys) mask) p = true) :
    brokenAt (tornL up (layLN ys) mask) (p / 2) = true ∧ chgAt (layLN ys) (tornL up (layLN ys) mask) (if p % 2 = 0 then p + 1 else p - 1) = false := by
  have hl := layLN_length ys
  have hq : p / 8 < (layLN ys).length := by omega
  obtain ⟨n, hn, hlay, _⟩ := nib ys hy (p / 8) (by omega)
  have ht := tornL_getD up (layLN ys) mask (p / 8) hq
  have hb := torn_byte up n (mask.getD (p / 8) 0) (p % 8 / 2) hn (at_lt hm _) (by omega)
  have hbr : brokenAt (tornL up (layLN ys) mask) (p / 2) = bkn (opN up (layN n) (mask.getD (p / 8) 0)) (p % 8 / 2) := by
    unfold brokenAt
    rw [show p / 2 / 4 = p / 8 by omega, show p / 2 % 4 = p % 8 / 2 by omega, ht, hlay]
  have hch : ∀ r, r / 8 = p / 8 → chgAt (layLN ys) (tornL up (layLN ys) mask) r = ((layN n ^^^ opN up (layN n) (mask.getD (p / 8) 0)) / 2 ^ (r % 8) % 2 == 1) := by
    intro r hr
    unfold chgAt
    rw [hr, ht, hlay]
  rw [hbr]
  rw [hch p rfl] at h
  by_cases h2 : p % 2 = 0
  · rw [if_pos h2, hch (p + 1) (by omega)]
    rw [show p % 8 = 2 * (p % 8 / 2) by omega] at h
    rw [show (p + 1) % 8 = 2 * (p % 8 / 2) + 1 by omega]
    rw [h] at hb
    revert hb
    cases bkn (opN up (layN n) (mask.getD (p / 8) 0)) (p % 8 / 2) <;> simp
  · rw [if_neg h2, hch (p - 1) (by omega)]
    rw [show p % 8 = 2 * (p % 8 / 2) + 1 by omega] at h
    rw [show (p - 1) % 8 = 2 * (p % 8 / 2) by omega]
    rw [h] at hb
    revert hb
    cases bkn (opN up (layN n) (mask.getD (p / 8) 0)) (p % 8 / 2) <;> simp

theorem chg_two (hy : ∀ y ∈ ys, y < 256) (hm : ∀ x ∈ mask, x < 256) (h : 2 ≤ (chgL (layLN ys) (tornL up (layLN ys) mask) (8 * (layLN ys).length)).length) : readN (tornL up (layLN ys) mask) = none := by
  have hl := layLN_length ys
  have hnd := chgL_nodup (layLN ys) (tornL up (layLN ys) mask) (8 * (layLN ys).length)
  have hmem : ∀ p, p ∈ chgL (layLN ys) (tornL up (layLN ys) mask) (8 * (layLN ys).length) → p < 8 * (layLN ys).length ∧ chgAt (layLN ys) (tornL up (layLN ys) mask) p = true := fun p hp => chgL_mem.1 hp
  obtain ⟨i, j, hne, hi, hj⟩ : ∃ i j, i ≠ j ∧ i ∈ chgL (layLN ys) (tornL up (layLN ys) mask) (8 * (layLN ys).length) ∧ j ∈ chgL (layLN ys) (tornL up (layLN ys) mask) (8 * (layLN ys).length) := by
    revert hnd h
    generalize chgL (layLN ys) (tornL up (layLN ys) mask) (8 * (layLN ys).length) = L
    intro h hnd
    match L, h, hnd with
    | a :: b :: r, _, hnd =>
      refine ⟨a, b, ?_, by simp, by simp⟩
      rintro rfl
      simp at hnd
  obtain ⟨i1, i2⟩ := hmem i hi
  obtain ⟨j1, j2⟩ := hmem j hj
  obtain ⟨bi, ni⟩ := chg_brk up ys mask hy hm i (by omega) i2
  obtain ⟨bj, nj⟩ := chg_brk up ys mask hy hm j (by omega) j2
  have hd : i / 2 ≠ j / 2 := by
    intro e
    by_cases h2 : i % 2 = 0
    · rw [if_pos h2, show i + 1 = j by omega, j2] at ni; cases ni
    · rw [if_neg h2, show i - 1 = j by omega, j2] at ni; cases ni
  refine readN_two ?_
  rw [tornL_length]
  exact brkL_two (p := i / 2) (q := j / 2) (by omega) (by omega) hd bi bj
end
end Go.Proofs.YtgdmagmbkmgdfabDoor
