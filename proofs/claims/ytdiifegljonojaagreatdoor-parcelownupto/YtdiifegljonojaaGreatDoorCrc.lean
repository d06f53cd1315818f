/-
  SEAT YtdiifegljonojaaGreatDoor: the check sum, plain arithmetic.
-/
import Derived.Test.YtdiifegljonojaaGreatDoorRows
namespace Go.Proofs.YtdiifegljonojaaGreatDoor

def step1 (r : Nat) : Nat := if r % 2 = 1 then r / 2 ^^^ 3988292384 else r / 2
def stepN (r : Nat) : Nat → Nat
  | 0 => r
  | k + 1 => step1 (stepN r k)
def crcB (r z : Nat) : Nat := stepN (r ^^^ z) 8
def crcL (zs : List Nat) : Nat := zs.foldl crcB 4294967295
def sumL (zs : List Nat) : Nat := crcL zs ^^^ 4294967295

theorem xor_div2 (a b : Nat) : (a ^^^ b) / 2 = a / 2 ^^^ b / 2 := by
  have := Nat.shiftRight_xor_distrib (a := a) (b := b) (i := 1)
  simpa [Nat.shiftRight_eq_div_pow] using this

theorem step1_xor (a b : Nat) : step1 (a ^^^ b) = step1 a ^^^ step1 b := by
  unfold step1
  have h : (a ^^^ b) % 2 = (a % 2) ^^^ (b % 2) := Nat.xor_mod_two_pow (n := 1)
  rw [xor_div2]
  rcases Nat.mod_two_eq_zero_or_one a with ha | ha <;> rcases Nat.mod_two_eq_zero_or_one b with hb | hb
  · rw [ha, hb] at h
    rw [if_neg (by rw [h]; decide), if_neg (by omega), if_neg (by omega)]
  · rw [ha, hb] at h
    rw [if_pos (by rw [h]; decide), if_neg (by omega), if_pos hb, Nat.xor_assoc]
  · rw [ha, hb] at h
    rw [if_pos (by rw [h]; decide), if_pos ha, if_neg (by omega), Nat.xor_assoc, Nat.xor_assoc, Nat.xor_comm (b / 2)]
  · rw [ha, hb] at h
    rw [if_neg (by rw [h]; decide), if_pos ha, if_pos hb]
    have e : ∀ x y p : Nat, (x ^^^ p) ^^^ (y ^^^ p) = x ^^^ y := by
      intro x y p
      rw [Nat.xor_comm y p, Nat.xor_assoc, ← Nat.xor_assoc p p y, Nat.xor_self, Nat.zero_xor]
    rw [e]

theorem stepN_xor (a b k : Nat) : stepN (a ^^^ b) k = stepN a k ^^^ stepN b k := by
  induction k with
  | zero => rfl
  | succ k ih => rw [stepN, ih, step1_xor]; rfl

theorem stepN_add (r j k : Nat) : stepN r (j + k) = stepN (stepN r j) k := by
  induction k with
  | zero => rfl
  | succ k ih => rw [← Nat.add_assoc, stepN, ih]; rfl

def tab : List Nat := [0, 498536548, 997073096, 651767980, 1994146192, 1802195444, 1303535960, 1342533948, 3988292384, 4027552580, 3604390888, 3412177804, 2607071920, 2262029012, 2685067896, 3183342108]

theorem tab_eq : ∀ i, i < 16 → tab.getD i 0 = stepN i 4 := by decide +kernel

theorem step4_shift (q : Nat) : stepN (16 * q) 4 = q := by
  have e : ∀ x, step1 (2 * x) = x := by
    intro x
    unfold step1
    rw [if_neg (by omega)]
    omega
  have h16 : 16 * q = 2 * (2 * (2 * (2 * q))) := by omega
  simp only [stepN, h16, e]

/-- Four steps at once, as the program's table has them. -/
theorem nib (r : Nat) : r / 16 ^^^ tab.getD (r % 16) 0 = stepN r 4 := by
  have h1 : r = 16 * (r / 16) ^^^ r % 16 := by
    have h := Nat.two_pow_add_eq_or_of_lt (i := 4) (b := r % 16) (by omega) (r / 16)
    have h2 : 16 * (r / 16) + r % 16 = r := by omega
    have h3 : 16 * (r / 16) &&& r % 16 = 0 := by
      apply Nat.eq_of_testBit_eq
      intro i
      rw [Nat.testBit_and, Nat.zero_testBit]
      by_cases hi : i < 4
      · have : (2 ^ 4 * (r / 16)).testBit i = false := by rw [Nat.testBit_two_pow_mul]; simp; omega
        rw [show 16 * (r / 16) = 2 ^ 4 * (r / 16) from rfl, this]
        rfl
      · have : (r % 16).testBit i = false := Nat.testBit_lt_two_pow (Nat.lt_of_lt_of_le (show r % 16 < 2 ^ 4 by omega) (Nat.pow_le_pow_right (by omega) (by omega)))
        rw [this]
        simp
    have h4 : 16 * (r / 16) ^^^ r % 16 = 16 * (r / 16) ||| r % 16 := by
      apply Nat.eq_of_testBit_eq
      intro i
      have := congrArg (fun x => x.testBit i) h3
      simp only [Nat.testBit_and, Nat.zero_testBit] at this
      rw [Nat.testBit_xor, Nat.testBit_or]
      generalize (16 * (r / 16)).testBit i = p at this ⊢
      generalize (r % 16).testBit i = q at this ⊢
      cases p <;> cases q <;> first | rfl | cases this
    rw [h4]
    rw [show 16 * (r / 16) = 2 ^ 4 * (r / 16) from rfl, ← h]
    omega
  conv => rhs; rw [h1]
  rw [stepN_xor, step4_shift, tab_eq (r % 16) (by omega)]

theorem step1_lt (r : Nat) (h : r < 4294967296) : step1 r < 4294967296 := by
  unfold step1
  split
  · exact Nat.xor_lt_two_pow (n := 32) (by omega) (by omega)
  · omega
theorem stepN_lt (r k : Nat) (h : r < 4294967296) : stepN r k < 4294967296 := by
  induction k with
  | zero => exact h
  | succ k ih => exact step1_lt _ ih
theorem xor32 (a b : Nat) (ha : a < 4294967296) (hb : b < 4294967296) : a ^^^ b < 4294967296 := Nat.xor_lt_two_pow (n := 32) ha hb
theorem crcB_lt (r z : Nat) (h : r < 4294967296) (hz : z < 256) : crcB r z < 4294967296 := stepN_lt _ _ (xor32 _ _ h (by omega))

/-- One byte, by the table twice. -/
theorem crcB_tab (r z : Nat) : (((r ^^^ z) / 16 ^^^ tab.getD ((r ^^^ z) % 16) 0) / 16 ^^^ tab.getD (((r ^^^ z) / 16 ^^^ tab.getD ((r ^^^ z) % 16) 0) % 16) 0) = crcB r z := by
  rw [nib (r ^^^ z), nib]
  exact (stepN_add _ 4 4).symm

theorem crcL_snoc (zs : List Nat) (z : Nat) : crcL (zs ++ [z]) = crcB (crcL zs) z := by simp [crcL]
theorem crcL_lt (zs : List Nat) (h : ∀ z ∈ zs, z < 256) : crcL zs < 4294967296 := by
  have : ∀ (l : List Nat) (r : Nat), r < 4294967296 → (∀ z ∈ l, z < 256) → l.foldl crcB r < 4294967296 := by
    intro l
    induction l with
    | nil => intro r hr _; exact hr
    | cons x l ih => intro r hr hl; exact ih _ (crcB_lt r x hr (hl x (by simp))) (fun z hz => hl z (by simp [hz]))
  exact this zs _ (by omega) h

/-- THE SUM IS LINEAR. -/
theorem crcB_xor3 (a b c x y z : Nat) : crcB (a ^^^ b ^^^ c) (x ^^^ y ^^^ z) = crcB a x ^^^ crcB b y ^^^ crcB c z := by
  unfold crcB
  rw [← stepN_xor, ← stepN_xor]
  congr 1
  ac_rfl

end Go.Proofs.YtdiifegljonojaaGreatDoor
