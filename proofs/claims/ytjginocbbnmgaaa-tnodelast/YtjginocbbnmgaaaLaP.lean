/-
  SEAT Ytjginocbbnmgaaa: TnodeLast, pure.
-/
import Derived.Test.YtjginocbbnmgaaaToE
namespace Go.Proofs.Ytjginocbbnmgaaa
open Go.RowKit
set_option linter.unusedVariables false

/-- The last place at which a key was put. -/
def lst (ks : List Int) (k : Int) : Nat → Option Nat
  | 0 => none
  | n + 1 => if ks.getD n 0 = k then some n else lst ks k n
/-- What the law reckons as the last place. -/
def lastN (ks : List Int) (i : Nat) : Nat → Nat
  | 0 => i
  | n + 1 => if ks.getD n 0 = ks.getD i 0 ∧ lastN ks i n < n then n else lastN ks i n
/-- Is it the first place? -/
def firstN (ks : List Int) (i : Nat) : Nat → Bool
  | 0 => true
  | n + 1 => if ks.getD n 0 = ks.getD i 0 ∧ n < i then false else firstN ks i n
theorem may_iff {k : Int} : mayB k = true ↔ 0 ≤ k ∧ k ≤ 1048575 := decide_eq_true_iff
theorem fill_lst (ks : List Int) (k : Int) (hk : mayB k = true) : ∀ n, fillM ks n k.toNat = (lst ks k n).map (fun j : Nat => (j : Int))
  | 0 => rfl
  | n + 1 => by
    have hk' := may_iff.1 hk
    simp only [fillM, lst]
    by_cases h : ks.getD n 0 = k
    · rw [if_pos h, h, hk, if_pos rfl]
      unfold upd
      rw [if_pos rfl]
      rfl
    · rw [if_neg h]
      by_cases hm : mayB (ks.getD n 0) = true
      · rw [if_pos hm]
        have hm' := may_iff.1 hm
        unfold upd
        rw [if_neg (by omega)]
        exact fill_lst ks k hk n
      · rw [if_neg hm]
        exact fill_lst ks k hk n
theorem lastN_low (ks : List Int) (i : Nat) : ∀ n, n ≤ i → lastN ks i n = i
  | 0, _ => rfl
  | n + 1, h => by
    simp only [lastN]
    rw [lastN_low ks i n (by omega), if_neg (by omega)]
theorem lastN_high (ks : List Int) (i : Nat) : ∀ n, i < n → lst ks (ks.getD i 0) n = some (lastN ks i n) ∧ lastN ks i n < n
  | 0, h => by omega
  | n + 1, h => by
    simp only [lst, lastN]
    by_cases e : n = i
    · subst e
      rw [lastN_low ks n n (Nat.le_refl _), if_pos rfl, if_neg (by omega)]
      exact ⟨rfl, by omega⟩
    · obtain ⟨h1, h2⟩ := lastN_high ks i n (by omega)
      by_cases q : ks.getD n 0 = ks.getD i 0
      · rw [if_pos q, if_pos ⟨q, h2⟩]
        exact ⟨rfl, by omega⟩
      · rw [if_neg q, if_neg (fun c => q c.1)]
        exact ⟨h1, by omega⟩
theorem lastN_le (ks : List Int) (i : Nat) : ∀ n, i ≤ lastN ks i n
  | 0 => Nat.le_refl _
  | n + 1 => by
    simp only [lastN]
    have := lastN_le ks i n
    split
    · rename_i q; omega
    · exact this
/-- What Get tells of a key that was put. -/
theorem got_last (ks : List Int) (len i : Nat) (hi : i < len) (hm : mayB (ks.getD i 0) = true) : at1 (fillM ks len) (ks.getD i 0) = some ((lastN ks i len : Nat) : Int) := by
  have hm' := may_iff.1 hm
  unfold at1
  rw [if_pos hm'.1, fill_lst ks _ hm, (lastN_high ks i len hi).1]
  rfl
theorem fill_out (ks : List Int) : ∀ n k, 1048576 ≤ k → fillM ks n k = none
  | 0, _, _ => rfl
  | n + 1, k, h => by
    simp only [fillM]
    split
    · rename_i hm
      have hm' := may_iff.1 hm
      unfold upd
      rw [if_neg (by omega)]
      exact fill_out ks n k h
    · exact fill_out ks n k h
theorem got_not (ks : List Int) (len : Nat) (k : Int) (hm : mayB k = false) : at1 (fillM ks len) k = none := by
  have hm' : ¬ (0 ≤ k ∧ k ≤ 1048575) := of_decide_eq_false hm
  unfold at1
  split
  · exact fill_out ks len _ (by omega)
  · rfl
theorem firstN_cut (ks : List Int) (i : Nat) : ∀ n, i ≤ n → firstN ks i n = firstN ks i i
  | n, h => by
    induction n with
    | zero => obtain rfl : i = 0 := by omega
              rfl
    | succ n ih =>
      by_cases e : i = n + 1
      · subst e; rfl
      · rw [← ih (by omega)]
        simp only [firstN]
        rw [if_neg (by omega)]
theorem firstN_lst (ks : List Int) (i : Nat) : ∀ n, n ≤ i → (firstN ks i n = true ↔ lst ks (ks.getD i 0) n = none)
  | 0, _ => by simp [firstN, lst]
  | n + 1, h => by
    simp only [firstN, lst]
    by_cases q : ks.getD n 0 = ks.getD i 0
    · rw [if_pos q, if_pos ⟨q, by omega⟩]
      simp
    · rw [if_neg q, if_neg (fun c => q c.1)]
      exact firstN_lst ks i n (by omega)
/-- How many of the first places are first, and may be. -/
def unlike (ks : List Int) (len : Nat) : Nat → Nat
  | 0 => 0
  | n + 1 => unlike ks len n + if firstN ks n len = true ∧ mayB (ks.getD n 0) = true then 1 else 0
theorem unlike_le (ks : List Int) (len : Nat) : ∀ n, unlike ks len n ≤ n
  | 0 => Nat.le_refl _
  | n + 1 => by
    have := unlike_le ks len n
    simp only [unlike]
    split <;> omega
theorem num_fill (ks : List Int) (len : Nat) : ∀ n, n ≤ len → num (fillM ks n) = unlike ks len n
  | 0, _ => num_M0
  | n + 1, h => by
    simp only [fillM, unlike]
    have ih := num_fill ks len n (by omega)
    by_cases hm : mayB (ks.getD n 0) = true
    · have hm' := may_iff.1 hm
      have hs : ((lst ks (ks.getD n 0) n).map (fun j : Nat => (j : Int))).isSome = (lst ks (ks.getD n 0) n).isSome := by cases lst ks (ks.getD n 0) n <;> rfl
      rw [if_pos hm, num_upd _ _ _ (by omega), fill_lst ks _ hm n, ih, firstN_cut ks n len (by omega), hs]
      have hf := firstN_lst ks n n (Nat.le_refl _)
      cases hl : lst ks (ks.getD n 0) n with
      | none => rw [if_neg (show ¬ (none : Option Nat).isSome = true by decide), if_pos ⟨hf.2 hl, hm⟩]
      | some j =>
        have hnf : ¬ firstN ks n n = true := fun q => by rw [hf.1 q] at hl; cases hl
        rw [if_pos (show (some j).isSome = true from rfl), if_neg (fun q => hnf q.1)]
        rfl
    · rw [if_neg hm, ih, if_neg (fun q => hm q.2)]
      rfl
/-- Was it put? -/
def hereN (ks : List Int) (k : Int) : Nat → Bool
  | 0 => false
  | n + 1 => if ks.getD n 0 = k ∧ mayB k = true then true else hereN ks k n
theorem here_is (ks : List Int) (k : Int) (len : Nat) : (at1 (fillM ks len) k).isSome = hereN ks k len := by
  cases hm : mayB k with
  | false =>
    rw [got_not ks len k hm]
    have : ∀ n, hereN ks k n = false := fun n => by
      induction n with
      | zero => rfl
      | succ n ih =>
        simp only [hereN]
        rw [if_neg (fun q => by rw [hm] at q; cases q.2)]
        exact ih
    rw [this]
    rfl
  | true =>
    have hm' := may_iff.1 hm
    have : ∀ n, hereN ks k n = (lst ks k n).isSome := fun n => by
      induction n with
      | zero => rfl
      | succ n ih =>
        simp only [hereN, lst]
        by_cases q : ks.getD n 0 = k
        · rw [if_pos ⟨q, hm⟩, if_pos q]
          rfl
        · rw [if_neg (fun c => q c.1), if_neg q]
          exact ih
    rw [this]
    unfold at1
    rw [if_pos hm'.1, fill_lst ks k hm]
    cases lst ks k len <;> rfl
end Go.Proofs.Ytjginocbbnmgaaa
