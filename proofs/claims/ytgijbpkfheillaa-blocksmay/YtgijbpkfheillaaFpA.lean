/-
  SEAT Ytgijbpkfheillaa: cleaned in order: what is so of the lists.
-/
import Derived.Test.YtgijbpkfheillaaFiG
namespace Go.Proofs.Ytgijbpkfheillaa
open Go.RowKit
set_option linter.unusedVariables false

def cntN (q : Nat → Bool) : Nat → Nat
  | 0 => 0
  | k + 1 => cntN q k + (if q k then 1 else 0)
theorem cntN_le (q : Nat → Bool) : ∀ k, cntN q k ≤ k
  | 0 => Nat.le_refl _
  | k + 1 => by
    have := cntN_le q k
    rw [cntN]
    split <;> omega
theorem cntN_congr {p q : Nat → Bool} : ∀ k, (∀ i, i < k → p i = q i) → cntN p k = cntN q k
  | 0, _ => rfl
  | k + 1, h => by rw [cntN, cntN, cntN_congr k (fun i hi => h i (by omega)), h k (by omega)]
theorem cntP_N (p : Ent → Bool) (es : List Ent) : ∀ k, cntP p es k = cntN (fun i => p (es.getD i Ent.zero)) k
  | 0 => rfl
  | k + 1 => by rw [cntP, cntN, cntP_N p es k]
theorem cntN_zero {q : Nat → Bool} : ∀ k, (∀ i, i < k → q i = false) → cntN q k = 0
  | 0, _ => rfl
  | k + 1, h => by rw [cntN, cntN_zero k (fun i hi => h i (by omega)), h k (by omega)]; rfl
theorem cntN_one {q : Nat → Bool} : ∀ k, (∀ i j, i < k → j < k → q i = true → q j = true → i = j) → cntN q k ≤ 1
  | 0, _ => by simp [cntN]
  | k + 1, h => by
    rw [cntN]
    cases hk : q k with
    | false =>
      have := cntN_one k (fun i j hi hj => h i j (by omega) (by omega))
      simp
      exact this
    | true =>
      have : cntN q k = 0 := cntN_zero k (fun i hi => by
        cases hq : q i with
        | false => rfl
        | true => have := h i k (by omega) (by omega) hq hk; omega)
      simp [this]
theorem cntN_or {p q : Nat → Bool} {o : Nat} (ho : q o = false) : ∀ k, (∀ i, i < k → p i = ((i == o) || q i)) → cntN p k = cntN q k + (if o < k then 1 else 0)
  | 0, _ => by simp [cntN]
  | k + 1, h => by
    rw [cntN, cntN, cntN_or ho k (fun i hi => h i (by omega)), h k (by omega)]
    by_cases e : k = o
    · subst e
      simp [ho]
    · have e1 : (k == o) = false := by simpa using e
      rw [e1]
      by_cases e2 : o < k
      · have e3 : o < k + 1 := by omega
        simp only [e2, e3, if_true, Bool.false_or]
        omega
      · have e3 : ¬ o < k + 1 := by omega
        simp only [e2, e3, if_false, Bool.false_or]
        omega
theorem cntN_less {p q : Nat → Bool} {v : Nat} : ∀ k, v < k → p v = true → q v = false → (∀ i, i < k → i ≠ v → p i = q i) → cntN p k = cntN q k + 1
  | 0, hv, _, _, _ => absurd hv (Nat.not_lt_zero _)
  | k + 1, hv, hp, hq, h => by
    rw [cntN, cntN]
    by_cases e : v = k
    · subst e
      rw [cntN_congr v (fun i hi => h i (by omega) (by omega)), hp, hq]
      simp
    · rw [cntN_less k (by omega) hp hq (fun i hi => h i (by omega)), h k (by omega) (by omega)]
      omega

/-- What is so of blocks that may be. -/
structure MayF (P : Int) (bs : List Bk) : Prop where
  row : ∀ i, i < bs.length → rowOk P (bs.getD i Bk.zero).s (bs.getD i Bk.zero).h (bs.getD i Bk.zero).r (bs.getD i Bk.zero).l = true
  heads : ∀ i j, i < bs.length → j < bs.length → (bs.getD i Bk.zero).h ≠ 0 → (bs.getD i Bk.zero).h = (bs.getD j Bk.zero).h → i = j
  opn : ∀ i j, i < bs.length → j < bs.length → (bs.getD i Bk.zero).s = 2 → (bs.getD j Bk.zero).s = 2 → i = j
theorem preOk_all {P last : Int} {bs : List Bk} : ∀ k, preOk P last bs k = true → ∀ i, i < k → rowOk P (bs.getD i Bk.zero).s (bs.getD i Bk.zero).h (bs.getD i Bk.zero).r (bs.getD i Bk.zero).l = true ∧ headsOk bs i = true
  | 0, _, i, hi => absurd hi (Nat.not_lt_zero _)
  | k + 1, h, i, hi => by
    rw [preOk] at h
    simp only [Bool.and_eq_true] at h
    by_cases e : i = k
    · subst e
      exact ⟨h.2.1.1, h.2.2⟩
    · exact preOk_all k h.1 i (by omega)
theorem opens_pos {bs : List Bk} : ∀ k i, i < k → (bs.getD i Bk.zero).s = 2 → 1 ≤ opens bs k
  | 0, i, hi, _ => absurd hi (Nat.not_lt_zero _)
  | k + 1, i, hi, h => by
    rw [opens]
    by_cases e : i = k
    · subst e; rw [if_pos h]; omega
    · have := opens_pos k i (by omega) h; omega
theorem opens_two {bs : List Bk} : ∀ k i j, i < j → j < k → (bs.getD i Bk.zero).s = 2 → (bs.getD j Bk.zero).s = 2 → 2 ≤ opens bs k
  | 0, i, j, _, hj, _, _ => absurd hj (Nat.not_lt_zero _)
  | k + 1, i, j, hij, hj, h1, h2 => by
    rw [opens]
    by_cases e : j = k
    · subst e
      have := opens_pos j i hij h1
      rw [if_pos h2]; omega
    · have := opens_two k i j hij (by omega) h1 h2; omega
theorem may_facts {P last : Int} {bs : List Bk} (h : mayOk P last bs = true) : MayF P bs := by
  unfold mayOk at h
  simp only [Bool.and_eq_true, decide_eq_true_eq] at h
  have hp := preOk_all _ h.1
  have key : ∀ i j, i < j → j < bs.length → (bs.getD j Bk.zero).h ≠ 0 → (bs.getD i Bk.zero).h ≠ (bs.getD j Bk.zero).h := fun i j hij hj h0 => by
    have h1 := (hp j hj).2
    unfold headsOk at h1
    simp only [Bool.or_eq_true, beq_iff_eq, List.all_eq_true, List.mem_range, bne_iff_ne] at h1
    exact (h1.resolve_left h0) i hij
  refine ⟨fun i hi => (hp i hi).1, fun i j hi hj h0 he => ?_, fun i j hi hj h1 h2 => ?_⟩
  · rcases Nat.lt_trichotomy i j with hl | hl | hl
    · exact absurd he (key i j hl hj (by rw [← he]; exact h0))
    · exact hl
    · exact absurd he.symm (key j i hl hi h0)
  · rcases Nat.lt_trichotomy i j with hl | hl | hl
    · have := opens_two _ i j hl hj h1 h2; omega
    · exact hl
    · have := opens_two _ j i hl hi h2 h1; omega
theorem row_states {P s h l : Int} {r : Bool} (hr : rowOk P s h r l = true) : 0 ≤ s ∧ s ≤ 6 := by
  unfold rowOk at hr
  split at hr
  · omega
  · split at hr
    · omega
    · split at hr
      · omega
      · split at hr
        · omega
        · cases hr
theorem row_log {P s h l : Int} {r : Bool} (hr : rowOk P s h r l = true) (hs : s = 1 ∨ s = 2 ∨ s = 4) : 1 ≤ h ∧ h ≤ 281474976710655 ∧ 0 ≤ l ∧ l ≤ P - 1 := by
  have key : headOk h = true ∧ liveOk P l = true := by
    unfold rowOk at hr
    rw [if_neg (by omega)] at hr
    rw [if_neg (by omega)] at hr
    split at hr
    · simp only [Bool.and_eq_true] at hr; exact hr.1
    · split at hr
      · simpa only [Bool.and_eq_true] using hr
      · cases hr
  have h1 := of_decide_eq_true key.1
  have h2 := of_decide_eq_true key.2
  omega

theorem entD (bs : List Bk) (i : Nat) (hi : i < bs.length) : (bs.map Bk.ent).getD i Ent.zero = (bs.getD i Bk.zero).ent := by
  rw [List.getD_eq_getElem?_getD, List.getElem?_map, List.getD_eq_getElem?_getD, List.getElem?_eq_getElem hi]
  rfl
theorem log_states {e : Ent} (h : logE e = true) : e.s = 1 ∨ e.s = 2 ∨ (e.s = 4 ∧ e.left = false) := by
  unfold logE loggedB at h
  simpa [or_assoc] using h
theorem log_of {e : Ent} (h : e.s = 1 ∨ e.s = 2 ∨ (e.s = 4 ∧ e.left = false)) : logE e = true := by
  unfold logE loggedB
  rcases h with h | h | ⟨h, h'⟩ <;> simp [*]
theorem cand_of {e : Ent} : candE e = true ↔ logE e = true ∧ e.s ≠ 2 := by
  unfold candE
  simp
/-- A block that was cleaned. -/
def gone0 (e : Ent) : Ent := leaveE { e with l := 0 }
theorem gone0_log {e : Ent} (h : candE e = true) : logE (gone0 e) = false := by
  obtain ⟨h1, h2⟩ := cand_of.1 h
  have h3 := log_states h1
  unfold gone0 leaveE
  simp only
  by_cases s1 : e.s = 1
  · rw [if_pos s1]; unfold logE loggedB; simp
  · rw [if_neg s1]
    have s4 : e.s = 4 := by omega
    unfold logE loggedB
    simp [s4]
theorem gone0_state {e : Ent} (h : candE e = true) : (gone0 e).s = 3 ∨ ((gone0 e).s = 4 ∧ (gone0 e).left = true) := by
  obtain ⟨h1, h2⟩ := cand_of.1 h
  have h3 := log_states h1
  unfold gone0 leaveE
  simp only
  by_cases s1 : e.s = 1
  · rw [if_pos s1]; exact Or.inl rfl
  · rw [if_neg s1]
    have s4 : e.s = 4 := by omega
    exact Or.inr ⟨s4, rfl⟩

/-- How it stands while blocks are cleaned in order. -/
structure FifoI (P : Int) (bs : List Bk) (es : List Ent) (k : Nat) (before : Int) : Prop where
  len : es.length = bs.length
  each : ∀ i, i < bs.length → es.getD i Ent.zero = (bs.getD i Bk.zero).ent ∨ (candE (bs.getD i Bk.zero).ent = true ∧ es.getD i Ent.zero = gone0 (bs.getD i Bk.zero).ent)
  above : ∀ i, i < bs.length → candE (es.getD i Ent.zero) = true → before < (es.getD i Ent.zero).h
  cnt : cntP logE es bs.length + k = cntP logE (bs.map Bk.ent) bs.length
theorem FifoI.same {P : Int} {bs : List Bk} {es : List Ent} {k : Nat} {before : Int} (h : FifoI P bs es k before) {i : Nat} (hi : i < bs.length) (hl : logE (es.getD i Ent.zero) = true) : es.getD i Ent.zero = (bs.getD i Bk.zero).ent := by
  rcases h.each i hi with h1 | ⟨h1, h2⟩
  · exact h1
  · rw [h2, gone0_log h1] at hl
    cases hl
theorem fifo_first {P : Int} {bs : List Bk} (h : MayF P bs) : FifoI P bs (bs.map Bk.ent) 0 0 := by
  refine ⟨by simp, fun i hi => Or.inl (entD bs i hi), fun i hi hc => ?_, rfl⟩
  rw [entD bs i hi] at hc ⊢
  have h1 := log_states (cand_of.1 hc).1
  have h2 := row_log (h.row i hi) (by rcases h1 with h1 | h1 | h1 <;> simp only [Bk.ent] at h1 <;> omega)
  simp only [Bk.ent]
  omega
/-- What is told as the oldest. -/
theorem old_facts {es : List Ent} {v : Nat} {hd : Int} (h : oldE es = some (v, hd)) : v < es.length ∧ candE (es.getD v Ent.zero) = true ∧ (es.getD v Ent.zero).h < hd ∧ (∃ x, x < es.length ∧ hd = (es.getD x Ent.zero).h) ∧ ∀ i, i < es.length → candE (es.getD i Ent.zero) = true → (es.getD v Ent.zero).h ≤ (es.getD i Ent.zero).h := by
  unfold oldE at h
  cases h1 : lowest es candE es.length with
  | none => rw [h1] at h; cases h
  | some a =>
    rw [h1] at h
    simp only at h
    cases h2 : lowest es (aboveE (es.getD a Ent.zero).h) es.length with
    | none => rw [h2] at h; cases h
    | some b =>
      rw [h2] at h
      simp only [Option.some.injEq, Prod.mk.injEq] at h
      obtain ⟨rfl, rfl⟩ := h
      have h3 := lowest_lt h1
      have h4 := lowest_lt h2
      have h5 : (es.getD a Ent.zero).h < (es.getD b Ent.zero).h := by
        have := h4.2
        unfold aboveE at this
        simp only [Bool.and_eq_true, decide_eq_true_eq] at this
        exact this.2
      exact ⟨h3.1, h3.2, h5, ⟨b, h4.1, rfl⟩, fun i hi hc => lowest_le h1 i hi hc⟩
theorem FifoI.step {P : Int} {bs : List Bk} {es : List Ent} {k v : Nat} {before hd : Int} (hm : MayF P bs) (h : FifoI P bs es k before) (ho : oldE es = some (v, hd)) :
    FifoI P bs (es.set v (gone0 (es.getD v Ent.zero))) (k + 1) (es.getD v Ent.zero).h := by
  obtain ⟨h1, h2, h3, _, h5⟩ := old_facts ho
  have hvb : v < bs.length := by have := h.len; omega
  have hsame := h.same hvb (cand_of.1 h2).1
  have hrow : 1 ≤ (es.getD v Ent.zero).h := by
    have h6 := log_states (cand_of.1 h2).1
    rw [hsame] at h6 ⊢
    have := row_log (hm.row v hvb) (by rcases h6 with h6 | h6 | h6 <;> simp only [Bk.ent] at h6 <;> omega)
    simp only [Bk.ent]
    omega
  refine ⟨by simpa using h.len, fun i hi => ?_, fun i hi hc => ?_, ?_⟩
  · by_cases e : i = v
    · subst e
      rw [getD_set_same _ _ _ h1, hsame]
      exact Or.inr ⟨by rw [← hsame]; exact h2, rfl⟩
    · rw [getD_set_other _ _ _ _ e]
      exact h.each i hi
  · by_cases e : i = v
    · subst e
      rw [getD_set_same _ _ _ h1] at hc
      have := gone0_log h2
      rw [(cand_of.1 hc).1] at this
      cases this
    · rw [getD_set_other _ _ _ _ e] at hc ⊢
      have h7 := h5 i (by have := h.len; omega) hc
      have h8 := h.same hi (cand_of.1 hc).1
      have h9 : (es.getD v Ent.zero).h ≠ (es.getD i Ent.zero).h := fun q => by
        rw [hsame, h8] at q
        rw [hsame] at hrow
        exact e (hm.heads v i hvb hi (by simp only [Bk.ent] at hrow; omega) q).symm
      omega
  · have h7 := h.cnt
    have h8 : cntP logE es bs.length = cntP logE (es.set v (gone0 (es.getD v Ent.zero))) bs.length + 1 := by
      rw [cntP_N, cntP_N]
      refine cntN_less bs.length hvb (cand_of.1 h2).1 ?_ (fun i hi e => ?_)
      · show logE ((es.set v (gone0 (es.getD v Ent.zero))).getD v Ent.zero) = false
        rw [getD_set_same _ _ _ h1]
        exact gone0_log h2
      · show logE (es.getD i Ent.zero) = logE ((es.set v (gone0 (es.getD v Ent.zero))).getD i Ent.zero)
        rw [getD_set_other _ _ _ _ e]
    omega
/-- As long as there is an oldest one, not all were cleaned. -/
theorem FifoI.more {P : Int} {bs : List Bk} {es : List Ent} {k v : Nat} {before hd : Int} (h : FifoI P bs es k before) (ho : oldE es = some (v, hd)) : k < cntP logE (bs.map Bk.ent) bs.length := by
  obtain ⟨h1, h2, _⟩ := old_facts ho
  have h7 := h.cnt
  have : 0 < cntP logE es bs.length := by
    rcases Nat.eq_zero_or_pos (cntP logE es bs.length) with e | e
    · exfalso
      rw [cntP_N] at e
      have hz : ∀ n, cntN (fun i => logE (es.getD i Ent.zero)) n = 0 → ∀ i, i < n → logE (es.getD i Ent.zero) = false := by
        intro n
        induction n with
        | zero => intro _ i hi; omega
        | succ n ih =>
          intro hn i hi
          rw [cntN] at hn
          by_cases q : i = n
          · subst q
            cases hl : logE (es.getD i Ent.zero) with
            | false => rfl
            | true => rw [hl] at hn; simp at hn
          · exact ih (by omega) i (by omega)
      have := hz _ e v (by have := h.len; omega)
      rw [(cand_of.1 h2).1] at this
      cases this
    · exact e
  omega
/-- Where there is no oldest one: at most one is left beside the open one, and it is newer. -/
theorem FifoI.last {P : Int} {bs : List Bk} {es : List Ent} {k : Nat} {before : Int} (hm : MayF P bs) (h : FifoI P bs es k before) (ho : oldE es = none) :
    ∃ f : Option Nat, (∀ i, i < bs.length → candE (es.getD i Ent.zero) = true → some i = f) ∧ ∀ v, f = some v → ∀ i, i < bs.length → logE (es.getD i Ent.zero) = true → (es.getD i Ent.zero).h ≤ (es.getD v Ent.zero).h := by
  unfold oldE at ho
  have hlen := h.len
  cases h1 : lowest es candE es.length with
  | none =>
    refine ⟨none, fun i hi hc => ?_, fun v hv => by cases hv⟩
    have := lowest_none h1 i (by omega)
    rw [hc] at this
    cases this
  | some a =>
    rw [h1] at ho
    simp only at ho
    cases h2 : lowest es (aboveE (es.getD a Ent.zero).h) es.length with
    | some b => rw [h2] at ho; cases ho
    | none =>
      have h3 := lowest_lt h1
      have hup : ∀ i, i < bs.length → logE (es.getD i Ent.zero) = true → (es.getD i Ent.zero).h ≤ (es.getD a Ent.zero).h := fun i hi hl => by
        have h4 := lowest_none h2 i (by omega)
        unfold aboveE at h4
        rw [hl] at h4
        simp at h4
        exact h4
      refine ⟨some a, fun i hi hc => ?_, fun v hv i hi hl => ?_⟩
      · have h5 := lowest_le h1 i (by omega) hc
        have h6 := hup i hi (cand_of.1 hc).1
        have e1 := h.same hi (cand_of.1 hc).1
        have e2 := h.same (i := a) (by omega) (cand_of.1 h3.2).1
        have h7 := log_states (cand_of.1 hc).1
        rw [e1] at h7
        have h8 := row_log (hm.row i hi) (by rcases h7 with h7 | h7 | h7 <;> simp only [Bk.ent] at h7 <;> omega)
        rw [e1, e2] at h5 h6
        simp only [Bk.ent] at h5 h6
        exact congrArg some (hm.heads i a hi (by omega) (by omega) (by omega))
      · cases hv
        exact hup i hi hl
end Go.Proofs.Ytgijbpkfheillaa
