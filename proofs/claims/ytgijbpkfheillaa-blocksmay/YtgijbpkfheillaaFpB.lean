/-
  SEAT Ytgijbpkfheillaa: behind the Commit.
-/
import Derived.Test.YtgijbpkfheillaaFpA
namespace Go.Proofs.Ytgijbpkfheillaa
open Go.RowKit
set_option linter.unusedVariables false

def badE : Ent := ⟨6, 0, false, 0, false⟩
/-- Some entries told bad. -/
def bads (es : List Ent) : List Nat → List Ent
  | [] => es
  | g :: r => bads (es.set g badE) r
theorem bads_length : ∀ (ds : List Nat) (es : List Ent), (bads es ds).length = es.length
  | [], es => rfl
  | g :: r, es => by rw [bads, bads_length r, List.length_set]
theorem bads_get : ∀ (ds : List Nat) (es : List Ent) (i : Nat), (∀ d ∈ ds, d < es.length) → (bads es ds).getD i Ent.zero = if i ∈ ds then badE else es.getD i Ent.zero
  | [], es, i, _ => by simp [bads]
  | g :: r, es, i, h => by
    rw [bads, bads_get r (es.set g badE) i (fun d hd => by rw [List.length_set]; exact h d (List.mem_cons_of_mem _ hd))]
    by_cases h1 : i ∈ r
    · rw [if_pos h1, if_pos (List.mem_cons_of_mem _ h1)]
    · rw [if_neg h1]
      by_cases e : i = g
      · subst e
        rw [getD_set_same _ _ _ (h i (List.mem_cons_self ..)), if_pos (List.mem_cons_self ..)]
      · rw [getD_set_other _ _ _ _ e, if_neg (by simp [e, h1])]
theorem bads_snoc (es : List Ent) (ds : List Nat) (g : Nat) : bads es (ds ++ [g]) = (bads es ds).set g badE := by
  induction ds generalizing es with
  | nil => rfl
  | cons d r ih => rw [List.cons_append, bads, ih, bads]
theorem dooms_nodup (es : List Ent) : ∀ k, (dooms es k).Nodup
  | 0 => by simp [dooms]
  | k + 1 => by
    rw [dooms, List.nodup_append]
    refine ⟨dooms_nodup es k, by split <;> simp, fun a ha b hb => ?_⟩
    have h1 := ((dooms_mem es k a).1 ha).1
    split at hb
    · simp at hb; omega
    · simp at hb
theorem take_fresh {ds : List Nat} (h : ds.Nodup) (j : Nat) (hj : j < ds.length) : ds.getD j 0 ∉ ds.take j := by
  intro hm
  obtain ⟨i, hi, he⟩ := List.mem_iff_getElem.1 hm
  rw [List.length_take] at hi
  rw [List.getElem_take, List.getD_eq_getElem?_getD, List.getElem?_eq_getElem hj] at he
  have := (List.getElem_inj h).1 he
  omega
theorem take_next (ds : List Nat) (j : Nat) (hj : j < ds.length) : ds.take (j + 1) = ds.take j ++ [ds.getD j 0] := by
  rw [List.take_succ_eq_append_getElem hj, List.getD_eq_getElem?_getD, List.getElem?_eq_getElem hj]
  rfl
theorem comD (es : List Ent) (i : Nat) : (es.map comE).getD i Ent.zero = comE (es.getD i Ent.zero) := by
  rw [List.getD_eq_getElem?_getD, List.getElem?_map, List.getD_eq_getElem?_getD]
  cases es[i]? with
  | none => rfl
  | some e => rfl
/-- The one behind which there is none, as the law looks for it. -/
def behB (es : List Ent) (o i : Nat) : Bool := decide (i ≠ o) && ((es.getD i Ent.zero).s != 0) && ((es.getD i Ent.zero).s != 6)
/-- What is so behind the Commit. -/
structure AfterI (es2 : List Ent) (n o : Nat) : Prop where
  len : es2.length = n
  ol : o < n
  one : cntN (behB es2 o) n ≤ 1
  log : cntP logE es2 n = cntN (behB es2 o) n + 1
  each : ∀ i, i < n → behB es2 o i = true → (es2.getD o Ent.zero).h ≤ (es2.getD i Ent.zero).h ∧ ((es2.getD i Ent.zero).s = 1 ∨ (es2.getD i Ent.zero).s = 4)
theorem done_state {e : Ent} (h : doneE e = true) : e.s = 4 := by
  unfold doneE doneB at h
  simp at h
  exact h.1
theorem after_commit {P : Int} {bs : List Bk} {es : List Ent} {k o : Nat} {before : Int} (hm : MayF P bs) (h : FifoI P bs es k before) (ho : oldE es = none) (hol : o < bs.length) (hos : (es.getD o Ent.zero).s = 2) :
    AfterI (bads (es.map comE) (dooms es es.length)) bs.length o := by
  obtain ⟨f, hf1, hf2⟩ := h.last hm ho
  have hlen := h.len
  have hd : ∀ i, i < bs.length → ((bads (es.map comE) (dooms es es.length)).getD i Ent.zero = if doneE (es.getD i Ent.zero) = true then badE else comE (es.getD i Ent.zero)) := fun i hi => by
    rw [bads_get _ _ _ (fun d hd => by have := ((dooms_mem es es.length d).1 hd).1; simpa using this), comD]
    by_cases q : doneE (es.getD i Ent.zero) = true
    · rw [if_pos q, if_pos ((dooms_mem es es.length i).2 ⟨by omega, q⟩)]
    · rw [if_neg q, if_neg (fun hc => q ((dooms_mem es es.length i).1 hc).2)]
  have hsame2 : ∀ i, i < bs.length → (es.getD i Ent.zero).s = 2 → es.getD i Ent.zero = (bs.getD i Bk.zero).ent := fun i hi h2 => by
    rcases h.each i hi with h1 | ⟨h1, h3⟩
    · exact h1
    · have := gone0_state h1
      rw [← h3] at this
      omega
  have hopen : (bads (es.map comE) (dooms es es.length)).getD o Ent.zero = es.getD o Ent.zero := by
    rw [hd o hol, if_neg (fun q => by have := done_state q; omega)]
    unfold comE
    rw [if_neg (by omega)]
  -- what is left
  have hleft : ∀ i, i < bs.length → behB (bads (es.map comE) (dooms es es.length)) o i = true → (bads (es.map comE) (dooms es es.length)).getD i Ent.zero = es.getD i Ent.zero ∧ candE (es.getD i Ent.zero) = true ∧ ((es.getD i Ent.zero).s = 1 ∨ (es.getD i Ent.zero).s = 4) := fun i hi hb => by
    unfold behB at hb
    simp only [Bool.and_eq_true, decide_eq_true_eq, bne_iff_ne] at hb
    obtain ⟨⟨hio, h0⟩, h6⟩ := hb
    rw [hd i hi] at h0 h6 ⊢
    by_cases q : doneE (es.getD i Ent.zero) = true
    · rw [if_pos q] at h6
      exact absurd rfl h6
    · rw [if_neg q] at h0 h6 ⊢
      by_cases q2 : (es.getD i Ent.zero).s = 3 ∨ (es.getD i Ent.zero).s = 5
      · unfold comE at h0
        rw [if_pos q2] at h0
        exact absurd rfl h0
      · unfold comE at h0 h6 ⊢
        rw [if_neg q2] at h0 h6 ⊢
        rcases h.each i hi with h1 | ⟨h1, h3⟩
        · have hr := row_states (hm.row i hi)
          have hs : (es.getD i Ent.zero).s = (bs.getD i Bk.zero).s := by rw [h1]; rfl
          have h2 : (es.getD i Ent.zero).s ≠ 2 := fun h2 => by
            have e1 := hsame2 o hol hos
            have : (bs.getD o Bk.zero).s = 2 := by rw [e1] at hos; exact hos
            exact hio (hm.opn i o hi hol (by omega) this)
          have h14 : (es.getD i Ent.zero).s = 1 ∨ (es.getD i Ent.zero).s = 4 := by omega
          refine ⟨rfl, cand_of.2 ⟨log_of ?_, h2⟩, h14⟩
          rcases h14 with h14 | h14
          · exact Or.inl h14
          · exact Or.inr (Or.inr ⟨h14, by rw [h1]; rfl⟩)
        · have h4 := gone0_state h1
          rw [← h3] at h4
          rcases h4 with h4 | ⟨h4, h5⟩
          · exact absurd (Or.inl h4) q2
          · exfalso
            apply q
            unfold doneE
            rw [h4, h5]
            rfl
  have hbo : behB (bads (es.map comE) (dooms es es.length)) o o = false := by simp [behB]
  have hlog : ∀ i, i < bs.length → logE ((bads (es.map comE) (dooms es es.length)).getD i Ent.zero) = ((i == o) || behB (bads (es.map comE) (dooms es es.length)) o i) := fun i hi => by
    by_cases e : i = o
    · subst e
      rw [hopen]
      simp
      exact log_of (Or.inr (Or.inl hos))
    · have e1 : (i == o) = false := by simpa using e
      rw [e1, Bool.false_or]
      cases hb : behB (bads (es.map comE) (dooms es es.length)) o i with
      | true =>
        obtain ⟨h1, h2, _⟩ := hleft i hi hb
        rw [h1]
        exact (cand_of.1 h2).1
      | false =>
        have h06 : ((bads (es.map comE) (dooms es es.length)).getD i Ent.zero).s = 0 ∨ ((bads (es.map comE) (dooms es es.length)).getD i Ent.zero).s = 6 := by
          unfold behB at hb
          simp only [ne_eq, e, not_false_eq_true, decide_true, Bool.true_and, Bool.and_eq_false_iff, bne_eq_false_iff_eq] at hb
          exact hb
        cases hl : logE ((bads (es.map comE) (dooms es es.length)).getD i Ent.zero) with
        | false => rfl
        | true => have := log_states hl; omega
  refine ⟨by rw [bads_length]; simpa using hlen, hol, cntN_one _ (fun i j hi hj h1 h2 => ?_), ?_, fun i hi hb => ?_⟩
  · have a := hf1 i hi (hleft i hi h1).2.1
    have b := hf1 j hj (hleft j hj h2).2.1
    rw [← b] at a
    exact Option.some.inj a
  · rw [cntP_N, cntN_or hbo bs.length hlog, if_pos hol]
  · obtain ⟨h1, h2, h3⟩ := hleft i hi hb
    rw [h1, hopen]
    exact ⟨hf2 i (hf1 i hi h2).symm o hol (log_of (Or.inr (Or.inl hos))), h3⟩
/-- Without an open one at most one is left. -/
theorem no_open {P : Int} {bs : List Bk} {es : List Ent} {k : Nat} {before : Int} (hm : MayF P bs) (h : FifoI P bs es k before) (ho : oldE es = none) (hos : ∀ i, i < bs.length → (es.getD i Ent.zero).s ≠ 2) : cntP logE es bs.length ≤ 1 := by
  obtain ⟨f, hf1, hf2⟩ := h.last hm ho
  rw [cntP_N]
  refine cntN_one _ (fun i j hi hj h1 h2 => ?_)
  have a := hf1 i hi (cand_of.2 ⟨h1, hos i hi⟩)
  have b := hf1 j hj (cand_of.2 ⟨h2, hos j hj⟩)
  rw [← b] at a
  exact Option.some.inj a
end Go.Proofs.Ytgijbpkfheillaa
