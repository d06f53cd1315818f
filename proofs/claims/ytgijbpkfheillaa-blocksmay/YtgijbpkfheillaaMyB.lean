/-
  SEAT Ytgijbpkfheillaa: BlocksMay: the list with its hollow blocks taken out.
-/
import Derived.Test.YtgijbpkfheillaaMyA
namespace Go.Proofs.Ytgijbpkfheillaa
open Go.RowKit
set_option linter.unusedVariables false

/-- A used block with nothing in it as a free or held one. -/
def holP (b : Bk) : Bool := (b.s == 1) && hollowB b.r b.l
def holBk (last : Int) (i : Nat) (b : Bk) : Bk := if holP b then ⟨if (i : Int) = last then 5 else 0, 0, false, 0⟩ else b
def holL (last : Int) (bs : List Bk) : Nat → List Bk
  | 0 => []
  | k + 1 => holL last bs k ++ [holBk last k (bs.getD k Bk.zero)]
def holN (bs : List Bk) : Nat → Nat
  | 0 => 0
  | k + 1 => holN bs k + (if holP (bs.getD k Bk.zero) then 1 else 0)
theorem holL_len (last : Int) (bs : List Bk) : ∀ k, (holL last bs k).length = k
  | 0 => rfl
  | k + 1 => by rw [holL, List.length_append, holL_len last bs k]; rfl
theorem holL_get (last : Int) (bs : List Bk) (i : Nat) : ∀ k, i < k → (holL last bs k).getD i Bk.zero = holBk last i (bs.getD i Bk.zero)
  | 0, h => absurd h (Nat.not_lt_zero _)
  | k + 1, h => by
    have hl := holL_len last bs k
    rw [holL, List.getD_eq_getElem?_getD]
    by_cases e : i < k
    · rw [List.getElem?_append_left (by omega), ← List.getD_eq_getElem?_getD, holL_get last bs i k e]
    · obtain rfl : i = k := by omega
      rw [List.getElem?_append_right (by omega), hl, Nat.sub_self]
      rfl
theorem holN_le (bs : List Bk) : ∀ k, holN bs k ≤ k
  | 0 => Nat.le_refl _
  | k + 1 => by have := holN_le bs k; rw [holN]; split <;> omega
theorem holN_zero {bs : List Bk} : ∀ k, holN bs k = 0 → ∀ i, i < k → holP (bs.getD i Bk.zero) = false
  | 0, _, i, hi => absurd hi (Nat.not_lt_zero _)
  | k + 1, h, i, hi => by
    rw [holN] at h
    by_cases e : i = k
    · subst e
      cases hq : holP (bs.getD i Bk.zero) with
      | false => rfl
      | true => rw [hq] at h; simp at h
    · exact holN_zero k (by omega) i (by omega)
theorem holN_none {bs : List Bk} : ∀ k, (∀ i, i < k → holP (bs.getD i Bk.zero) = false) → holN bs k = 0
  | 0, _ => rfl
  | k + 1, h => by rw [holN, holN_none k (fun i hi => h i (by omega)), h k (by omega)]; rfl
theorem holN_one {bs : List Bk} : ∀ k, (∀ i j, i < k → j < k → holP (bs.getD i Bk.zero) = true → holP (bs.getD j Bk.zero) = true → i = j) → holN bs k ≤ 1
  | 0, _ => Nat.zero_le _
  | k + 1, h => by
    rw [holN]
    cases hq : holP (bs.getD k Bk.zero) with
    | false => have := holN_one k (fun i j hi hj => h i j (by omega) (by omega)); simpa using this
    | true =>
      rw [holN_none k (fun i hi => by
        cases hr : holP (bs.getD i Bk.zero) with
        | false => rfl
        | true => have := h i k (by omega) (by omega) hr hq; omega)]
      simp
theorem getD_ext {bs cs : List Bk} (hl : bs.length = cs.length) (h : ∀ i, i < bs.length → bs.getD i Bk.zero = cs.getD i Bk.zero) : bs = cs := by
  refine List.ext_getElem hl (fun i h1 h2 => ?_)
  have := h i h1
  rwa [List.getD_eq_getElem?_getD, List.getD_eq_getElem?_getD, List.getElem?_eq_getElem h1, List.getElem?_eq_getElem h2, Option.getD_some, Option.getD_some] at this
theorem holL_id (last : Int) {bs : List Bk} (h : holN bs bs.length = 0) : holL last bs bs.length = bs := by
  refine getD_ext (holL_len _ _ _) (fun i hi => ?_)
  rw [holL_len] at hi
  rw [holL_get _ _ _ _ hi]
  unfold holBk
  rw [holN_zero _ h i hi]
  rfl

/-- What makes a list one that may be. -/
theorem opens_zero {bs : List Bk} : ∀ k, (∀ i, i < k → (bs.getD i Bk.zero).s ≠ 2) → opens bs k = 0
  | 0, _ => rfl
  | k + 1, h => by rw [opens, opens_zero k (fun i hi => h i (by omega)), if_neg (h k (by omega))]
theorem opens_one {bs : List Bk} : ∀ k, (∀ i j, i < k → j < k → (bs.getD i Bk.zero).s = 2 → (bs.getD j Bk.zero).s = 2 → i = j) → opens bs k ≤ 1
  | 0, _ => Nat.zero_le _
  | k + 1, h => by
    rw [opens]
    by_cases hq : (bs.getD k Bk.zero).s = 2
    · rw [opens_zero k (fun i hi hr => by have := h i k (by omega) (by omega) hr hq; omega), if_pos hq]
      omega
    · have := opens_one k (fun i j hi hj => h i j (by omega) (by omega))
      rw [if_neg hq]
      exact this
theorem pre_intro {P last : Int} {bs : List Bk} : ∀ k, (∀ i, i < k → rowOk P (bs.getD i Bk.zero).s (bs.getD i Bk.zero).h (bs.getD i Bk.zero).r (bs.getD i Bk.zero).l = true ∧ lastOk (bs.getD i Bk.zero).s ((i : Int) == last) = true) → (∀ i j, i < k → j < k → (bs.getD i Bk.zero).h ≠ 0 → (bs.getD i Bk.zero).h = (bs.getD j Bk.zero).h → i = j) → preOk P last bs k = true
  | 0, _, _ => rfl
  | k + 1, h1, h2 => by
    rw [preOk, pre_intro k (fun i hi => h1 i (by omega)) (fun i j hi hj => h2 i j (by omega) (by omega)), (h1 k (by omega)).1, (h1 k (by omega)).2]
    simp only [Bool.true_and]
    unfold headsOk
    by_cases h0 : (bs.getD k Bk.zero).h = 0
    · rw [h0]; rfl
    · simp only [Bool.or_eq_true, List.all_eq_true, List.mem_range, bne_iff_ne]
      refine Or.inr (fun j hj he => ?_)
      have := h2 k j (by omega) (by omega) h0 he.symm
      omega
theorem may_intro {P last : Int} {bs : List Bk} (h1 : ∀ i, i < bs.length → rowOk P (bs.getD i Bk.zero).s (bs.getD i Bk.zero).h (bs.getD i Bk.zero).r (bs.getD i Bk.zero).l = true ∧ lastOk (bs.getD i Bk.zero).s ((i : Int) == last) = true) (h2 : ∀ i j, i < bs.length → j < bs.length → (bs.getD i Bk.zero).h ≠ 0 → (bs.getD i Bk.zero).h = (bs.getD j Bk.zero).h → i = j) (h3 : ∀ i j, i < bs.length → j < bs.length → (bs.getD i Bk.zero).s = 2 → (bs.getD j Bk.zero).s = 2 → i = j) : mayOk P last bs = true := by
  unfold mayOk
  rw [pre_intro _ h1 h2, decide_eq_true (opens_one _ h3)]
  rfl
theorem pre_last {P last : Int} {bs : List Bk} : ∀ k, preOk P last bs k = true → ∀ i, i < k → lastOk (bs.getD i Bk.zero).s ((i : Int) == last) = true
  | 0, _, i, hi => absurd hi (Nat.not_lt_zero _)
  | k + 1, h, i, hi => by
    rw [preOk] at h
    simp only [Bool.and_eq_true] at h
    by_cases e : i = k
    · subst e
      exact h.2.1.2
    · exact pre_last k h.1 i (by omega)
section
variable {P last : Int} {es : List Ent} {vo : Option Nat}
theorem bkGet (es : List Ent) (i : Nat) (hi : i < es.length) : (es.map Ent.bk).getD i Bk.zero = (es.getD i Ent.zero).bk := by
  rw [List.getD_eq_getElem?_getD, List.getElem?_map, List.getElem?_eq_getElem hi, List.getD_eq_getElem?_getD, List.getElem?_eq_getElem hi]
  rfl
theorem RowE.hol {i : Nat} {v : Prop} {e : Ent} (h : RowE P last i v e) (hh : holP e.bk = true) : v := by
  unfold holP hollowB at hh
  simp only [Ent.bk, Bool.and_eq_true, beq_iff_eq, Bool.not_eq_true'] at hh
  rcases h.u hh.1 with q | q | q
  · rw [q] at hh; simp at hh
  · omega
  · exact q
theorem Inv.hol_one (h : Inv P last es vo) : holN (es.map Ent.bk) es.length ≤ 1 :=
  holN_one _ (fun i j hi hj h1 h2 => by
    rw [bkGet _ _ hi] at h1
    rw [bkGet _ _ hj] at h2
    have q1 := (h.row i hi).hol h1
    have q2 := (h.row j hj).hol h2
    rw [q1] at q2
    injection q2)
theorem headOk_of {h : Int} (hh : 1 ≤ h ∧ h ≤ 281474976710655) : headOk h = true := decide_eq_true (by omega)
theorem liveOk_of {P l : Int} (hl : 0 ≤ l ∧ l ≤ P - 1) : liveOk P l = true := decide_eq_true (by omega)
/-- A block's row, emptied if it is hollow. -/
theorem RowE.row {i : Nat} {v : Prop} {e : Ent} (h : RowE P last i v e) {b : Bk} (hb : holBk last i e.bk = b) : rowOk P b.s b.h b.r b.l = true ∧ lastOk b.s ((i : Int) == last) = true ∧ (b.h = 0 ∨ b.h = e.h) ∧ (b.s = 2 → e.s = 2) := by
  unfold holBk at hb
  by_cases hh : holP e.bk = true
  · rw [if_pos hh] at hb
    subst hb
    by_cases el : (i : Int) = last
    · simp only [if_pos el]
      refine ⟨by simp [rowOk], by simp [lastOk, el], Or.inl trivial, by simp⟩
    · simp only [if_neg el]
      refine ⟨by simp [rowOk], by simp [lastOk, el], Or.inl trivial, by simp⟩
  · rw [if_neg hh] at hb
    subst hb
    have hn : e.s = 1 → e.r = true ∨ 0 < e.l := fun s1 => by
      rcases h.u s1 with q | q | q
      · exact Or.inl q
      · exact Or.inr q
      · by_cases hr : e.r = true
        · exact Or.inl hr
        · by_cases hl : 0 < e.l
          · exact Or.inr hl
          · have hl0 : e.l = 0 := by have := h.l; omega
            have hr0 : e.r = false := by simpa using hr
            exact absurd (by simp [holP, hollowB, Ent.bk, s1, hr0, hl0]) hh
    refine ⟨?_, ?_, Or.inr rfl, id⟩
    · have ha := h.a
      show rowOk P e.s e.h e.r e.l = true
      unfold rowOk
      split
      · rename_i q; exact decide_eq_true (h.z q)
      · rename_i q0
        split
        · rename_i q; rw [headOk_of (h.h (by omega)), h.d q]; rfl
        · split
          · rename_i q
            rw [headOk_of (h.h (by omega)), liveOk_of h.l]
            rcases hn q with k | k
            · rw [k]; rfl
            · rw [decide_eq_true k]; simp
          · rw [if_pos (by omega), headOk_of (h.h (by omega)), liveOk_of h.l]; rfl
    · show lastOk e.s ((i : Int) == last) = true
      unfold lastOk
      by_cases el : (i : Int) = last
      · have := h.p el
        simp [el, this.1, this.2]
      · have : e.s ≠ 5 := fun q => el (h.q q)
        simp [el, this]
theorem Inv.hol_may (h : Inv P last es vo) : mayOk P last (holL last (es.map Ent.bk) es.length) = true := by
  have hb : ∀ i, i < es.length → ∃ b, (holL last (es.map Ent.bk) es.length).getD i Bk.zero = b ∧ holBk last i (es.getD i Ent.zero).bk = b := fun i hi => ⟨_, holL_get _ _ _ _ hi, by rw [bkGet _ _ hi]⟩
  have hl := holL_len last (es.map Ent.bk) es.length
  refine may_intro (fun i hi => ?_) (fun i j hi hj h0 he => ?_) (fun i j hi hj h1 h2 => ?_)
  · rw [hl] at hi
    obtain ⟨b, e1, e2⟩ := hb i hi
    rw [e1]
    have := (h.row i hi).row e2
    exact ⟨this.1, this.2.1⟩
  · rw [hl] at hi hj
    obtain ⟨b, e1, e2⟩ := hb i hi
    obtain ⟨c, e3, e4⟩ := hb j hj
    rw [e1] at h0
    rw [e1, e3] at he
    have r1 := ((h.row i hi).row e2).2.2.1
    have r2 := ((h.row j hj).row e4).2.2.1
    have q1 := r1.resolve_left h0
    have q2 := r2.resolve_left (by rw [← he]; exact h0)
    exact h.heads i j hi hj (by rw [← q1]; exact h0) (by rw [← q1, ← q2]; exact he)
  · rw [hl] at hi hj
    obtain ⟨b, e1, e2⟩ := hb i hi
    obtain ⟨c, e3, e4⟩ := hb j hj
    rw [e1] at h1
    rw [e3] at h2
    exact h.opn i j hi hj (((h.row i hi).row e2).2.2.2 h1) (((h.row j hj).row e4).2.2.2 h2)
/-- The book of a list that may be. -/
theorem Inv.first {bs : List Bk} (h : mayOk P last bs = true) (hp : 4 ≤ P) (hl : -1 ≤ last ∧ last < bs.length) : Inv P last (bs.map Bk.ent) none := by
  have hf := may_facts h
  have hla : ∀ i, i < bs.length → lastOk (bs.getD i Bk.zero).s ((i : Int) == last) = true := by
    have hp1 : preOk P last bs bs.length = true := by
      unfold mayOk at h
      simp only [Bool.and_eq_true] at h
      exact h.1
    exact pre_last _ hp1
  have hd : ∀ i, i < bs.length → (bs.map Bk.ent).getD i Ent.zero = (bs.getD i Bk.zero).ent := fun i hi => entD bs i hi
  refine ⟨fun i hi => ?_, fun i j hi hj => ?_, fun i j hi hj => ?_, by rw [List.length_map]; exact hl, (fun a ha => by cases ha)⟩
  · rw [List.length_map] at hi
    rw [hd i hi]
    have hr := hf.row i hi
    have hq := hla i hi
    obtain ⟨B, hB⟩ : ∃ B, bs.getD i Bk.zero = B := ⟨_, rfl⟩
    rw [hB] at hr hq ⊢
    obtain ⟨s, hd, r, l⟩ := B
    simp only at hr hq
    have h1 := row_states hr
    have h2 : (s = 1 ∨ s = 2 ∨ s = 4) → 1 ≤ hd ∧ hd ≤ 281474976710655 ∧ 0 ≤ l ∧ l ≤ P - 1 := fun q => row_log hr q
    have h3 : (s = 0 ∨ s = 5 ∨ s = 6) → hd = 0 ∧ r = false ∧ l = 0 := fun q => by
      unfold rowOk at hr
      rw [if_pos q] at hr
      exact of_decide_eq_true hr
    have h4 : s = 3 → (1 ≤ hd ∧ hd ≤ 281474976710655) ∧ l = 0 := fun q => by
      unfold rowOk at hr
      rw [if_neg (by omega), if_pos q] at hr
      simp only [Bool.and_eq_true, beq_iff_eq] at hr
      have := of_decide_eq_true hr.1
      exact ⟨by omega, hr.2⟩
    have h5 : s = 1 → r = true ∨ 0 < l := fun q => by
      unfold rowOk at hr
      rw [if_neg (by omega), if_neg (by omega), if_pos q] at hr
      simp only [Bool.and_eq_true, Bool.or_eq_true, decide_eq_true_eq] at hr
      exact hr.2
    refine ⟨h1, h3, (fun q => (h4 q).2), (fun q => ?_), ?_, (fun q => (h5 q).imp id Or.inl), (fun q => ?_), (fun q => ?_), (fun q => by cases q)⟩
    · simp only [Bk.ent] at q ⊢
      by_cases e3 : s = 3
      · exact (h4 e3).1
      · have := h2 (by omega); omega
    · simp only [Bk.ent]
      by_cases e3 : s = 3
      · have := (h4 e3).2; omega
      · by_cases e0 : s = 0 ∨ s = 5 ∨ s = 6
        · have := (h3 e0).2.2; omega
        · have := h2 (by omega); omega
    · simp only [Bk.ent] at q
      subst q
      by_cases el : (i : Int) = last
      · exact el
      · unfold lastOk at hq
        simp [el] at hq
    · simp only [Bk.ent]
      unfold lastOk at hq
      simpa [q] using hq
  · rw [List.length_map] at hi hj
    rw [hd i hi, hd j hj]
    exact hf.heads i j hi hj
  · rw [List.length_map] at hi hj
    rw [hd i hi, hd j hj]
    exact hf.opn i j hi hj
end
/-- No waiting block has left. -/
def NoLeft (es : List Ent) : Prop := ∀ i, i < es.length → (es.getD i Ent.zero).left = false
theorem NoLeft.back {es : List Ent} (h : NoLeft es) : (es.map Ent.bk).map Bk.ent = es := by
  refine List.ext_getElem (by simp) (fun i h1 h2 => ?_)
  have := h i h2
  rw [List.getD_eq_getElem?_getD, List.getElem?_eq_getElem h2, Option.getD_some] at this
  simp only [List.getElem_map, Bk.ent, Ent.bk]
  rw [← this]
theorem NoLeft.put {es : List Ent} (h : NoLeft es) {i : Nat} {x : Ent} (hx : x.left = false) : NoLeft (es.set i x) := fun j hj => by
  rw [List.length_set] at hj
  by_cases e : j = i
  · subst e; rw [getD_set_same _ _ _ hj]; exact hx
  · rw [getD_set_other _ _ _ _ e]; exact h j hj
theorem NoLeft.settle {es : List Ent} (h : NoLeft es) (last vic : Int) (i : Nat) : NoLeft (settleE es last vic i) := by
  unfold settleE
  split
  · exact h.put rfl
  · exact h
theorem NoLeft.com {es : List Ent} (h : NoLeft es) : NoLeft (es.map comE) := fun i hi => by
  rw [List.length_map] at hi
  rw [comD]
  unfold comE
  split
  · rfl
  · exact h i hi
end Go.Proofs.Ytgijbpkfheillaa
