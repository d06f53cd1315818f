/-
  SEAT Ytgijbpkfheillaa: BlocksMay: what is so of the book behind any calls.
-/
import Derived.Test.YtgijbpkfheillaaFpB
namespace Go.Proofs.Ytgijbpkfheillaa
open Go.RowKit
set_option linter.unusedVariables false

/-- An entry as it may be; v: it is the victim. -/
structure RowE (P last : Int) (i : Nat) (v : Prop) (e : Ent) : Prop where
  a : 0 ≤ e.s ∧ e.s ≤ 6
  z : e.s = 0 ∨ e.s = 5 ∨ e.s = 6 → e.h = 0 ∧ e.r = false ∧ e.l = 0
  d : e.s = 3 → e.l = 0
  h : e.s = 1 ∨ e.s = 2 ∨ e.s = 3 ∨ e.s = 4 → 1 ≤ e.h ∧ e.h ≤ 281474976710655
  l : 0 ≤ e.l ∧ e.l ≤ P - 1
  u : e.s = 1 → e.r = true ∨ 0 < e.l ∨ v
  q : e.s = 5 → (i : Int) = last
  p : (i : Int) = last → e.s ≠ 0 ∧ e.s ≠ 6
  f : e.left = true → e.s = 4
/-- The book as it may be. -/
structure Inv (P last : Int) (es : List Ent) (vo : Option Nat) : Prop where
  row : ∀ i, i < es.length → RowE P last i (vo = some i) (es.getD i Ent.zero)
  heads : ∀ i j, i < es.length → j < es.length → (es.getD i Ent.zero).h ≠ 0 → (es.getD i Ent.zero).h = (es.getD j Ent.zero).h → i = j
  opn : ∀ i j, i < es.length → j < es.length → (es.getD i Ent.zero).s = 2 → (es.getD j Ent.zero).s = 2 → i = j
  ln : -1 ≤ last ∧ last < es.length
  vl : ∀ a, vo = some a → a < es.length
section
variable {P last : Int} {es : List Ent} {vo vo' : Option Nat}
theorem RowE.mono {i : Nat} {v v' : Prop} {e : Ent} (h : RowE P last i v e) (hv : v → v') : RowE P last i v' e :=
  ⟨h.a, h.z, h.d, h.h, h.l, fun q => (h.u q).imp id (fun k => k.imp id hv), h.q, h.p, h.f⟩
theorem RowE.head (hp : 4 ≤ P) {i : Nat} {v : Prop} {e : Ent} (h : RowE P last i v e) : 0 ≤ e.h ∧ e.h ≤ 281474976710655 := by
  have ha := h.a
  by_cases hz : e.s = 0 ∨ e.s = 5 ∨ e.s = 6
  · have := (h.z hz).1; omega
  · have := h.h (by omega); omega
theorem Inv.put (h : Inv P last es vo) {i : Nat} (hi : i < es.length) {x : Ent} (hv : ∀ j, j ≠ i → vo = some j → vo' = some j) (hvl : ∀ a, vo' = some a → a < es.length) (hx : RowE P last i (vo' = some i) x) (hh : x.h = 0 ∨ x.h = (es.getD i Ent.zero).h ∨ ∀ j, j < es.length → (es.getD j Ent.zero).h < x.h) (ho : x.s = 2 → (es.getD i Ent.zero).s = 2 ∨ ∀ j, j < es.length → (es.getD j Ent.zero).s ≠ 2) : Inv P last (es.set i x) vo' := by
  have hd : ∀ j, (es.set i x).getD j Ent.zero = if j = i then x else es.getD j Ent.zero := fun j => by
    split
    · rename_i e; subst e; exact getD_set_same _ _ _ hi
    · rename_i e; exact getD_set_other _ _ _ _ e
  refine ⟨fun j hj => ?_, fun j k hj hk h0 he => ?_, fun j k hj hk h1 h2 => ?_, by rw [List.length_set]; exact h.ln, by rw [List.length_set]; exact hvl⟩
  · rw [List.length_set] at hj
    rw [hd]
    split
    · rename_i e; subst e; exact hx
    · rename_i e; exact (h.row j hj).mono (hv j e)
  · rw [List.length_set] at hj hk
    rw [hd] at h0
    rw [hd, hd] at he
    by_cases e1 : j = i
    · by_cases e2 : k = i
      · omega
      · rw [if_pos e1, if_neg e2] at he
        rw [if_pos e1] at h0
        rcases hh with q | q | q
        · exact absurd q h0
        · have := h.heads i k hi hk (by rw [← q]; exact h0) (by rw [← q]; exact he); omega
        · have := q k hk; omega
    · by_cases e2 : k = i
      · rw [if_neg e1, if_pos e2] at he
        rw [if_neg e1] at h0
        rcases hh with q | q | q
        · exact absurd (he.trans q) h0
        · have := h.heads j i hj hi h0 (by rw [he, q]); omega
        · have := q j hj; omega
      · rw [if_neg e1, if_neg e2] at he
        rw [if_neg e1] at h0
        exact h.heads j k hj hk h0 he
  · rw [List.length_set] at hj hk
    rw [hd] at h1 h2
    by_cases e1 : j = i
    · by_cases e2 : k = i
      · omega
      · rw [if_pos e1] at h1
        rw [if_neg e2] at h2
        rcases ho h1 with q | q
        · have := h.opn i k hi hk q h2; omega
        · exact absurd h2 (q k hk)
    · by_cases e2 : k = i
      · rw [if_neg e1] at h1
        rw [if_pos e2] at h2
        rcases ho h2 with q | q
        · have := h.opn j i hj hi h1 q; omega
        · exact absurd h1 (q j hj)
      · rw [if_neg e1] at h1
        rw [if_neg e2] at h2
        exact h.opn j k hj hk h1 h2
/-- What is emptied. -/
theorem RowE.empty {i : Nat} {v : Prop} (hp : 4 ≤ P) : RowE P last i v ⟨if (i : Int) = last then 5 else 0, 0, false, 0, false⟩ := by
  by_cases e : (i : Int) = last
  · rw [if_pos e]
    exact ⟨by simp, by simp, by simp, by simp, by simp; omega, by simp, by simp [e], by simp, by simp⟩
  · rw [if_neg e]
    exact ⟨by simp, by simp, by simp, by simp, by simp; omega, by simp, by simp, (fun q => absurd q e), by simp⟩
/-- A block is written, and emptied if it is used with nothing in it. -/
theorem Inv.settle (h : Inv P last es vo) (hp : 4 ≤ P) {i : Nat} (hi : i < es.length) {x : Ent} {vic : Int} (hvo : optI vo = vic) (hx : RowE P last i True x) (hh : x.h = (es.getD i Ent.zero).h) (ho : x.s = 2 → (es.getD i Ent.zero).s = 2) : Inv P last (settleE (es.set i x) last vic i) vo := by
  unfold settleE
  rw [getD_set_same _ _ _ hi, List.set_set]
  split
  · exact h.put hi (fun j _ q => q) h.vl (RowE.empty hp) (Or.inl rfl) (fun q => by simp only at q; split at q <;> cases q)
  · rename_i hn
    refine h.put hi (fun j _ q => q) h.vl ⟨hx.a, hx.z, hx.d, hx.h, hx.l, (fun s1 => ?_), hx.q, hx.p, hx.f⟩ (Or.inr (Or.inl hh)) (fun q => Or.inl (ho q))
    by_cases hr : x.r = true
    · exact Or.inl hr
    · by_cases hl : 0 < x.l
      · exact Or.inr (Or.inl hl)
      · refine Or.inr (Or.inr ?_)
        have hl0 : x.l = 0 := by have := hx.l; omega
        have hr0 : x.r = false := by simpa using hr
        have : ¬ (i : Int) ≠ vic := fun q => hn ⟨s1, by simp [hollowB, hr0, hl0], q⟩
        cases vo with
        | none => simp only [optI] at hvo; omega
        | some a => simp only [optI] at hvo; congr 1; omega
/-- Clean: another victim; the one ahead is emptied if nothing is in it. -/
theorem Inv.clean (h : Inv P last es vo) (hp : 4 ≤ P) {vic : Int} (hvo : optI vo' = vic) (hvl : ∀ a, vo' = some a → a < es.length) : Inv P last (settleO es last vic vo) vo' := by
  cases vo with
  | none => exact ⟨fun i hi => (h.row i hi).mono (fun q => by cases q), h.heads, h.opn, h.ln, hvl⟩
  | some a =>
    have ha := h.vl a rfl
    unfold settleO settleE
    simp only
    split
    · exact h.put ha (fun j hj q => absurd (by injection q with q; exact q.symm) hj) hvl (RowE.empty hp) (Or.inl rfl) (fun q => by simp only at q; split at q <;> cases q)
    · rename_i hn
      refine ⟨fun i hi => ?_, h.heads, h.opn, h.ln, hvl⟩
      have hr := h.row i hi
      by_cases e : i = a
      · subst e
        refine ⟨hr.a, hr.z, hr.d, hr.h, hr.l, (fun s1 => ?_), hr.q, hr.p, hr.f⟩
        by_cases h1 : (es.getD i Ent.zero).r = true
        · exact Or.inl h1
        · by_cases hl : 0 < (es.getD i Ent.zero).l
          · exact Or.inr (Or.inl hl)
          · refine Or.inr (Or.inr ?_)
            have hl0 : (es.getD i Ent.zero).l = 0 := by have := hr.l; omega
            have hr0 : (es.getD i Ent.zero).r = false := by simpa using h1
            have : ¬ (i : Int) ≠ vic := fun q => hn ⟨s1, by rw [hr0, hl0]; rfl, q⟩
            cases vo' with
            | none => simp only [optI] at hvo; omega
            | some b => simp only [optI] at hvo; congr 1; omega
      · exact hr.mono (fun q => absurd (by injection q with q; exact q.symm) e)
/-- Commit of the open block. -/
theorem Inv.com (h : Inv P last es vo) (hp : 4 ≤ P) {i : Nat} (hi : i < es.length) (hs : (es.getD i Ent.zero).s = 2) : Inv P i (es.map comE) vo := by
  have hz : ∀ j, j < es.length → (comE (es.getD j Ent.zero)).s = 0 ∧ (comE (es.getD j Ent.zero)).h = 0 ∧ ((es.getD j Ent.zero).s = 3 ∨ (es.getD j Ent.zero).s = 5) ∨ comE (es.getD j Ent.zero) = es.getD j Ent.zero ∧ (es.getD j Ent.zero).s ≠ 3 ∧ (es.getD j Ent.zero).s ≠ 5 := fun j hj => by
    unfold comE
    split
    · rename_i q; exact Or.inl ⟨rfl, rfl, q⟩
    · rename_i q; exact Or.inr ⟨rfl, by omega, by omega⟩
  refine ⟨fun j hj => ?_, fun j k hj hk h0 he => ?_, fun j k hj hk h1 h2 => ?_, by rw [List.length_map]; omega, by rw [List.length_map]; exact h.vl⟩
  · rw [List.length_map] at hj
    rw [comD]
    have hr := h.row j hj
    unfold comE
    split
    · rename_i q
      exact ⟨by simp, by simp, by simp, by simp, by simp; omega, by simp, by simp, (fun e => by obtain rfl : j = i := (by omega); omega), by simp⟩
    · rename_i q
      refine ⟨hr.a, hr.z, hr.d, hr.h, hr.l, hr.u, (fun e => absurd e (by omega)), (fun e => ?_), hr.f⟩
      obtain rfl : j = i := by omega
      omega
  · rw [List.length_map] at hj hk
    rw [comD] at h0
    rw [comD, comD] at he
    rcases hz j hj with ⟨_, q, _⟩ | ⟨q, _⟩
    · exact absurd q h0
    · rcases hz k hk with ⟨_, p, _⟩ | ⟨p, _⟩
      · exact absurd (he.trans p) h0
      · rw [q] at h0 he
        rw [p] at he
        exact h.heads j k hj hk h0 he
  · rw [List.length_map] at hj hk
    rw [comD] at h1 h2
    rcases hz j hj with ⟨q, _⟩ | ⟨q, _⟩
    · omega
    · rcases hz k hk with ⟨p, _⟩ | ⟨p, _⟩
      · omega
      · rw [q] at h1
        rw [p] at h2
        exact h.opn j k hj hk h1 h2
end
end Go.Proofs.Ytgijbpkfheillaa
