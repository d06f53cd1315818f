/-
  SEAT Ytjhphkfpcpfdnaa: what a chip does leaves it sound.
-/
import Derived.Test.YtjhphkfpcpfdnaaLc
namespace Go.Proofs.Ytjhphkfpcpfdnaa
open Go.RowKit Go.Conc
set_option linter.unusedVariables false

theorem set_ps {P : Nat} {l : List Bl} {b' : Bl} (i : Nat) (h : ∀ b ∈ l, b.ps.length = P) (h' : b'.ps.length = P) : ∀ c ∈ l.set i b', c.ps.length = P := fun c hc => by
  rcases List.mem_or_eq_of_mem_set hc with h1 | h1
  · exact h c h1
  · rw [h1]; exact h'
theorem note_ok {C C' : Ch} {k a b r : Int} (h : C.Ok) (hf : C'.B = C.B ∧ C'.P = C.P ∧ C'.S = C.S) (hl : C'.bl.length = C.B) (hp : ∀ b ∈ C'.bl, b.ps.length = C.P) (hc : C'.cnt ≤ C.cnt + 1) (ht : C'.tr = C.tr) (hfl : ∀ b p, ∀ z ∈ C'.fl b p, z < 8 * pgB C.S) : (noteC k a b (r, C')).2.Ok := by
  obtain ⟨e1, e2, e3⟩ := hf
  refine ⟨by show Fits C'.B C'.P C'.S = true; rw [e1, e2, e3]; exact h.fits, by show C'.bl.length = C'.B; rw [e1]; exact hl, by show ∀ b ∈ C'.bl, b.ps.length = C'.P; rw [e2]; exact hp, ?_, by show ∀ b p, ∀ z ∈ C'.fl b p, z < 8 * pgB C'.S; rw [e3]; exact hfl⟩
  show C'.cnt ≤ (C'.tr ++ _).length
  have := h.cnt
  rw [ht]
  simp
  omega
theorem ProgramC_ok (C : Ch) (h : C.Ok) (pb pp : Int) (n1 n2 : Nat) (want : List Int) : (ProgramC C pb pp n1 n2 want).2.Ok := by
  unfold ProgramC
  split
  · exact h
  split
  · exact h
  have same : ∀ r : Int, (noteC 1 pb pp (r, C)).2.Ok := fun r => note_ok h ⟨rfl, rfl, rfl⟩ h.bl h.ps (Nat.le_succ _) rfl h.fl
  unfold progC
  split
  · exact same 41
  split
  · exact same 41
  rename_i b hb
  split
  · exact same 43
  split
  · exact same 41
  rename_i q hq
  refine note_ok h ⟨rfl, rfl, rfl⟩ ?_ ?_ (Nat.le_refl _) rfl h.fl
  · show (C.bl.set _ _).length = _
    simp [h.bl]
  · refine set_ps _ h.ps ?_
    show (b.ps.set _ _).length = _
    rw [List.length_set]
    exact h.ps b (List.mem_of_getElem? hb)
theorem EraseC_ok (C : Ch) (h : C.Ok) (pb : Int) : (EraseC C pb).2.Ok := by
  unfold EraseC
  split
  · exact h
  have same : ∀ r : Int, (noteC 2 pb 0 (r, C)).2.Ok := fun r => note_ok h ⟨rfl, rfl, rfl⟩ h.bl h.ps (Nat.le_succ _) rfl h.fl
  unfold eraseC
  split
  · exact same 41
  split
  · exact same 41
  rename_i b hb
  split
  · exact same 43
  refine note_ok h ⟨rfl, rfl, rfl⟩ ?_ ?_ (Nat.le_refl _) rfl ?_
  · show (C.bl.set _ _).length = _
    simp [h.bl]
  · refine set_ps _ h.ps ?_
    show (erJ _ _ _ _ b.ps _).length = _
    rw [erJ_len]
    exact h.ps b (List.mem_of_getElem? hb)
  · show ∀ x p, ∀ z ∈ flJ C.fl pb C.P x p, z < 8 * pgB C.S
    generalize C.P = j
    induction j with
    | zero => exact h.fl
    | succ j ih =>
      intro x p z hz
      unfold flJ at hz
      split at hz
      · cases hz
      · exact ih x p z hz
theorem MarkC_ok (C : Ch) (h : C.Ok) (pb : Int) : (MarkC C pb).2.Ok := by
  unfold MarkC
  split
  · exact h
  have same : ∀ r : Int, (noteC 3 pb 0 (r, C)).2.Ok := fun r => note_ok h ⟨rfl, rfl, rfl⟩ h.bl h.ps (Nat.le_succ _) rfl h.fl
  unfold markC
  split
  · exact same 41
  split
  · exact same 41
  rename_i b hb
  refine note_ok h ⟨rfl, rfl, rfl⟩ ?_ ?_ (Nat.le_refl _) rfl h.fl
  · show (C.bl.set _ _).length = _
    simp [h.bl]
  · exact set_ps _ h.ps (h.ps b (List.mem_of_getElem? hb))
theorem FlipC_ok (C : Ch) (h : C.Ok) (pb pp bit : Int) : (FlipC C pb pp bit).2.Ok := by
  unfold FlipC
  split
  · exact h
  split
  · exact h
  split
  · exact h
  split
  · exact h
  rename_i q hq hif
  simp at hif
  refine ⟨h.fits, h.bl, h.ps, h.cnt, ?_⟩
  intro x p z hz
  change z ∈ flS C.fl pb pp bit.toNat x p at hz
  unfold flS at hz
  split at hz
  · rcases List.mem_append.1 hz with h1 | h1
    · exact h.fl _ _ z h1
    · simp at h1
      show z < 8 * pgB C.S
      omega
  · exact h.fl _ _ z hz
theorem On_ok (C : Ch) (h : C.Ok) : ({ C with dark := false } : Ch).Ok := ⟨h.fits, h.bl, h.ps, h.cnt, h.fl⟩
end Go.Proofs.Ytjhphkfpcpfdnaa
