/-
  SEAT YtnopljjngbgpdabDoor: the reference's pieces are the chain that Pack lays down.
-/
import Derived.Test.YtnopljjngbgpdabDoorPr
namespace Go.Proofs.YtnopljjngbgpdabDoor
open Go.RowKit
set_option linter.unusedVariables false

/-- The pieces ps tell the first k pages. -/
structure PkS (xs : List Int) (L N : Nat) (ps : List Pc) (k : Nat) : Prop where
  ch : chain L Pc.z ps
  pg : pgs ps = chunks L k xs
  z0 : k = 0 → ps = []
  la : 0 < k → (lastP Pc.z ps).g = pgK xs L (k - 1)
  st : k = 0 ∨ k = N ∨ (lastP Pc.z ps).k = 1 ∨ (lastP Pc.z ps).n = 65535 ∨ kindL xs L k ≠ (lastP Pc.z ps).k
  bl : 0 < k → (lastP Pc.z ps).k = 0 → blankB (pgK xs L (k - 1)) = true
theorem PkS.nil (xs : List Int) (L N : Nat) : PkS xs L N [] 0 :=
  ⟨trivial, rfl, fun _ => rfl, fun h => absurd h (by omega), Or.inl rfl, fun h => absurd h (by omega)⟩
theorem chunks_snoc (L k : Nat) (xs : List Int) : chunks L (k + 1) xs = chunks L k xs ++ [pgK xs L k] := by
  unfold chunks pgK
  rw [List.range_succ, List.map_append, List.map_singleton]
theorem chunks_rep (L k : Nat) (xs G : List Int) : ∀ r, (∀ j, j < r → pgK xs L (k + j) = G) → chunks L (k + r) xs = chunks L k xs ++ List.replicate r G
  | 0, _ => by simp
  | r + 1, h => by
    rw [show k + (r + 1) = (k + r) + 1 by omega, chunks_snoc, chunks_rep L k xs G r (fun j hj => h j (by omega)), h r (by omega), List.append_assoc, ← List.replicate_succ']
theorem kind0 {xs : List Int} {L k : Nat} (h : kindL xs L k = 0) : blankB (pgK xs L k) = true := by
  unfold kindL at h
  split at h
  · assumption
  · split at h <;> omega
theorem kind1 {xs : List Int} {L k : Nat} (h : kindL xs L k = 1) : blankB (pgK xs L k) = false ∧ (0 < k → pgK xs L k ≠ pgK xs L (k - 1)) := by
  unfold kindL at h
  split at h
  · omega
  · next hb =>
    split at h
    · omega
    · next hc => exact ⟨(Bool.not_eq_true _).mp hb, fun h1 h2 => hc ⟨h1, h2⟩⟩
theorem kind2 {xs : List Int} {L k : Nat} (h : kindL xs L k = 2) : blankB (pgK xs L k) = false ∧ 0 < k ∧ pgK xs L k = pgK xs L (k - 1) := by
  unfold kindL at h
  split at h
  · omega
  · next hb =>
    split at h
    · next hc => exact ⟨(Bool.not_eq_true _).mp hb, hc⟩
    · omega
theorem pgs_snoc1 (ps : List Pc) (p : Pc) : pgs (ps ++ [p]) = pgs ps ++ List.replicate p.n p.g := by
  rw [pgs_append]
  simp [pgs]
theorem PkS.told {xs : List Int} {L N k : Nat} {ps : List Pc} (h : PkS xs L N ps k) (hL : 0 < L) (hlen : ∀ j, j < N → (pgK xs L j).length = L) (hk : k < N) (h1 : kindL xs L k = 1) : PkS xs L N (ps ++ [⟨1, 1, pgK xs L k⟩]) (k + 1) := by
  obtain ⟨hb, hp⟩ := kind1 h1
  have hl := hlen k hk
  refine ⟨(chain_snoc L _ ps _).2 ⟨h.ch, ?_, Or.inr (Or.inl ⟨rfl, rfl, hl⟩)⟩, ?_, fun e => by omega, fun _ => ?_, ?_, fun _ e => ?_⟩
  · unfold stands
    rw [if_pos rfl, hb]
    have hne : pgK xs L k ≠ (lastP Pc.z ps).g := by
      rcases Nat.eq_zero_or_pos k with h0 | h0
      · rw [h.z0 h0]
        intro e
        rw [e] at hl
        simp [lastP, Pc.z] at hl
        omega
      · rw [h.la h0]
        exact hp h0
    simp only [Bool.not_false, Bool.true_and, Bool.not_eq_true']
    exact beq_eq_false_iff_ne.2 hne
  · rw [pgs_snoc1, h.pg, chunks_snoc]
    rfl
  · rw [lastP_snoc]
    rfl
  · rw [lastP_snoc]
    exact Or.inr (Or.inr (Or.inl rfl))
  · rw [lastP_snoc] at e
    cases e
theorem PkS.run {xs : List Int} {L N k r wk : Nat} {ps : List Pc} (h : PkS xs L N ps k) (hlen : ∀ j, j < N → (pgK xs L j).length = L) (hk : k < N) (hw : kindL xs L k = wk) (h1 : wk ≠ 1) (hr : RunAt xs L N k wk r) : ∃ G, PkS xs L N (ps ++ [⟨wk, r, G⟩]) (k + r) ∧ 1 ≤ r := by
  have hr1 : 1 ≤ r := by
    rcases hr.stop with h8 | h8 | h8
    · omega
    · omega
    · rcases Nat.eq_zero_or_pos r with h0 | h0
      · rw [h0, Nat.add_zero] at h8
        exact absurd hw h8
      · exact h0
  have hwk := kind_le xs L k
  rw [hw] at hwk
  have hst : ∀ G : List Int, stands ⟨wk, r, G⟩ (lastP Pc.z ps) = true := by
    intro G
    unfold stands
    simp only
    rw [if_neg h1]
    rcases Nat.eq_zero_or_pos k with h0 | h0
    · rw [h.z0 h0]
      have hw0 : ¬ wk = 2 := fun e => by
        rw [e] at hw
        have := (kind2 hw).2.1
        omega
      rw [if_neg (fun e => hw0 e.1)]
      simp [lastP, Pc.z]
    · have hn2 : ¬ (wk = 2 ∧ (lastP Pc.z ps).k = 0) := fun e => by
        have e1 := h.bl h0 e.2
        rw [e.1] at hw
        obtain ⟨e2, _, e3⟩ := kind2 hw
        rw [e3, e1] at e2
        cases e2
      rw [if_neg hn2]
      rcases h.st with h8 | h8 | h8 | h8 | h8
      · omega
      · omega
      · simp [h8, h1]
      · simp [h8]
      · rw [hw] at h8
        simp [h8]
  rcases (show wk = 0 ∨ wk = 2 by omega) with h2 | h2
  · have hG : ∀ j, j < r → pgK xs L (k + j) = List.replicate L 255 := fun j hj => by
      have h9 := blank_eq (kind0 ((hr.all j hj).trans h2))
      rwa [hlen (k + j) (by have := hr.room; omega)] at h9
    refine ⟨List.replicate L 255, ⟨(chain_snoc L _ ps _).2 ⟨h.ch, hst _, Or.inl ⟨h2, hr1, hr.most, rfl⟩⟩, ?_, fun e => by omega, fun _ => ?_, ?_, fun _ _ => ?_⟩, hr1⟩
    · rw [pgs_snoc1, h.pg, chunks_rep L k xs _ r hG]
    · rw [lastP_snoc, show k + r - 1 = k + (r - 1) by omega, hG (r - 1) (by omega)]
    · rw [lastP_snoc]
      rcases hr.stop with h8 | h8 | h8
      · exact Or.inr (Or.inl h8)
      · exact Or.inr (Or.inr (Or.inr (Or.inl h8)))
      · exact Or.inr (Or.inr (Or.inr (Or.inr h8)))
    · rw [show k + r - 1 = k + (r - 1) by omega, hG (r - 1) (by omega)]
      exact blank_rep L
  · have hk0 : 0 < k := by
      rw [h2] at hw
      exact (kind2 hw).2.1
    have hG : ∀ j, j < r → pgK xs L (k + j) = pgK xs L (k - 1) := fun j => by
      induction j with
      | zero =>
        intro hj
        exact (kind2 ((hr.all 0 hj).trans h2)).2.2
      | succ j ih =>
        intro hj
        have h9 := (kind2 ((hr.all (j + 1) hj).trans h2)).2.2
        rw [show k + (j + 1) - 1 = k + j by omega] at h9
        exact h9.trans (ih (by omega))
    refine ⟨(lastP Pc.z ps).g, ⟨(chain_snoc L _ ps _).2 ⟨h.ch, hst _, Or.inr (Or.inr ⟨h2, hr1, hr.most, rfl⟩)⟩, ?_, fun e => by omega, fun _ => ?_, ?_, fun _ e => ?_⟩, hr1⟩
    · rw [pgs_snoc1, h.pg, chunks_rep L k xs _ r hG, h.la hk0]
    · rw [lastP_snoc, show k + r - 1 = k + (r - 1) by omega, hG (r - 1) (by omega), h.la hk0]
    · rw [lastP_snoc]
      rcases hr.stop with h8 | h8 | h8
      · exact Or.inr (Or.inl h8)
      · exact Or.inr (Or.inr (Or.inr (Or.inl h8)))
      · exact Or.inr (Or.inr (Or.inr (Or.inr h8)))
    · rw [lastP_snoc] at e
      simp only at e
      omega

end Go.Proofs.YtnopljjngbgpdabDoor
