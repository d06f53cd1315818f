/-
  SEAT Ytadlkikjfonkgaa: calls of a chip, without memory; faults that meet nothing.
-/
import Derived.Test.YtadlkikjfonkgaaHb
namespace Go.Proofs.Ytadlkikjfonkgaa
open Go.RowKit Go.Conc
set_option linter.unusedVariables false

/-- A call. -/
structure Opc where
  k : Int
  b : Int
  p : Int
  bit : Int
  fit : Bool
  d : List Int
  z : List Int
def Opc.n1 (o : Opc) (S : Nat) : Nat := if o.fit then 256 * S else o.d.length
def Opc.n2 (o : Opc) (S : Nat) : Nat := if o.fit then 54 + 3 * S else o.z.length
def Opc.want (o : Opc) (S : Nat) : List Int := if o.fit then fitL o.d (256 * S) ++ fitL o.z (54 + 3 * S) else o.d ++ o.z
def doesC (C : Ch) (o : Opc) : Int × Ch :=
  if o.k = 1 then ProgramC C o.b o.p (o.n1 C.S) (o.n2 C.S) (o.want C.S) else if o.k = 2 then EraseC C o.b else if o.k = 3 then MarkC C o.b else if o.k = 4 then FlipC C o.b o.p o.bit else if o.k = 5 then (0, { C with dark := false }) else (0, C)
def playC (C : Ch) (ops : List Opc) : Ch := ops.foldl (fun C o => (doesC C o).2) C
theorem playC_snoc (C : Ch) (ops : List Opc) (o : Opc) : playC C (ops ++ [o]) = (doesC (playC C ops) o).2 := by simp [playC]

def setQ (C : Ch) (q : List Ft) : Ch := { C with q := q }
/-- What a call does with the script. -/
def TakesQ (C : Ch) (q' : List Ft) (r s : Int × Ch) : Prop :=
  (r.2.cnt = C.cnt ∧ r.2.q = C.q ∧ s = (r.1, setQ r.2 q')) ∨
  (r.2.cnt = C.cnt + 1 ∧ r.2.q = takeR C.cnt C.q ∧ (takeF C.cnt q' = takeF C.cnt C.q → s = (r.1, setQ r.2 (takeR C.cnt q'))))
theorem prog_q (C : Ch) (q' : List Ft) (pb pp : Int) (n1 n2 : Nat) (want : List Int) : TakesQ C q' (ProgramC C pb pp n1 n2 want) (ProgramC (setQ C q') pb pp n1 n2 want) := by
  unfold ProgramC
  show TakesQ C q' _ (if C.dark = true then _ else if n1 ≠ 256 * C.S ∨ n2 ≠ 54 + 3 * C.S then _ else _)
  by_cases hd : C.dark = true
  · rw [if_pos hd, if_pos hd]; exact Or.inl ⟨rfl, rfl, rfl⟩
  rw [if_neg hd, if_neg hd]
  by_cases hn : n1 ≠ 256 * C.S ∨ n2 ≠ 54 + 3 * C.S
  · rw [if_pos hn, if_pos hn]; exact Or.inl ⟨rfl, rfl, rfl⟩
  rw [if_neg hn, if_neg hn]
  unfold progC
  show TakesQ C q' _ (noteC 1 pb pp (if hasP C.B C.P pb pp = false then _ else match C.bl[pb.toNat]? with | none => _ | some b => if (b.m || !b.r || decide (pp < b.nx)) = true then _ else match b.ps[pp.toNat]? with | none => _ | some q => _))
  by_cases hp : hasP C.B C.P pb pp = false
  · rw [if_pos hp, if_pos hp]; exact Or.inl ⟨rfl, rfl, rfl⟩
  rw [if_neg hp, if_neg hp]
  cases hb : C.bl[pb.toNat]? with
  | none => exact Or.inl ⟨rfl, rfl, rfl⟩
  | some b =>
    simp only []
    by_cases hm : (b.m || !b.r || decide (pp < b.nx)) = true
    · rw [if_pos hm, if_pos hm]; exact Or.inl ⟨rfl, rfl, rfl⟩
    rw [if_neg hm, if_neg hm]
    cases hq : b.ps[pp.toNat]? with
    | none => exact Or.inl ⟨rfl, rfl, rfl⟩
    | some q =>
      refine Or.inr ⟨rfl, rfl, fun ht => ?_⟩
      simp only [noteC, progN, setQ]
      rw [ht]
theorem erase_q (C : Ch) (q' : List Ft) (pb : Int) : TakesQ C q' (EraseC C pb) (EraseC (setQ C q') pb) := by
  unfold EraseC
  show TakesQ C q' _ (if C.dark = true then _ else _)
  by_cases hd : C.dark = true
  · rw [if_pos hd, if_pos hd]; exact Or.inl ⟨rfl, rfl, rfl⟩
  rw [if_neg hd, if_neg hd]
  unfold eraseC
  show TakesQ C q' _ (noteC 2 pb 0 (if hasB C.B pb = false then _ else match C.bl[pb.toNat]? with | none => _ | some b => if b.m = true then _ else _))
  by_cases hp : hasB C.B pb = false
  · rw [if_pos hp, if_pos hp]; exact Or.inl ⟨rfl, rfl, rfl⟩
  rw [if_neg hp, if_neg hp]
  cases hb : C.bl[pb.toNat]? with
  | none => exact Or.inl ⟨rfl, rfl, rfl⟩
  | some b =>
    simp only []
    by_cases hm : b.m = true
    · rw [if_pos hm, if_pos hm]; exact Or.inl ⟨rfl, rfl, rfl⟩
    rw [if_neg hm, if_neg hm]
    refine Or.inr ⟨rfl, rfl, fun ht => ?_⟩
    simp only [noteC, eraseN, setQ]
    rw [ht]
theorem mark_q (C : Ch) (q' : List Ft) (pb : Int) : TakesQ C q' (MarkC C pb) (MarkC (setQ C q') pb) := by
  unfold MarkC
  show TakesQ C q' _ (if C.dark = true then _ else _)
  by_cases hd : C.dark = true
  · rw [if_pos hd, if_pos hd]; exact Or.inl ⟨rfl, rfl, rfl⟩
  rw [if_neg hd, if_neg hd]
  unfold markC
  show TakesQ C q' _ (noteC 3 pb 0 (if hasB C.B pb = false then _ else match C.bl[pb.toNat]? with | none => _ | some b => _))
  by_cases hp : hasB C.B pb = false
  · rw [if_pos hp, if_pos hp]; exact Or.inl ⟨rfl, rfl, rfl⟩
  rw [if_neg hp, if_neg hp]
  cases hb : C.bl[pb.toNat]? with
  | none => exact Or.inl ⟨rfl, rfl, rfl⟩
  | some b =>
    refine Or.inr ⟨rfl, rfl, fun ht => ?_⟩
    simp only [noteC, setQ]
    rw [ht]
theorem flip_q (C : Ch) (q' : List Ft) (pb pp bit : Int) : TakesQ C q' (FlipC C pb pp bit) (FlipC (setQ C q') pb pp bit) := by
  unfold FlipC
  show TakesQ C q' _ (if hasP C.B C.P pb pp = false then _ else match C.bl[pb.toNat]? with | none => _ | some b => match b.ps[pp.toNat]? with | none => _ | some q => if (decide (bit < 0) || decide (8 * (pgB C.S : Int) ≤ bit) || !q.h || flHas C pb pp bit.toNat) = true then _ else _)
  by_cases hp : hasP C.B C.P pb pp = false
  · rw [if_pos hp, if_pos hp]; exact Or.inl ⟨rfl, rfl, rfl⟩
  rw [if_neg hp, if_neg hp]
  cases hb : C.bl[pb.toNat]? with
  | none => exact Or.inl ⟨rfl, rfl, rfl⟩
  | some b =>
    simp only []
    cases hq : b.ps[pp.toNat]? with
    | none => exact Or.inl ⟨rfl, rfl, rfl⟩
    | some q =>
      simp only []
      by_cases hm : (decide (bit < 0) || decide (8 * (pgB C.S : Int) ≤ bit) || !q.h || flHas C pb pp bit.toNat) = true
      · rw [if_pos hm, if_pos hm]; exact Or.inl ⟨rfl, rfl, rfl⟩
      · rw [if_neg hm, if_neg hm]; exact Or.inl ⟨rfl, rfl, rfl⟩
theorem does_q (C : Ch) (q' : List Ft) (o : Opc) : TakesQ C q' (doesC C o) (doesC (setQ C q') o) := by
  unfold doesC
  by_cases h1 : o.k = 1
  · rw [if_pos h1, if_pos h1]; exact prog_q _ _ _ _ _ _ _
  rw [if_neg h1, if_neg h1]
  by_cases h2 : o.k = 2
  · rw [if_pos h2, if_pos h2]; exact erase_q _ _ _
  rw [if_neg h2, if_neg h2]
  by_cases h3 : o.k = 3
  · rw [if_pos h3, if_pos h3]; exact mark_q _ _ _
  rw [if_neg h3, if_neg h3]
  by_cases h4 : o.k = 4
  · rw [if_pos h4, if_pos h4]; exact flip_q _ _ _ _ _
  rw [if_neg h4, if_neg h4]
  by_cases h5 : o.k = 5
  · rw [if_pos h5, if_pos h5]; exact Or.inl ⟨rfl, rfl, rfl⟩
  · rw [if_neg h5, if_neg h5]; exact Or.inl ⟨rfl, rfl, rfl⟩

/-- A script in order, from a number on. -/
def Rises (n : Int) (q : List Ft) : Prop := (∀ f ∈ q, n ≤ f.a) ∧ q.Pairwise (fun f g => f.a < g.a)
def cutQ (n : Nat) (q : List Ft) : List Ft := q.filter (fun f => decide (f.a < (n : Int)))
theorem rises_take {n : Nat} {q : List Ft} (h : Rises n q) : Rises ((n + 1 : Nat) : Int) (takeR n q) := by
  cases q with
  | nil => exact ⟨(fun f hf => by cases hf), List.Pairwise.nil⟩
  | cons f r =>
    have h1 := h.1 f (by simp)
    have h2 := List.pairwise_cons.1 h.2
    by_cases e : f.a = (n : Int)
    · rw [show takeR n (f :: r) = r from if_pos e]
      exact ⟨fun g hg => by have := h2.1 g hg; omega, h2.2⟩
    · rw [show takeR n (f :: r) = f :: r from if_neg e]
      refine ⟨fun g hg => ?_, h.2⟩
      rcases List.mem_cons.1 hg with rfl | hg
      · omega
      · have := h2.1 g hg; omega
theorem cut_take {c n : Nat} {q : List Ft} (h : Rises c q) (hn : c < n) : takeF c (cutQ n q) = takeF c q ∧ takeR c (cutQ n q) = cutQ n (takeR c q) := by
  cases q with
  | nil => exact ⟨rfl, rfl⟩
  | cons f r =>
    have h1 := h.1 f (by simp)
    have h2 := List.pairwise_cons.1 h.2
    by_cases e : f.a = (c : Int)
    · have hk : decide (f.a < (n : Int)) = true := decide_eq_true (by omega)
      have c1 : cutQ n (f :: r) = f :: cutQ n r := List.filter_cons_of_pos hk
      rw [c1]
      exact ⟨(show takeF c (f :: cutQ n r) = f from if_pos e).trans (show takeF c (f :: r) = f from if_pos e).symm, (show takeR c (f :: cutQ n r) = cutQ n r from if_pos e).trans (by rw [show takeR c (f :: r) = r from if_pos e])⟩
    · have hr : ∀ g ∈ cutQ n (f :: r), g.a ≠ (c : Int) := fun g hg => by
        have hg' := (List.mem_filter.1 hg).1
        rcases List.mem_cons.1 hg' with rfl | hg'
        · exact e
        · have := h2.1 g hg'; omega
      have e1 : takeF c (f :: r) = Ft.no ∧ takeR c (f :: r) = f :: r := ⟨if_neg e, if_neg e⟩
      have e2 : ∀ l : List Ft, (∀ g ∈ l, g.a ≠ (c : Int)) → takeF c l = Ft.no ∧ takeR c l = l := fun l hl => by
        cases l with
        | nil => exact ⟨rfl, rfl⟩
        | cons g s => exact ⟨if_neg (hl g (by simp)), if_neg (hl g (by simp))⟩
      rw [e1.1, e1.2]
      exact e2 _ hr
theorem does_cnt (C : Ch) (o : Opc) : C.cnt ≤ (doesC C o).2.cnt := by
  rcases does_q C C.q o with ⟨h, _⟩ | ⟨h, _⟩ <;> omega
theorem play_cnt (ops : List Opc) : ∀ C : Ch, C.cnt ≤ (playC C ops).cnt := by
  induction ops with
  | nil => intro C; exact Nat.le_refl _
  | cons o r ih => intro C; exact Nat.le_trans (does_cnt C o) (ih (doesC C o).2)
/-- What is told of calls, in their order. -/
def toldC (C : Ch) : List Opc → List Int
  | [] => []
  | o :: r => (doesC C o).1 :: toldC (doesC C o).2 r
theorem play_cut (n : Nat) (ops : List Opc) : ∀ (C : Ch), Rises C.cnt C.q → (playC C ops).cnt ≤ n → toldC (setQ C (cutQ n C.q)) ops = toldC C ops ∧ ∃ q, playC (setQ C (cutQ n C.q)) ops = setQ (playC C ops) q := by
  induction ops with
  | nil => intro C _ _; exact ⟨rfl, _, rfl⟩
  | cons o r ih =>
    intro C hr hn
    have hle : (doesC C o).2.cnt ≤ n := Nat.le_trans (play_cnt r _) hn
    rcases does_q C (cutQ n C.q) o with ⟨h1, h2, h3⟩ | ⟨h1, h2, h3⟩
    · have ih1 := ih (doesC C o).2 (by rw [h1, h2]; exact hr) hn
      rw [h2] at ih1
      show (doesC (setQ C (cutQ n C.q)) o).1 :: toldC (doesC (setQ C (cutQ n C.q)) o).2 r = _ ∧ ∃ q, playC (doesC (setQ C (cutQ n C.q)) o).2 r = _
      rw [h3]
      exact ⟨congrArg _ ih1.1, ih1.2⟩
    · obtain ⟨t1, t2⟩ := cut_take hr (show C.cnt < n by omega)
      have h4 := h3 t1
      have ih1 := ih (doesC C o).2 (by rw [h1, h2]; exact rises_take hr) hn
      rw [h2] at ih1
      show (doesC (setQ C (cutQ n C.q)) o).1 :: toldC (doesC (setQ C (cutQ n C.q)) o).2 r = _ ∧ ∃ q, playC (doesC (setQ C (cutQ n C.q)) o).2 r = _
      rw [h4, t2]
      exact ⟨congrArg _ ih1.1, ih1.2⟩
end Go.Proofs.Ytadlkikjfonkgaa
