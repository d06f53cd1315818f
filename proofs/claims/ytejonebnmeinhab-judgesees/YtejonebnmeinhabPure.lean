/-
  SEAT Ytejonebnmeinhab: traces, over lists.
-/
import Derived.Test.YtejonebnmeinhabFnE
namespace Go.Proofs.Ytejonebnmeinhab
set_option linter.unusedVariables false

def runs (P : Int) : List Blk → List Cmd → Option (List Blk)
  | st, [] => some st
  | st, c :: r => (see P st c).bind fun st' => runs P st' r

/-- The place of the first command that does not keep the rules. -/
def chk (P : Int) : List Blk → List Cmd → Option Nat
  | _, [] => none
  | st, c :: r => match see P st c with
    | none => some 0
    | some st' => (chk P st' r).map (· + 1)

def chkI (o : Option Nat) : Int := match o with
  | none => -1
  | some k => k

theorem see_length {P : Int} {st st' : List Blk} {c : Cmd} (h : see P st c = some st') : st'.length = st.length := by
  unfold see at h
  split at h
  · cases h; simp
  · cases h

theorem runs_append (P : Int) (st : List Blk) (xs ys : List Cmd) : runs P st (xs ++ ys) = (runs P st xs).bind fun st' => runs P st' ys := by
  induction xs generalizing st with
  | nil => rfl
  | cons c r ih =>
    simp only [List.cons_append, runs]
    cases see P st c with
    | none => rfl
    | some st' => simp [ih]

theorem runs_length {P : Int} {st st' : List Blk} {cs : List Cmd} (h : runs P st cs = some st') : st'.length = st.length := by
  induction cs generalizing st with
  | nil => simp [runs] at h; rw [h]
  | cons c r ih =>
    simp only [runs] at h
    cases hs : see P st c with
    | none => rw [hs] at h; simp at h
    | some st1 =>
      rw [hs] at h
      rw [ih h, see_length hs]

theorem runs_step {P : Int} {st st' st'' : List Blk} {cs : List Cmd} {k : Nat} {c : Cmd} (hk : cs[k]? = some c) (h : runs P st (cs.take k) = some st') (hs : see P st' c = some st'') : runs P st (cs.take (k + 1)) = some st'' := by
  obtain ⟨hlt, rfl⟩ := List.getElem?_eq_some_iff.1 hk
  rw [List.take_succ_eq_append_getElem hlt, runs_append, h]
  simp [runs, hs]

theorem chk_append (P : Int) (st : List Blk) (xs ys : List Cmd) : chk P st (xs ++ ys) = match runs P st xs with
    | none => chk P st xs
    | some st' => (chk P st' ys).map (· + xs.length) := by
  induction xs generalizing st with
  | nil => simp [runs]
  | cons c r ih =>
    simp only [List.cons_append, chk, runs]
    cases hs : see P st c with
    | none => rfl
    | some st' =>
      simp only [Option.bind_some, ih]
      cases hr : runs P st' r with
      | none => rfl
      | some st2 =>
        simp only [Option.map_map, List.length_cons]
        congr 1

theorem chk_runs {P : Int} {st : List Blk} {cs : List Cmd} : chk P st cs = none ↔ (runs P st cs).isSome := by
  induction cs generalizing st with
  | nil => simp [chk, runs]
  | cons c r ih =>
    simp only [chk, runs]
    cases hs : see P st c with
    | none => simp
    | some st' => simp [ih]

theorem chk_at {P : Int} {st st' : List Blk} {cs : List Cmd} {k : Nat} {c : Cmd} (hk : cs[k]? = some c) (h : runs P st (cs.take k) = some st') (hs : see P st' c = none) : chk P st cs = some k := by
  obtain ⟨hlt, rfl⟩ := List.getElem?_eq_some_iff.1 hk
  have e : cs = cs.take k ++ cs[k] :: cs.drop (k + 1) := by
    rw [← List.drop_eq_getElem_cons hlt, List.take_append_drop]
  rw [e, chk_append, h]
  simp [chk, hs]
  omega

theorem chk_lt {P : Int} {st : List Blk} {cs : List Cmd} {k : Nat} (h : chk P st cs = some k) : k < cs.length := by
  induction cs generalizing st k with
  | nil => simp [chk] at h
  | cons c r ih =>
    simp only [chk] at h
    cases hs : see P st c with
    | none => rw [hs] at h; simp at h; subst h; simp
    | some st' =>
      rw [hs] at h
      simp at h
      obtain ⟨j, hj, rfl⟩ := h
      have := ih hj
      simp; omega

theorem chk_split {P : Int} {st : List Blk} {cs : List Cmd} {k : Nat} (h : chk P st cs = some k) : (runs P st (cs.take k)).isSome := by
  induction cs generalizing st k with
  | nil => simp [chk] at h
  | cons c r ih =>
    simp only [chk] at h
    cases hs : see P st c with
    | none => rw [hs] at h; simp at h; subst h; simp [runs]
    | some st' =>
      rw [hs] at h
      simp at h
      obtain ⟨j, hj, rfl⟩ := h
      simp [runs, hs, ih hj]

theorem chkI_lt {o : Option Nat} {n : Nat} (h : ∀ k, o = some k → k < n) : -1 ≤ chkI o ∧ chkI o ≤ n := by
  cases o with
  | none => simp [chkI]
  | some k => have := h k rfl; simp [chkI]; omega
end Go.Proofs.Ytejonebnmeinhab
