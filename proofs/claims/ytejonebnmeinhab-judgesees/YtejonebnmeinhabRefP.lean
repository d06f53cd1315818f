/-
  SEAT Ytejonebnmeinhab: what the commands seen so far tell of each block.
-/
import Derived.Test.YtejonebnmeinhabRefA
namespace Go.Proofs.Ytejonebnmeinhab
open Go.RowKit
set_option linter.unusedVariables false

def wearS (blk e : Int) (c : Cmd) : Int := if c.k = 2 ∧ c.b = blk then wrap64 (e + 1) else e
def wearR (seen : List Cmd) (blk : Int) : Int := seen.foldl (wearS blk) 0

def knowAt (P : Int) (clean : Bool) (bs : List Bool) (seen : List Cmd) (i : Nat) : Blk := ⟨markedR (bs.getD i false) seen i, nextR P (firstN clean P) seen i, wearR seen i⟩
def know (P : Int) (clean : Bool) (bs : List Bool) (seen : List Cmd) : List Blk := (List.range bs.length).map (knowAt P clean bs seen)

theorem know_length (P : Int) (clean : Bool) (bs : List Bool) (seen : List Cmd) : (know P clean bs seen).length = bs.length := by simp [know]

theorem know_getD (P : Int) (clean : Bool) (bs : List Bool) (seen : List Cmd) (i : Nat) (h : i < bs.length) : (know P clean bs seen).getD i Blk.zero = knowAt P clean bs seen i := by
  simp [know, List.getD_eq_getElem?_getD, h]

theorem know_nil (P : Int) (clean : Bool) (bs : List Bool) : know P clean bs [] = start clean P bs := by
  apply List.ext_getElem
  · simp [know, start]
  · intro i h1 h2
    have h3 : i < bs.length := by simpa [know] using h1
    simp [know, start, knowAt, markedR, nextR, wearR, List.getD_eq_getElem?_getD, List.getElem?_eq_getElem h3]

theorem knowAt_far (P : Int) (clean : Bool) (bs : List Bool) (seen : List Cmd) (c : Cmd) (i : Nat) (h : c.b ≠ (i : Int)) : knowAt P clean bs (seen ++ [c]) i = knowAt P clean bs seen i := by
  simp [knowAt, markedR, nextR, wearR, List.any_append, List.foldl_append, isMark, nextS, wearS, h]

theorem knowAt_here (P : Int) (clean : Bool) (bs : List Bool) (seen : List Cmd) (c : Cmd) (i : Nat) (h : c.b = (i : Int)) (hk : c.k = 1 ∨ c.k = 2 ∨ c.k = 3) : knowAt P clean bs (seen ++ [c]) i = bhd P (knowAt P clean bs seen i) c := by
  rcases hk with h1 | h1 | h1
  · simp [knowAt, markedR, nextR, wearR, List.any_append, List.foldl_append, isMark, nextS, wearS, h, h1, bhd]
  · simp [knowAt, markedR, nextR, wearR, List.any_append, List.foldl_append, isMark, nextS, wearS, h, h1, bhd]
  · simp [knowAt, markedR, nextR, wearR, List.any_append, List.foldl_append, isMark, nextS, wearS, h, h1, bhd, Bool.or_assoc]

theorem kpt_kind {P : Int} {b : Blk} {c : Cmd} (h : kpt P b c = true) : c.k = 1 ∨ c.k = 2 ∨ c.k = 3 := by
  unfold kpt at h
  split at h
  · exact Or.inl ‹_›
  · split at h
    · exact Or.inr (Or.inl ‹_›)
    · exact Or.inr (Or.inr (by simpa using h))

theorem know_step {P : Int} {clean : Bool} {bs : List Bool} {seen : List Cmd} {c : Cmd} {st : List Blk} (h : see P (know P clean bs seen) c = some st) : st = know P clean bs (seen ++ [c]) := by
  unfold see at h
  split at h
  · rename_i hc
    obtain ⟨h0, h1, ht, hk⟩ := hc
    rw [know_length] at h1
    have hlt : c.b.toNat < bs.length := by omega
    have hcb : c.b = ((c.b.toNat : Nat) : Int) := by omega
    rw [know_getD _ _ _ _ _ hlt] at h hk
    cases h
    apply List.ext_getElem
    · simp [know]
    · intro i h2 h3
      have h4 : i < bs.length := by simpa [know] using h3
      rw [List.getElem_set]
      by_cases hi : c.b.toNat = i
      · subst hi
        rw [if_pos rfl]
        simp only [know, List.getElem_map, List.getElem_range]
        rw [knowAt_here P clean bs seen c _ hcb (kpt_kind hk)]
      · rw [if_neg hi]
        simp only [know, List.getElem_map, List.getElem_range]
        rw [knowAt_far P clean bs seen c i (by omega)]
  · cases h

/-- Which commands a judge has seen that kept the rules, of those that came. -/
def kept (P : Int) : List Blk → List Cmd → List Cmd → List Cmd
  | _, acc, [] => acc
  | st, acc, c :: r => match see P st c with
    | none => kept P st acc r
    | some st' => kept P st' (acc ++ [c]) r
end Go.Proofs.Ytejonebnmeinhab
