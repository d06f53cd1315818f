/-
  SEAT YtmbdacdgbmpedaaDoor: what a walk comes to.
-/
import Derived.Test.YtmbdacdgbmpedaaDoorFx
namespace Go.Proofs.YtmbdacdgbmpedaaDoor
open Go.RowKit
set_option linter.unusedVariables false

structure Res where
  at' : Int
  asked : List (Int × ByteArray)
  e : Int
def Res.cons (a : Int × ByteArray) (r : Res) : Res := ⟨r.at', a :: r.asked, r.e⟩
/-- Where a walk ends, what was asked, the error. -/
def walkR (F : Int → ByteArray → Out) (last : Bool) : Nat → List ByteArray → Int → Nat → Res
  | 0, _, _, _ => ⟨0, [], 0⟩
  | _ + 1, [], p, _ => ⟨p, [], 0⟩
  | n + 1, x :: r, p, k =>
    if (F p x).e ≠ 0 then ⟨0, [(p, x)], (F p x).e⟩
    else if (F p x).is = false ∨ (r = [] ∧ last = false) then (walkR F last n r (F p x).next k).cons (p, x)
    else if k = 8 then ⟨0, [(p, x)], 177⟩
    else if foE (F p x).link r.length ≠ 0 then ⟨0, [(p, x)], foE (F p x).link r.length⟩
    else (walkR F last n (spN (lkT (F p x).link) ++ r) (if begB (F p x).link then 0 else p) (k + 1)).cons (p, x)
theorem walk_len (F : Int → ByteArray → Out) (last : Bool) : ∀ (n : Nat) (to : List ByteArray) (p : Int) (k : Nat), (walkR F last n to p k).asked.length ≤ n
  | 0, _, _, _ => Nat.le_refl _
  | n + 1, [], p, k => by simp [walkR]
  | n + 1, x :: r, p, k => by
    unfold walkR
    split
    · simp
    · split
      · have := walk_len F last n r (F p x).next k
        simp only [Res.cons, List.length_cons]; omega
      · split
        · simp
        · split
          · simp
          · have := walk_len F last n (spN (lkT (F p x).link) ++ r) (if begB (F p x).link then 0 else p) (k + 1)
            simp only [Res.cons, List.length_cons]; omega
/-- How far a walk is. -/
structure Wk (F : Int → ByteArray → Out) (last : Bool) (R : Res) (to : List ByteArray) (p : Int) (k : Nat) (pre : List (Int × ByteArray)) (n : Nat) : Prop where
  fuel : (8 - k) * 65 + to.length < n
  k8 : k ≤ 8
  len : to.length ≤ 64
  asked : pre ++ (walkR F last n to p k).asked = R.asked
  at' : (walkR F last n to p k).at' = R.at'
  e : (walkR F last n to p k).e = R.e
theorem Wk.pre_len {F : Int → ByteArray → Out} {last : Bool} {R : Res} {to : List ByteArray} {p : Int} {k n : Nat} {pre : List (Int × ByteArray)} (h : Wk F last R to p k pre n) (hR : R.asked.length ≤ 1000) : pre.length ≤ 1000 := by
  have := congrArg List.length h.asked
  simp at this; omega
theorem Wk.done {F : Int → ByteArray → Out} {last : Bool} {R : Res} {p : Int} {k n : Nat} {pre : List (Int × ByteArray)} (h : Wk F last R [] p k pre n) : R = ⟨p, pre, 0⟩ := by
  obtain ⟨hf, _, _, h1, h2, h3⟩ := h
  obtain ⟨m, rfl⟩ : ∃ m, n = m + 1 := ⟨n - 1, by omega⟩
  cases R
  simp [walkR] at h1 h2 h3
  simp [h1, h2, h3]
theorem Wk.err {F : Int → ByteArray → Out} {last : Bool} {R : Res} {x : ByteArray} {r : List ByteArray} {p : Int} {k n : Nat} {pre : List (Int × ByteArray)} (h : Wk F last R (x :: r) p k pre n) (he : (F p x).e ≠ 0) : R = ⟨0, pre ++ [(p, x)], (F p x).e⟩ := by
  obtain ⟨hf, _, _, h1, h2, h3⟩ := h
  obtain ⟨m, rfl⟩ : ∃ m, n = m + 1 := ⟨n - 1, by omega⟩
  rw [walkR, if_pos he] at h1 h2 h3
  cases R
  simp at h1 h2 h3
  simp [h1, h2, h3]
theorem Wk.next {F : Int → ByteArray → Out} {last : Bool} {R : Res} {x : ByteArray} {r : List ByteArray} {p : Int} {k n : Nat} {pre : List (Int × ByteArray)} (h : Wk F last R (x :: r) p k pre n) (he : (F p x).e = 0) (hc : (F p x).is = false ∨ (r = [] ∧ last = false)) : Wk F last R r (F p x).next k (pre ++ [(p, x)]) (n - 1) := by
  obtain ⟨hf, h8, hl, h1, h2, h3⟩ := h
  obtain ⟨m, rfl⟩ : ∃ m, n = m + 1 := ⟨n - 1, by omega⟩
  rw [walkR, if_neg (by simp [he]), if_pos hc] at h1 h2 h3
  simp only [List.length_cons] at hf hl
  exact ⟨by simp; omega, h8, by omega, by simpa [Res.cons] using h1, h2, h3⟩
theorem Wk.loop {F : Int → ByteArray → Out} {last : Bool} {R : Res} {x : ByteArray} {r : List ByteArray} {p : Int} {n : Nat} {pre : List (Int × ByteArray)} (h : Wk F last R (x :: r) p 8 pre n) (he : (F p x).e = 0) (hc : ¬ ((F p x).is = false ∨ (r = [] ∧ last = false))) : R = ⟨0, pre ++ [(p, x)], 177⟩ := by
  obtain ⟨hf, _, _, h1, h2, h3⟩ := h
  obtain ⟨m, rfl⟩ : ∃ m, n = m + 1 := ⟨n - 1, by omega⟩
  rw [walkR, if_neg (by simp [he]), if_neg hc, if_pos rfl] at h1 h2 h3
  cases R
  simp at h1 h2 h3
  simp [h1, h2, h3]
theorem Wk.bad {F : Int → ByteArray → Out} {last : Bool} {R : Res} {x : ByteArray} {r : List ByteArray} {p : Int} {k n : Nat} {pre : List (Int × ByteArray)} (h : Wk F last R (x :: r) p k pre n) (he : (F p x).e = 0) (hc : ¬ ((F p x).is = false ∨ (r = [] ∧ last = false))) (hk : k ≠ 8) (hf0 : foE (F p x).link r.length ≠ 0) : R = ⟨0, pre ++ [(p, x)], foE (F p x).link r.length⟩ := by
  obtain ⟨hf, _, _, h1, h2, h3⟩ := h
  obtain ⟨m, rfl⟩ : ∃ m, n = m + 1 := ⟨n - 1, by omega⟩
  rw [walkR, if_neg (by simp [he]), if_neg hc, if_neg hk, if_pos hf0] at h1 h2 h3
  cases R
  simp at h1 h2 h3
  simp [h1, h2, h3]
theorem fo_len {l : ByteArray} {n : Nat} (h : foE l n = 0) : l.data.toList ≠ [] ∧ spE (lkT l) = 0 ∧ (spN (lkT l)).length + n ≤ 64 := by
  unfold foE at h
  by_cases h0 : l.data.toList = []
  · rw [if_pos h0] at h; cases h
  · rw [if_neg h0] at h
    by_cases h1 : spE (lkT l) = 0
    · rw [if_pos h1] at h
      by_cases h2 : 64 < (spN (lkT l)).length + n
      · rw [if_pos h2] at h; cases h
      · exact ⟨h0, h1, by omega⟩
    · rw [if_neg h1] at h; exact absurd h h1
theorem Wk.go {F : Int → ByteArray → Out} {last : Bool} {R : Res} {x : ByteArray} {r : List ByteArray} {p : Int} {k n : Nat} {pre : List (Int × ByteArray)} (h : Wk F last R (x :: r) p k pre n) (he : (F p x).e = 0) (hc : ¬ ((F p x).is = false ∨ (r = [] ∧ last = false))) (hk : k ≠ 8) (hf0 : foE (F p x).link r.length = 0) :
    Wk F last R (spN (lkT (F p x).link) ++ r) (if begB (F p x).link then 0 else p) (k + 1) (pre ++ [(p, x)]) (n - 1) := by
  obtain ⟨hf, h8, hl, h1, h2, h3⟩ := h
  obtain ⟨m, rfl⟩ : ∃ m, n = m + 1 := ⟨n - 1, by omega⟩
  rw [walkR, if_neg (by simp [he]), if_neg hc, if_neg hk, if_neg (by simp [hf0])] at h1 h2 h3
  have hlen := (fo_len hf0).2.2
  simp only [List.length_cons] at hf hl
  exact ⟨by rw [List.length_append]; simp; omega, by omega, by rw [List.length_append]; omega, by simpa [Res.cons] using h1, h2, h3⟩
theorem Wk.start (F : Int → ByteArray → Out) (last : Bool) (to : List ByteArray) (hl : to.length ≤ 64) : Wk F last (walkR F last 1000 to 0 0) to 0 0 [] 1000 := ⟨by omega, by omega, hl, rfl, rfl, rfl⟩
theorem walk_small (F : Int → ByteArray → Out) (last : Bool) (to : List ByteArray) : (walkR F last 1000 to 0 0).asked.length ≤ 1000 := walk_len F last 1000 to 0 0

/-- No link is too long. -/
theorem step_link {T : Tr} {m : Nat} (h : ∀ x ∈ T.lnk, x.size ≤ m) (p : Int) (x : ByteArray) : (stepF T p x).link.size ≤ m := by
  have h0 : (⟨#[]⟩ : ByteArray).size ≤ m := Nat.zero_le _
  unfold stepF
  split
  · exact h0
  · unfold outF
    split
    · exact h0
    · split
      · rename_i k _ hk
        have hl : k.toNat < T.lnk.length := by omega
        have : T.lnk.getD k.toNat ByteArray.empty = T.lnk[k.toNat] := by simp [List.getD_eq_getElem?_getD, hl]
        rw [this]
        exact h _ (List.getElem_mem hl)
      · exact h0
end Go.Proofs.YtmbdacdgbmpedaaDoor
