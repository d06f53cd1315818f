/-
  SEAT Ytjginocbbnmgaaa: two trees beside one another; TnodeCut, pure.
-/
import Derived.Test.YtjginocbbnmgaaaRiW
namespace Go.Proofs.Ytjginocbbnmgaaa
open Go.RowKit
set_option linter.unusedVariables false

/-- A tree's nodes do not lie in a block of a box. -/
theorem NodeOn.apart {w : World} {E : Nat → Prop} [DecidablePred E] {gu : Nat} {p q r : Value} (hu : w.heap[gu]? = some (.cells #[p, q, r] 72 (0, 0))) : ∀ {l : Nat} {o : Option Nat} {M : Mp}, NodeOn (seenH w E) l o M → NodeOn (seenH w (fun i => E i ∨ i = gu)) l o M := by
  have key : ∀ (g : Nat) (cs : Array Value) (t : TypeId), t ≠ 72 → seenH w E g = some (.cells cs t (0, 0)) → seenH w (fun i => E i ∨ i = gu) g = some (.cells cs t (0, 0)) := fun g cs t ht h => by
    obtain ⟨h1, h2⟩ := seen_block h
    refine seen_of (fun c => c.elim h1 (fun e => ?_)) h2
    rw [e, hu] at h2
    injection h2 with h2
    injection h2 with _ h3
    exact ht h3.symm
  have kt : ∀ (t : Option Nat) (m : Option Int), ThingOn (seenH w E) t m → ThingOn (seenH w (fun i => E i ∨ i = gu)) t m := fun t m h => by
    cases t with
    | none => cases m with
      | none => trivial
      | some x => cases h
    | some g => cases m with
      | none => cases h
      | some x => exact key g _ 3 (by decide) h
  intro l
  induction l with
  | zero =>
    intro o M h
    cases o with
    | none => exact h
    | some g =>
      obtain ⟨ts, h1, h2, h3, h4⟩ := h
      exact ⟨ts, h1, key g _ 96 (by decide) h2, fun i hi => kt _ _ (h3 i hi), h4⟩
  | succ l ih =>
    intro o M h
    cases o with
    | none => exact h
    | some g =>
      obtain ⟨bs, h1, h2, h3, h4⟩ := h
      exact ⟨bs, h1, key g _ 96 (by decide) h2, fun i hi => ih (h3 i hi), h4⟩
/-- What changes the one tree leaves the other. -/
theorem Tree.other {A B : World} {gt gu h : Nat} {M : Mp} (hT : Tree A gt h M) {p q r : Value} (hu : A.heap[gu]? = some (.cells #[p, q, r] 72 (0, 0))) (hne : gt ≠ gu) (hg : A.grownBy B (some gu)) : Tree B gt h M := by
  obtain ⟨top, h1, h2, h3⟩ := hT.on.blk
  have hlt := lt_of_block h1
  refine ⟨⟨⟨top, (hg.block gt hlt (fun e => hne (by injection e))).trans h1, h2, fun l hl => ?_⟩, hT.on.out, hT.on.h5⟩, hT.fit⟩
  refine (NodeOn.apart hu (h3 l hl)).mono (fun i o hi => ?_)
  obtain ⟨q1, q2⟩ := seen_block hi
  exact seen_of (fun e => q1 (Or.inl e)) ((hg.block i (lt_of_block q2) (fun e => q1 (Or.inr (by injection e)))).trans q2)
/-- Trees of the same things are of one height. -/
theorem Tree.same_high {A B : World} {gt gu h h' : Nat} {M : Mp} (h1 : Tree A gt h M) (h2 : Tree B gu h' M) : h = h' := by
  rcases all_last M with ⟨_, hz⟩ | ⟨K, v, pre, hK, hKv, hKm, _⟩
  · have hz' : ∀ k, M k = none := fun k => by
      rcases Nat.lt_or_ge k 1048576 with q | q
      · exact hz k q
      · exact h1.out q
    rw [h1.low0 hz', h2.low0 hz']
  · have hmx : ∀ k, K < k → M k = none := fun k hk => by
      rcases Nat.lt_or_ge k 1048576 with q | q
      · exact hKm k hk q
      · exact h1.out q
    exact high_one (h1.high (K := K) (by rw [hKv]; rfl) hmx) (h2.high (K := K) (by rw [hKv]; rfl) hmx)
/-- What is left when the first of the things that lie from a number on are dropped. -/
def dropN (A : List (Int × Int)) (f : Int) (M : Mp) : Nat → Mp
  | 0 => M
  | n + 1 => if f ≤ (A.getD n (0, 0)).1 then del (dropN A f M n) (A.getD n (0, 0)).1 else dropN A f M n
/-- How many they are. -/
def dropC (A : List (Int × Int)) (f : Int) : Nat → Nat
  | 0 => 0
  | n + 1 => dropC A f n + if f ≤ (A.getD n (0, 0)).1 then 1 else 0
theorem dropC_le (A : List (Int × Int)) (f : Int) : ∀ n, dropC A f n ≤ n
  | 0 => Nat.le_refl _
  | n + 1 => by
    have := dropC_le A f n
    simp only [dropC]
    split <;> omega
/-- What is left at a number. -/
theorem dropN_at (A : List (Int × Int)) (f : Int) (M : Mp) (k : Nat) : ∀ n, dropN A f M n k = if f ≤ (k : Int) ∧ ∃ j, j < n ∧ (A.getD j (0, 0)).1 = (k : Int) then none else M k
  | 0 => by
    rw [if_neg]
    · rfl
    · rintro ⟨_, j, hj, _⟩; omega
  | n + 1 => by
    simp only [dropN]
    have ih := dropN_at A f M k n
    by_cases h : f ≤ (A.getD n (0, 0)).1
    · rw [if_pos h]
      unfold del
      by_cases e : (k : Int) = (A.getD n (0, 0)).1
      · rw [if_pos e, if_pos ⟨by omega, n, by omega, e.symm⟩]
      · rw [if_neg e, ih]
        have hiff : (f ≤ (k : Int) ∧ ∃ j, j < n ∧ (A.getD j (0, 0)).1 = (k : Int)) ↔ (f ≤ (k : Int) ∧ ∃ j, j < n + 1 ∧ (A.getD j (0, 0)).1 = (k : Int)) := by
          constructor
          · rintro ⟨a, j, b, c⟩; exact ⟨a, j, by omega, c⟩
          · rintro ⟨a, j, b, c⟩
            refine ⟨a, j, ?_, c⟩
            rcases Nat.lt_or_ge j n with q | q
            · exact q
            · obtain rfl : j = n := by omega
              exact absurd c.symm e
        simp only [hiff]
    · rw [if_neg h, ih]
      have hiff : (f ≤ (k : Int) ∧ ∃ j, j < n ∧ (A.getD j (0, 0)).1 = (k : Int)) ↔ (f ≤ (k : Int) ∧ ∃ j, j < n + 1 ∧ (A.getD j (0, 0)).1 = (k : Int)) := by
        constructor
        · rintro ⟨a, j, b, c⟩; exact ⟨a, j, by omega, c⟩
        · rintro ⟨a, j, b, c⟩
          refine ⟨a, j, ?_, c⟩
          rcases Nat.lt_or_ge j n with q | q
          · exact q
          · obtain rfl : j = n := by omega
            omega
      simp only [hiff]
theorem getD_of {A : List (Int × Int)} {j : Nat} {p : Int × Int} (h : A[j]? = some p) : A.getD j (0, 0) = p := by rw [List.getD_eq_getElem?_getD, h]; rfl
/-- What has a key comes. -/
theorem items_has (M : Mp) : ∀ (n k : Nat) (v : Int), k < n → M k = some v → ∃ j : Nat, (items M 0 n)[j]? = some ((k : Int), v)
  | 0, k, v, h, _ => by omega
  | n + 1, k, v, h, hm => by
    simp only [items]
    by_cases e : k = n
    · subst e
      rw [hm]
      exact ⟨(items M 0 k).length, by simp⟩
    · obtain ⟨j, hj⟩ := items_has M n k v (by omega) hm
      refine ⟨j, ?_⟩
      rw [List.getElem?_append_left (List.getElem?_eq_some_iff.1 hj).1]
      exact hj
theorem drop_cut {M : Mp} (hout : ∀ k, 1048576 ≤ k → M k = none) {A : List (Int × Int)} (hA : allOf M = A) (f : Int) : dropN A f M A.length = cutFrom M f := by
  funext k
  rw [dropN_at]
  unfold cutFrom cutM
  rcases Nat.lt_or_ge k 1048576 with hk | hk
  · by_cases hf : f ≤ (k : Int)
    · rw [if_pos (show max f 0 ≤ (k : Int) ∧ (k : Int) < 1048576 by omega)]
      cases hm : M k with
      | none => split <;> rfl
      | some v =>
        obtain ⟨j, hj⟩ := items_has M 1048576 k v hk hm
        have hj' : A[j]? = some ((k : Int), v) := by rw [← hA]; exact hj
        rw [if_pos ⟨hf, j, (List.getElem?_eq_some_iff.1 hj').1, by rw [getD_of hj']⟩]
    · rw [if_neg (fun c => hf c.1), if_neg (by omega)]
  · rw [hout k hk]
    split <;> split <;> rfl
theorem items_dropC (M : Mp) (f : Int) : ∀ n, dropC (items M 0 n) f (items M 0 n).length = cnt (hit M (max f 0) 1048576) n ∨ 1048576 < n
  | 0 => Or.inl rfl
  | n + 1 => by
    rcases items_dropC M f n with ih | h
    · rcases Nat.lt_or_ge 1048576 (n + 1) with q | q
      · exact Or.inr q
      · left
        simp only [cnt]
        rw [← ih]
        have hcong : ∀ (X Y : List (Int × Int)) m, m ≤ X.length → dropC (X ++ Y) f m = dropC X f m := fun X Y m => by
          induction m with
          | zero => intro _; rfl
          | succ m ihm =>
            intro hm
            simp only [dropC]
            rw [ihm (by omega), List.getD_eq_getElem?_getD, List.getElem?_append_left (by omega), List.getD_eq_getElem?_getD]
        cases hm : M n with
        | none =>
          have he : items M 0 (n + 1) = items M 0 n := by simp only [items]; rw [hm]; simp
          have hh : hit M (max f 0) 1048576 n = false := by unfold hit; rw [hm]; simp
          rw [he, hh]
          rfl
        | some v =>
          have he : items M 0 (n + 1) = items M 0 n ++ [((n : Int), v)] := by simp only [items]; rw [hm]; simp
          rw [he, List.length_append]
          show dropC _ f ((items M 0 n).length + 1) = _
          simp only [dropC]
          rw [hcong _ _ _ (Nat.le_refl _)]
          have hg : (items M 0 n ++ [((n : Int), v)]).getD (items M 0 n).length (0, 0) = ((n : Int), v) := getD_of (by simp)
          rw [hg]
          congr 1
          unfold hit
          rw [hm]
          by_cases hf : f ≤ (n : Int)
          · rw [if_pos hf, decide_eq_true (show max f 0 ≤ (n : Int) ∧ (n : Int) < 1048576 by omega)]
            rfl
          · rw [if_neg hf, decide_eq_false (show ¬ (max f 0 ≤ (n : Int) ∧ (n : Int) < 1048576) by omega)]
            rfl
    · exact Or.inr (by omega)
theorem all_dropC {M : Mp} {A : List (Int × Int)} (hA : allOf M = A) (f : Int) : dropC A f A.length = cnt (hit M (max f 0) 1048576) 1048576 := by
  rcases items_dropC M f 1048576 with h | h
  · rw [← hA]; exact h
  · omega
end Go.Proofs.Ytjginocbbnmgaaa
