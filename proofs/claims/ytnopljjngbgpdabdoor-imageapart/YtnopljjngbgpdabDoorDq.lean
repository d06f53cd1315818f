/-
  SEAT YtnopljjngbgpdabDoor: where images differ, plainly.
-/
import Derived.Test.YtnopljjngbgpdabDoorDp
namespace Go.Proofs.YtnopljjngbgpdabDoor
open Go.RowKit
set_option linter.unusedVariables false

theorem dfN_swap (xs ys : List Int) (ms ns : List Bool) (L p k : Nat) : dfN ys xs ns ms L p k = dfN xs ys ms ns L p k := by
  unfold dfN
  congr 1
  · by_cases h : k % p = 0 ∧ ms.getD (k / p) false ≠ ns.getD (k / p) false
    · rw [if_pos h, if_pos ⟨h.1, fun e => h.2 e.symm⟩]
    · rw [if_neg h, if_neg (fun e => h ⟨e.1, fun e2 => e.2 e2.symm⟩)]
  · by_cases h : pgK xs L k = pgK ys L k
    · rw [if_pos h, if_pos h.symm]
    · rw [if_neg h, if_neg (fun e => h e.symm)]
theorem dfL_swap (xs ys : List Int) (ms ns : List Bool) (L p N : Nat) : dfL ys xs ns ms L p N = dfL xs ys ms ns L p N := by
  unfold dfL
  congr 1
  funext k
  exact dfN_swap xs ys ms ns L p k
/-- Is a place told at the page k? -/
theorem dfN_mem {xs ys : List Int} {ms ns : List Bool} {L p k : Nat} {q : Pl} : q ∈ dfN xs ys ms ns L p k ↔ (k % p = 0 ∧ ms.getD (k / p) false ≠ ns.getD (k / p) false ∧ q = ⟨((k / p : Nat) : Int), -1⟩) ∨ (pgK xs L k ≠ pgK ys L k ∧ q = ⟨((k / p : Nat) : Int), ((k % p : Nat) : Int)⟩) := by
  unfold dfN
  rw [List.mem_append]
  constructor
  · rintro (h | h)
    · split at h
      · next hh => exact Or.inl ⟨hh.1, hh.2, List.mem_singleton.1 h⟩
      · cases h
    · split at h
      · cases h
      · next hh => exact Or.inr ⟨hh, List.mem_singleton.1 h⟩
  · rintro (⟨h1, h2, h3⟩ | ⟨h1, h2⟩)
    · left
      rw [if_pos ⟨h1, h2⟩, h3]
      exact List.mem_singleton.2 rfl
    · right
      rw [if_neg h1, h2]
      exact List.mem_singleton.2 rfl
theorem dfL_mem {xs ys : List Int} {ms ns : List Bool} {L p N : Nat} {q : Pl} : q ∈ dfL xs ys ms ns L p N ↔ ∃ k, k < N ∧ q ∈ dfN xs ys ms ns L p k := by
  unfold dfL
  rw [List.mem_flatMap]
  constructor
  · rintro ⟨k, h1, h2⟩
    exact ⟨k, List.mem_range.1 h1, h2⟩
  · rintro ⟨k, h1, h2⟩
    exact ⟨k, List.mem_range.2 h1, h2⟩
/-- Where the first and the third differ, the first and the second do, or the second and the third. -/
theorem dfL_three {xs ys zs : List Int} {ms ns ts : List Bool} {L p N : Nat} {q : Pl} (h : q ∈ dfL xs zs ms ts L p N) : q ∈ dfL xs ys ms ns L p N ∨ q ∈ dfL ys zs ns ts L p N := by
  obtain ⟨k, hk, hq⟩ := dfL_mem.1 h
  rcases dfN_mem.1 hq with ⟨h1, h2, h3⟩ | ⟨h1, h2⟩
  · by_cases e : ms.getD (k / p) false = ns.getD (k / p) false
    · exact Or.inr (dfL_mem.2 ⟨k, hk, dfN_mem.2 (Or.inl ⟨h1, fun e2 => h2 (e.trans e2), h3⟩)⟩)
    · exact Or.inl (dfL_mem.2 ⟨k, hk, dfN_mem.2 (Or.inl ⟨h1, e, h3⟩)⟩)
  · by_cases e : pgK xs L k = pgK ys L k
    · exact Or.inr (dfL_mem.2 ⟨k, hk, dfN_mem.2 (Or.inr ⟨fun e2 => h1 (e.trans e2), h2⟩)⟩)
    · exact Or.inl (dfL_mem.2 ⟨k, hk, dfN_mem.2 (Or.inr ⟨e, h2⟩)⟩)
/-- The places lie in the chip. -/
theorem dfL_in {xs ys : List Int} {ms ns : List Bool} {L b p : Nat} (hp : 0 < p) {q : Pl} (h : q ∈ dfL xs ys ms ns L p (b * p)) : 0 ≤ q.x ∧ q.x < (b : Int) ∧ -1 ≤ q.y ∧ q.y < (p : Int) := by
  obtain ⟨k, hk, hq⟩ := dfL_mem.1 h
  have h1 : k / p < b := Nat.div_lt_of_lt_mul (by rw [Nat.mul_comm]; exact hk)
  have h2 := Nat.mod_lt k hp
  rcases dfN_mem.1 hq with ⟨_, _, rfl⟩ | ⟨_, rfl⟩
  · generalize k / p = Q at h1 ⊢
    refine ⟨?_, ?_, ?_, ?_⟩ <;> simp only <;> omega
  · generalize k / p = Q at h1 ⊢
    generalize k % p = R at h2 ⊢
    refine ⟨?_, ?_, ?_, ?_⟩ <;> simp only <;> omega
/-- One place ahead of another. -/
def Ahead (q r : Pl) : Prop := q.x < r.x ∨ q.x = r.x ∧ q.y < r.y
theorem ahead_pages {p k l : Nat} (hp : 0 < p) (h : k < l) {yk yl : Int} (h1 : yk = -1 ∨ yk = ((k % p : Nat) : Int)) (h2 : yl = ((l % p : Nat) : Int) ∨ (yl = -1 ∧ l % p = 0)) : Ahead ⟨((k / p : Nat) : Int), yk⟩ ⟨((l / p : Nat) : Int), yl⟩ := by
  have e1 := Nat.div_add_mod k p
  have e2 := Nat.div_add_mod l p
  have m1 := Nat.mod_lt k hp
  have m2 := Nat.mod_lt l hp
  have hle : k / p ≤ l / p := Nat.div_le_div_right (by omega)
  rcases Nat.lt_or_ge (k / p) (l / p) with h3 | h3
  · exact Or.inl (by simp only; omega)
  · have e3 : k / p = l / p := by omega
    rw [e3] at e1
    have hm : k % p < l % p := by omega
    right
    refine ⟨by simp only [e3], ?_⟩
    simp only
    rcases h1 with rfl | rfl <;> rcases h2 with rfl | ⟨rfl, h4⟩ <;> omega
theorem dfL_sorted (xs ys : List Int) (ms ns : List Bool) (L p : Nat) (hp : 0 < p) : ∀ N, (dfL xs ys ms ns L p N).Pairwise Ahead
  | 0 => by simp [dfL]
  | N + 1 => by
    have e : dfL xs ys ms ns L p (N + 1) = dfL xs ys ms ns L p N ++ dfN xs ys ms ns L p N := by unfold dfL; rw [List.range_succ, List.flatMap_append, List.flatMap_singleton]
    rw [e, List.pairwise_append]
    refine ⟨dfL_sorted xs ys ms ns L p hp N, ?_, fun q hq r hr => ?_⟩
    · unfold dfN
      rw [List.pairwise_append]
      refine ⟨by split <;> simp, by split <;> simp, fun q hq r hr => ?_⟩
      split at hq
      · split at hr
        · cases hr
        · rw [List.mem_singleton.1 hq, List.mem_singleton.1 hr]
          exact Or.inr ⟨rfl, by simp only; omega⟩
      · cases hq
    · obtain ⟨k, hk, hk2⟩ := dfL_mem.1 hq
      rcases dfN_mem.1 hk2 with ⟨_, _, rfl⟩ | ⟨_, rfl⟩ <;> rcases dfN_mem.1 hr with ⟨h4, _, rfl⟩ | ⟨_, rfl⟩
      · exact ahead_pages hp hk (Or.inl rfl) (Or.inr ⟨rfl, h4⟩)
      · exact ahead_pages hp hk (Or.inl rfl) (Or.inl rfl)
      · exact ahead_pages hp hk (Or.inr rfl) (Or.inr ⟨rfl, h4⟩)
      · exact ahead_pages hp hk (Or.inr rfl) (Or.inl rfl)
theorem dfL_nil {xs ys : List Int} {ms ns : List Bool} {L b p : Nat} (hp : 0 < p) (hL : 0 < L) (hx : xs.length = b * p * L) (hy : ys.length = b * p * L) (hm : ms.length = b) (hn : ns.length = b) : dfL xs ys ms ns L p (b * p) = [] ↔ xs = ys ∧ ms = ns := by
  constructor
  · intro h
    have h0 : ∀ q, ¬ q ∈ dfL xs ys ms ns L p (b * p) := fun q hq => by rw [h] at hq; cases hq
    refine ⟨?_, ?_⟩
    · have hpg : ∀ k, k < b * p → pgK xs L k = pgK ys L k := fun k hk => Classical.byContradiction fun hne => h0 _ (dfL_mem.2 ⟨k, hk, dfN_mem.2 (Or.inr ⟨hne, rfl⟩)⟩)
      apply List.ext_getElem
      · rw [hx, hy]
      · intro i h1 h2
        have hk : i / L < b * p := Nat.div_lt_of_lt_mul (by rw [Nat.mul_comm, ← hx]; exact h1)
        have h3 := hpg (i / L) hk
        have e := Nat.div_add_mod i L
        have hm2 := Nat.mod_lt i hL
        have h4 := congrArg (fun z => z[i % L]?) h3
        unfold pgK at h4
        simp only [List.getElem?_take, List.getElem?_drop, if_pos hm2] at h4
        rw [show i / L * L + i % L = i by rw [Nat.mul_comm]; exact e, List.getElem?_eq_getElem h1, List.getElem?_eq_getElem h2] at h4
        exact Option.some.inj h4
    · apply List.ext_getElem
      · rw [hm, hn]
      · intro i h1 h2
        have hk : i * p < b * p := Nat.mul_lt_mul_of_pos_right (by rw [hm] at h1; exact h1) hp
        have e1 : i * p / p = i := Nat.mul_div_cancel _ hp
        have e2 : i * p % p = 0 := Nat.mul_mod_left _ _
        refine Classical.byContradiction fun hne => h0 _ (dfL_mem.2 ⟨i * p, hk, dfN_mem.2 (Or.inl ⟨e2, ?_, rfl⟩)⟩)
        rw [e1, List.getD_eq_getElem?_getD, List.getD_eq_getElem?_getD, List.getElem?_eq_getElem h1, List.getElem?_eq_getElem h2]
        exact hne
  · rintro ⟨rfl, rfl⟩
    unfold dfL
    rw [List.flatMap_eq_nil_iff]
    intro k _
    unfold dfN
    rw [if_neg (fun h => h.2 rfl), if_pos rfl]
    rfl
end Go.Proofs.YtnopljjngbgpdabDoor
