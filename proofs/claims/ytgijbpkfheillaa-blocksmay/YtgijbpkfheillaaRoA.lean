/-
  SEAT Ytgijbpkfheillaa: picks that come round.
-/
import Derived.Test.YtgijbpkfheillaaBlL
namespace Go.Proofs.Ytgijbpkfheillaa
open Go.RowKit
set_option linter.unusedVariables false

theorem cnt_pos {xs : List Int} {es : List Ent} : ∀ k, 0 < cnt xs es k → ∃ i, i < k ∧ (es.getD i Ent.zero).s ∈ xs
  | 0, h => absurd h (Nat.lt_irrefl _)
  | k + 1, h => by
    by_cases e : (es.getD k Ent.zero).s ∈ xs
    · exact ⟨k, by omega, e⟩
    · rw [cnt, if_neg e] at h
      obtain ⟨i, hi, hh⟩ := cnt_pos k (by omega)
      exact ⟨i, by omega, hh⟩
theorem cnt_none {xs : List Int} {es : List Ent} : ∀ k, cnt xs es k = 0 → ∀ i, i < k → (es.getD i Ent.zero).s ∉ xs
  | 0, _, i, hi => absurd hi (Nat.not_lt_zero _)
  | k + 1, h, i, hi => by
    rw [cnt] at h
    by_cases e : (es.getD k Ent.zero).s ∈ xs
    · rw [if_pos e] at h; omega
    · by_cases q : i = k
      · subst q; exact e
      · exact cnt_none k (by omega) i (by omega)
theorem getD_set_same (es : List Ent) (x : Nat) (y : Ent) (hx : x < es.length) : (es.set x y).getD x Ent.zero = y := by
  rw [List.getD_eq_getElem?_getD, List.getElem?_set_self hx]; rfl
theorem getD_set_other (es : List Ent) (x i : Nat) (y : Ent) (hx : i ≠ x) : (es.set x y).getD i Ent.zero = es.getD i Ent.zero := by
  rw [List.getD_eq_getElem?_getD, List.getElem?_set_ne (fun e => hx e.symm), ← List.getD_eq_getElem?_getD]
theorem cnt_set_low (xs : List Int) (es : List Ent) (x : Nat) (y : Ent) : ∀ k, k ≤ x → cnt xs (es.set x y) k = cnt xs es k
  | 0, _ => rfl
  | k + 1, h => by rw [cnt, cnt, cnt_set_low xs es x y k (by omega), getD_set_other es x k y (by omega)]
theorem cnt_set (xs : List Int) (es : List Ent) (x : Nat) (y : Ent) (hx : x < es.length) : ∀ k, x < k → cnt xs (es.set x y) k + (if (es.getD x Ent.zero).s ∈ xs then 1 else 0) = cnt xs es k + (if y.s ∈ xs then 1 else 0)
  | 0, h => absurd h (Nat.not_lt_zero _)
  | k + 1, h => by
    rw [cnt, cnt]
    by_cases e : x = k
    · subst e
      rw [cnt_set_low xs es x y x (Nat.le_refl _), getD_set_same es x y hx]
      omega
    · have := cnt_set xs es x y hx k (by omega)
      rw [getD_set_other es x k y (by omega)]
      omega

/-- How a round of picks stands: so far gone from the cursor that was at first. -/
structure Gone (bs : List Bk) (sn : List Bool) (es : List Ent) (c0 cur : Int) (far : Nat) : Prop where
  len : es.length = bs.length
  slen : sn.length = bs.length
  least : -1 ≤ c0 ∧ c0 < bs.length
  cl : -1 ≤ cur ∧ cur < bs.length
  room : far ≤ bs.length
  at' : (cur + 1).toNat % bs.length = ((c0 + 1).toNat + far) % bs.length
  non : ∀ v, v < far → (es.getD (((c0 + 1).toNat + v) % bs.length) Ent.zero).s ≠ 0
  free : ∀ i, i < bs.length → (es.getD i Ent.zero).s = 0 → (bs.getD i Bk.zero).s = 0 ∧ sn.getD i false = false

theorem mod_shift {a b i n : Nat} (h : a % n = b % n) : (a + i) % n = (b + i) % n := by
  rw [Nat.add_mod, h, ← Nat.add_mod]

/-- The next pick. -/
theorem Gone.step {bs : List Bk} {sn : List Bool} {es : List Ent} {c0 cur : Int} {far i : Nat} (h : Gone bs sn es c0 cur far) (hi : i < es.length) (h0 : (es.getD (nthB es.length cur i) Ent.zero).s = 0) (hn : ∀ j, j < i → (es.getD (nthB es.length cur j) Ent.zero).s ≠ 0) :
    Gone bs (sn.set (nthB es.length cur i) true) (es.set (nthB es.length cur i) ⟨6, 0, false, 0, false⟩) c0 (nthB es.length cur i : Nat) (far + (i + 1)) := by
  have hl := h.len
  have hn0 : 0 < bs.length := by omega
  have e : ∀ j, nthB es.length cur j = ((c0 + 1).toNat + (far + j)) % bs.length := fun j => by
    unfold nthB
    rw [hl, mod_shift h.at', Nat.add_assoc]
  have hx : nthB es.length cur i < es.length := nth_lt _ _ _ (by omega)
  have hfar : far + (i + 1) ≤ bs.length := by
    apply Classical.byContradiction
    intro hc
    have h1 := h.non (far + i - bs.length) (by omega)
    have e2 : ((c0 + 1).toNat + (far + i - bs.length)) % bs.length = ((c0 + 1).toNat + (far + i)) % bs.length := by
      rw [show (c0 + 1).toNat + (far + i) = ((c0 + 1).toNat + (far + i - bs.length)) + bs.length by omega, Nat.add_mod_right]
    rw [e2, ← e] at h1
    exact h1 h0
  obtain ⟨x, hxe⟩ : ∃ x, nthB es.length cur i = x := ⟨_, rfl⟩
  have hx2 := hx
  rw [hxe] at hx2 h0 ⊢
  refine ⟨by simpa using hl, by simpa using h.slen, h.least, ⟨by omega, by omega⟩, hfar, ?_, ?_, ?_⟩
  · rw [show (((x : Nat) : Int) + 1).toNat = x + 1 by omega, ← hxe, e, Nat.mod_add_mod]
    simp only [Nat.add_assoc]
  · intro v hv
    by_cases q : ((c0 + 1).toNat + v) % bs.length = x
    · rw [q, getD_set_same _ _ _ hx2]; decide
    · rw [getD_set_other _ _ _ _ q]
      by_cases hv2 : v < far
      · exact h.non v hv2
      · by_cases hv3 : v - far < i
        · have := hn (v - far) hv3
          rw [e, show far + (v - far) = v by omega] at this
          exact this
        · have : v = far + i := by omega
          subst this
          rw [← e, hxe] at q
          exact absurd rfl q
  · intro j hj hs
    by_cases q : j = x
    · subst q
      rw [getD_set_same _ _ _ hx2] at hs
      exact absurd hs (by decide)
    · rw [getD_set_other _ _ _ _ q] at hs
      have h1 := h.free j hj hs
      refine ⟨h1.1, ?_⟩
      rw [List.getD_eq_getElem?_getD, List.getElem?_set_ne (fun e => q e.symm), ← List.getD_eq_getElem?_getD]
      exact h1.2
/-- How far a pick goes. -/
theorem step_far {n : Nat} {cur : Int} {i : Nat} (hc : -1 ≤ cur ∧ cur < n) (hi : i < n) : (if ((nthB n cur i : Nat) : Int) - cur ≤ 0 then ((nthB n cur i : Nat) : Int) - cur + n else ((nthB n cur i : Nat) : Int) - cur) = (i : Int) + 1 := by
  have e : (((cur + 1).toNat : Nat) : Int) = cur + 1 := by omega
  obtain ⟨c, hcc⟩ : ∃ c, (cur + 1).toNat = c := ⟨_, rfl⟩
  have hx : nthB n cur i = (c + i) % n := by unfold nthB; rw [hcc]
  rw [hcc] at e
  by_cases h : c + i < n
  · rw [hx, Nat.mod_eq_of_lt h]
    split <;> omega
  · have : (c + i) % n = c + i - n := by
      rw [Nat.mod_eq_sub_mod (by omega), Nat.mod_eq_of_lt (by omega)]
    rw [hx, this]
    split <;> omega
/-- Every block is met. -/
theorem nth_all {n : Nat} {cur : Int} (hc : -1 ≤ cur ∧ cur < n) (x : Nat) (hx : x < n) : ∃ j, j < n ∧ nthB n cur j = x := by
  obtain ⟨c, hcc⟩ : ∃ c, (cur + 1).toNat = c := ⟨_, rfl⟩
  unfold nthB
  rw [hcc]
  by_cases h : c ≤ x
  · exact ⟨x - c, by omega, by rw [show c + (x - c) = x by omega, Nat.mod_eq_of_lt hx]⟩
  · refine ⟨x + n - c, by omega, ?_⟩
    rw [show c + (x + n - c) = x + n by omega, Nat.add_mod_right, Nat.mod_eq_of_lt hx]
theorem none_cnt {es : List Ent} {cur : Int} (hc : -1 ≤ cur ∧ cur < es.length) (h : ∀ j, j < es.length → (es.getD (nthB es.length cur j) Ent.zero).s ≠ 0) : cnt [0] es es.length = 0 := by
  rcases Nat.eq_zero_or_pos (cnt [0] es es.length) with e | e
  · exact e
  · obtain ⟨i, hi, hm⟩ := cnt_pos _ e
    obtain ⟨j, hj, hje⟩ := nth_all hc i hi
    have := h j hj
    rw [hje] at this
    exact absurd (by simpa using hm) this
theorem some_cnt {es : List Ent} {x : Nat} (hx : x < es.length) (h : (es.getD x Ent.zero).s = 0) : 0 < cnt [0] es es.length := by
  rcases Nat.eq_zero_or_pos (cnt [0] es es.length) with e | e
  · exact absurd (by rw [h]; simp) (cnt_none _ e x hx)
  · exact e
/-- A free block told bad. -/
theorem cnt_bad {es : List Ent} {x : Nat} (hx : x < es.length) (h : (es.getD x Ent.zero).s = 0) : cnt [0] (es.set x ⟨6, 0, false, 0, false⟩) es.length + 1 = cnt [0] es es.length ∧ cnt [6, 4] (es.set x ⟨6, 0, false, 0, false⟩) es.length = cnt [6, 4] es es.length + 1 := by
  have h1 := cnt_set [0] es x ⟨6, 0, false, 0, false⟩ hx es.length hx
  have h2 := cnt_set [6, 4] es x ⟨6, 0, false, 0, false⟩ hx es.length hx
  rw [h] at h1 h2
  simp at h1 h2
  omega
theorem gone_first (bs : List Bk) (n : Nat) (c0 : Int) (hn : bs.length = n) (hc : -1 ≤ c0 ∧ c0 < n) : Gone bs (List.replicate n false) (bs.map Bk.ent) c0 c0 0 := by
  subst hn
  refine ⟨by simp, by simp, hc, hc, Nat.zero_le _, by simp, fun v hv => absurd hv (Nat.not_lt_zero _), fun i hi h => ⟨?_, ?_⟩⟩
  · rw [List.getD_eq_getElem?_getD, List.getElem?_map, List.getElem?_eq_getElem hi] at h
    rw [List.getD_eq_getElem?_getD, List.getElem?_eq_getElem hi]
    exact h
  · rw [List.getD_eq_getElem?_getD, List.getElem?_replicate]
    split <;> rfl
end Go.Proofs.Ytgijbpkfheillaa
