/-
  SEAT YtmbdacdgbmpedaaDoor: follow; what a walk comes to.
-/
import Derived.Test.YtmbdacdgbmpedaaDoorFw
namespace Go.Proofs.YtmbdacdgbmpedaaDoor
open Go.RowKit
set_option linter.unusedVariables false

/-- A link's text as a path. -/
def lkT (l : ByteArray) : ByteArray := if begB l then l else ⟨#[47]⟩ ++ l
theorem lk_beg (l : ByteArray) : begB (lkT l) = true := by
  unfold lkT
  cases h : begB l with
  | true => simp [h]
  | false => simp only [Bool.false_eq_true, if_false]; unfold begB; simp
theorem lk_sp (l : ByteArray) : spE (lkT l) = nmE (lkT l) ∧ spN (lkT l) = nmN (lkT l) := by
  have h := lk_beg l
  have e : spE (lkT l) = nmE (lkT l) := by simp [spE, h]
  exact ⟨e, by simp [spN, nmN, e]⟩
/-- The error of following a link, with so many names to come. -/
def foE (l : ByteArray) (n : Nat) : Int := if l.data.toList = [] then 160 else if spE (lkT l) = 0 then (if 64 < (spN (lkT l)).length + n then 161 else 0) else spE (lkT l)

set_option maxHeartbeats 2000000 in
set_option maxRecDepth 100000 in
theorem follow_any (l : ByteArray) (v : Value) (r : List ByteArray) (w : World) (h : Vw w v r) (hl : l.size ≤ 9223372036854775000) (hr : r.length ≤ 64) :
    Calls Tryd.prog 31 #[.string l, v] w fun e w' => ∃ v', e = .returned (.tuple #[v', .int .i64 (foE l r.length)]) ∧ (foE l r.length = 0 → Ow w' w.heap.size v' (spN (lkT l) ++ r)) ∧ Below w.heap.size w w' := by
  have HV : Hid (Vw w v r) := h
  obtain ⟨a, c, rfl, h1, h2, rd, hx⟩ := h
  clear rd hx
  by_cases h0 : l.toList = []
  · have hv : foE l r.length = 160 := by rw [toList_data] at h0; simp [foE, h0]
    rw [hv]
    go_enter Tryd.func31, Tryd.ntmps31
    go_wp2
    go_ret2
    exact ⟨_, rfl, (fun h => by cases h), Below.refl _ _⟩
  · have f0 : (l.toList == []) = false := by simp [h0]
    have f0' : l.toList.isEmpty = false := by simp [h0]
    have hd0 : ¬ l.data.toList = [] := by rw [← toList_data]; exact h0
    obtain ⟨t, ht⟩ : ∃ t, lkT l = t := ⟨_, rfl⟩
    have hts : t.size ≤ 9223372036854775807 := by
      rw [← ht]; unfold lkT
      split
      · omega
      · rw [ByteArray.size_append]; have : (⟨#[47]⟩ : ByteArray).size = 1 := rfl; omega
    have hp := prefix_slash l
    have hq : ¬ (9223372036854775807 < (⟨#[47]⟩ : ByteArray).size + l.size) := by have : (⟨#[47]⟩ : ByteArray).size = 1 := rfl; omega
    have hfo : foE l r.length = if spE t = 0 then (if 64 < (spN t).length + r.length then 161 else 0) else spE t := by simp [foE, hd0, ht]
    rw [ht]
    obtain ⟨N, hN⟩ : ∃ N, spN t = N := ⟨_, rfl⟩
    obtain ⟨E, hE⟩ : ∃ E, spE t = E := ⟨_, rfl⟩
    rw [hN, hE] at hfo
    rw [hN]
    obtain ⟨F, hF⟩ : ∃ F, foE l r.length = F := ⟨_, rfl⟩
    rw [hF] at hfo ⊢
    have hNl : N.length ≤ 64 := by
      rw [← hN]
      by_cases e : spE t = 0
      · have := (sp_facts e).2.2.2.1; rw [(sp_facts e).2.2.2.2.2]; omega
      · simp [spN, e]
    have hway : (begB l = true ∧ t = l) ∨ (begB l = false ∧ (⟨#[47]⟩ : ByteArray) ++ l = t) := by
      cases hb : begB l with
      | true => exact Or.inl ⟨rfl, by rw [← ht]; simp [lkT, hb]⟩
      | false => exact Or.inr ⟨rfl, by rw [← ht]; simp [lkT, hb]⟩
    clear ht hd0 hF
    by_cases e0 : E = 0
    · subst e0
      by_cases hbig : 64 < N.length + r.length
      · have hF2 : F = 161 := by rw [hfo]; simp [hbig]
        subst hF2
        have d1 : (64 : Int) < (N.length : Int) + (r.length : Int) := by omega
        clear hfo
        rcases hway with ⟨hb, rfl⟩ | ⟨hb, htt⟩
        all_goals
          rw [hb] at hp
          go_enter Tryd.func31, Tryd.ntmps31
          go_wp2_with (first
            | (go_at_call 24; refine (Tryd.strings_HasPrefix _ _ _).mono ?_; rintro e u ⟨rfl, hu⟩; rw [hp, hu]; clear hu)
            | (go_at_call 9; refine (psplit_any _ _ hts).mono ?_; rintro e u ⟨v, rfl, ow, bel⟩; rw [hE]; rw [hN] at ow; obtain ⟨a2, c2, rfl, _⟩ := ow.rd; have B1 : Hid (Below w.heap.size w u) := bel; clear ow bel))
          go_ret2
          exact ⟨_, rfl, (fun h => by cases h), B1.out⟩
      · have hF2 : F = 0 := by rw [hfo]; simp [hbig]
        subst hF2
        have d1 : ¬ (64 : Int) < (N.length : Int) + (r.length : Int) := by omega
        have hsum : N.length + r.length ≤ 64 := by omega
        clear hfo
        rcases hway with ⟨hb, rfl⟩ | ⟨hb, htt⟩
        all_goals
          rw [hb] at hp
          go_enter Tryd.func31, Tryd.ntmps31
          go_wp2_with (first
            | (go_at_call 24; refine (Tryd.strings_HasPrefix _ _ _).mono ?_; rintro e u ⟨rfl, hu⟩; rw [hp, hu]; clear hu)
            | (go_at_call 9; refine (psplit_any _ _ hts).mono ?_; rintro e u ⟨v, rfl, ow, bel⟩; rw [hE]; rw [hN] at ow; obtain ⟨a2, c2, rfl, _⟩ := ow.rd; have O1 : Hid (Ow u w.heap.size (.slice a2 N.length c2) N) := ow; have B1 : Hid (Below w.heap.size w u) := bel; clear ow bel)
            | (go_at_call 45; refine (concat_any u.heap.size (.slice a2 N.length c2) (.slice a r.length c) N r _ (heap_alloc_new u _) ((Ow.vw O1.out).below ((Below.refl _ _).alloc (Nat.le_refl _) _)) ((HV.out.below B1.out).below ((Below.refl _ _).alloc (Nat.le_refl _) _)) hsum).mono ?_; rintro e u3 ⟨v3, rfl, ow, bel⟩; have O3 : Hid (Ow u3 (u.alloc (.cells #[.slice a2 N.length c2, .slice a r.length c] 22)).heap.size v3 (N ++ r)) := ow; have B3 : Hid (Below (u.alloc (.cells #[.slice a2 N.length c2, .slice a r.length c] 22)).heap.size (u.alloc (.cells #[.slice a2 N.length c2, .slice a r.length c] 22)) u3) := bel; clear ow bel))
          go_ret2
          have b2 : Below w.heap.size w (u.alloc (.cells #[.slice a2 N.length c2, .slice a r.length c] 22)) := B1.out.alloc B1.out.size _
          exact ⟨_, rfl, fun _ => O3.out.lower b2.size, b2.trans (B3.out.mono b2.size)⟩
    · have hF2 : F = E := by rw [hfo, if_neg e0]
      subst hF2
      have e1 : (F == 0) = false := by simpa using e0
      clear hfo
      rcases hway with ⟨hb, rfl⟩ | ⟨hb, htt⟩
      all_goals
        rw [hb] at hp
        go_enter Tryd.func31, Tryd.ntmps31
        go_wp2_with (first
          | (go_at_call 24; refine (Tryd.strings_HasPrefix _ _ _).mono ?_; rintro e u ⟨rfl, hu⟩; rw [hp, hu]; clear hu)
          | (go_at_call 9; refine (psplit_any _ _ hts).mono ?_; rintro e u ⟨v, rfl, ow, bel⟩; rw [hE]; rw [hN] at ow; obtain ⟨a2, c2, rfl, _⟩ := ow.rd; have B1 : Hid (Below w.heap.size w u) := bel; clear ow bel))
        go_ret2
        exact ⟨_, rfl, (fun h => absurd h e0), B1.out⟩
end Go.Proofs.YtmbdacdgbmpedaaDoor
