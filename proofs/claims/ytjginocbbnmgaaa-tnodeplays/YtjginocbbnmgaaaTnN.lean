/-
  SEAT Ytjginocbbnmgaaa: without, what stands in its loops.
-/
import Derived.Test.YtjginocbbnmgaaaTnM
namespace Go.Proofs.Ytjginocbbnmgaaa
open Go.RowKit
set_option linter.unusedVariables false

theorem u96_one (ps : List (Option Nat)) : (U96 ps).all (·.oneCell') = true := by
  rw [List.all_toArray, List.all_eq_true]
  intro x hx
  obtain ⟨o, _, rfl⟩ := List.mem_map.1 hx
  exact ptr_one o
theorem u96_size (ps : List (Option Nat)) : (U96 ps).size = ps.length := by simp
/-- What stands in the loop above the lowest level. -/
structure WoS (w : World) (E : Nat → Prop) [DecidablePred E] (l : Nat) (M : Mp) (f t : Int) (a : Nat) (bs : List (Option Nat)) (wr : World) : Prop where
  len : bs.length = 16
  blk : wr.heap[w.heap.size]? = some (.cells (U96 (rowOf (l + 1) bs)) 96 (0, 0))
  kid : ∀ i, i < 16 → NodeOn (seenH wr (fun j => E j ∨ j = w.heap.size)) l (bs.getD i none) (if i < a then cutM (sub M (spn (l + 1)) i) (f - ((i * spn (l + 1) : Nat) : Int)) (t - ((i * spn (l + 1) : Nat) : Int)) else sub M (spn (l + 1)) i)
  bel : Below w.heap.size w wr
/-- What stands in the loop at the lowest level. -/
structure Wo0 (w : World) (E : Nat → Prop) [DecidablePred E] (M : Mp) (f t : Int) (a : Nat) (ts : List (Option Nat)) (wr : World) : Prop where
  len : ts.length = 16
  blk : wr.heap[w.heap.size]? = some (.cells (U96 (rowOf 0 ts)) 96 (0, 0))
  kid : ∀ i, i < 16 → ThingOn (seenH wr (fun j => E j ∨ j = w.heap.size)) (ts.getD i none) (if i < a then cutM M f t i else M i)
  bel : Below w.heap.size w wr
section
variable {w : World} {E : Nat → Prop} [DecidablePred E]
theorem below_new (w : World) (o : Obj) : Below w.heap.size w (w.alloc o) := (Below.refl _ _).alloc (Nat.le_refl _) _
theorem shows_new (w : World) (o : Obj) : Shows (seenH w E) (seenH (w.alloc o) (fun j => E j ∨ j = w.heap.size)) := shows_below (below_new w o) (fun i hi q => q.elim id (fun e => by omega))
theorem mul_le_of_lt {i a s : Nat} {f : Int} (hi : i < a) (h : ((a * s : Nat) : Int) ≤ f) : (s : Int) ≤ f - ((i * s : Nat) : Int) := by
  have : i * s + s ≤ a * s := by rw [← Nat.succ_mul]; exact Nat.mul_le_mul_right s hi
  omega
theorem WoS.start {l : Nat} {M : Mp} {f t : Int} {a : Nat} {bs : List (Option Nat)} (hl : bs.length = 16) (hb : ∀ i, i < 16 → NodeOn (seenH w E) l (bs.getD i none) (sub M (spn (l + 1)) i)) (ha : a = 0 ∨ ((a * spn (l + 1) : Nat) : Int) ≤ f) : WoS w E l M f t a bs (w.alloc (.cells (U96 (rowOf (l + 1) bs)) 96)) := by
  refine ⟨hl, heap_alloc_last _ _, fun i hi => ?_, below_new _ _⟩
  refine NodeOn.congr (fun k hk => ?_) ((hb i hi).mono (shows_new w _))
  split
  · rename_i q
    rcases ha with rfl | ha
    · omega
    · exact (cutM_idle (Or.inr (mul_le_of_lt q ha)) k hk).symm
  · rfl
theorem Wo0.start {M : Mp} {f t : Int} {a : Nat} {ts : List (Option Nat)} (hl : ts.length = 16) (hb : ∀ i, i < 16 → ThingOn (seenH w E) (ts.getD i none) (M i)) (ha : a = 0 ∨ (a : Int) ≤ f) : Wo0 w E M f t a ts (w.alloc (.cells (U96 (rowOf 0 ts)) 96)) := by
  refine ⟨hl, heap_alloc_last _ _, fun i hi => ?_, below_new _ _⟩
  have h1 := (hb i hi).mono (shows_new w (.cells (U96 (rowOf 0 ts)) 96))
  split
  · rename_i q
    rcases ha with rfl | ha
    · omega
    · rw [cutM_idle (s := i + 1) (Or.inr (by omega)) i (by omega)]
      exact h1
  · exact h1
/-- How many went by then. -/
theorem gone_start {M : Mp} {f t : Int} {a s : Nat} (ha : a = 0 ∨ ((a * s : Nat) : Int) ≤ f) : cnt (hit M f t) (min a 16 * s) = 0 := by
  refine cnt_none (fun k hk => ?_)
  refine hit_idle (s := k + 1) (Or.inr ?_) k (by omega)
  rcases ha with rfl | ha
  · simp at hk
  · have : min a 16 * s ≤ a * s := Nat.mul_le_mul_right s (by omega)
    omega
theorem gone_end {M : Mp} {f t : Int} {a s : Nat} (ha : 16 ≤ a ∨ t ≤ ((a * s : Nat) : Int)) : cnt (hit M f t) (min a 16 * s) = cnt (hit M f t) (16 * s) := by
  by_cases h : 16 ≤ a
  · rw [Nat.min_eq_right h]
  · rw [Nat.min_eq_left (by omega)]
    have hle : a * s ≤ 16 * s := Nat.mul_le_mul_right s (by omega)
    obtain ⟨b, hb⟩ : ∃ b, 16 * s = a * s + b := ⟨16 * s - a * s, by omega⟩
    rw [hb, cnt_add, cnt_none (n := b)]
    · rfl
    · intro k hk
      unfold hit
      rw [decide_eq_false, Bool.false_and]
      rintro ⟨h1, h2⟩
      omega
/-- One round in which a child was asked. -/
theorem WoS.step {l : Nat} {M : Mp} {f t : Int} {a : Nat} {bs : List (Option Nat)} {wr w1 : World} (h : WoS w E l M f t a bs wr) (ha : a < 16) (o : Option Nat)
    (hn : NodeOn (seenH w1 (fun j => E j ∨ j = w.heap.size)) l o (cutM (sub M (spn (l + 1)) a) (f - ((a * spn (l + 1) : Nat) : Int)) (t - ((a * spn (l + 1) : Nat) : Int)))) (hb : Below wr.heap.size wr w1) : WoS w E l M f t (a + 1) (bs.set a o) (w1.setCell ⟨w.heap.size, a, none⟩ (ptr o)) := by
  have hlt := lt_of_block h.blk
  have hb1 := (hb.block _ hlt).trans h.blk
  have hset : (w1.setCell ⟨w.heap.size, a, none⟩ (ptr o)).heap[w.heap.size]? = some (.cells (U96 (rowOf (l + 1) (bs.set a o))) 96 (0, 0)) := by
    rw [heap_setCell_same w1 w.heap.size a _ 96 _ hb1]
    congr 2
    unfold rowOf U96
    rw [if_neg (by omega), if_neg (by omega), List.setIfInBounds_toArray, ← List.map_set, List.set_append_left _ _ (by rw [h.len]; omega)]
  have hsh : Shows (seenH w1 (fun j => E j ∨ j = w.heap.size)) (seenH (w1.setCell ⟨w.heap.size, a, none⟩ (ptr o)) (fun j => E j ∨ j = w.heap.size)) := fun x ob hx => by
    obtain ⟨p1, p2⟩ := seen_block hx
    refine seen_of p1 ?_
    rw [heap_setCell_other w1 ⟨w.heap.size, a, none⟩ x _ (fun q => p1 (Or.inr q))]
    exact p2
  refine ⟨by simpa using h.len, hset, fun i hi => ?_, (h.bel.trans (hb.mono (by omega))).setCell (p := ⟨w.heap.size, a, none⟩) (by simp) _⟩
  rw [getD_set _ _ _ _ (by rw [h.len]; exact ha)]
  by_cases e : i = a
  · subst e
    rw [if_pos rfl, if_pos (by omega)]
    exact hn.mono hsh
  · rw [if_neg e]
    have h9 := ((h.kid i hi).mono (shows_below (E := fun j => E j ∨ j = w.heap.size) (E' := fun j => E j ∨ j = w.heap.size) hb (fun _ _ q => q))).mono hsh
    by_cases q : i < a
    · rw [if_pos (by omega)]
      rw [if_pos q] at h9
      exact h9
    · rw [if_neg (by omega)]
      rw [if_neg q] at h9
      exact h9
/-- One round in which there was no child. -/
theorem WoS.skip {l : Nat} {M : Mp} {f t : Int} {a : Nat} {bs : List (Option Nat)} {wr : World} (h : WoS w E l M f t a bs wr) (ha : a < 16) (hn : bs.getD a none = none) : WoS w E l M f t (a + 1) bs wr := by
  refine ⟨h.len, h.blk, fun i hi => ?_, h.bel⟩
  have h9 := h.kid i hi
  by_cases q : i < a
  · rw [if_pos (by omega)]
    rw [if_pos q] at h9
    exact h9
  · rw [if_neg q] at h9
    by_cases e : i = a
    · subst e
      rw [if_pos (by omega)]
      rw [hn] at h9 ⊢
      exact NodeOn.void (void_cutM _ _ (NodeOn.isVoid h9))
    · rw [if_neg (by omega)]
      exact h9
theorem Wo0.step {M : Mp} {f t : Int} {a : Nat} {ts : List (Option Nat)} {wr : World} (h : Wo0 w E M f t a ts wr) (ha : a < 16) (hf : f ≤ a) (ht : (a : Int) < t) : Wo0 w E M f t (a + 1) (ts.set a none) (wr.setCell ⟨w.heap.size, 16 + a, none⟩ (.pointer none)) := by
  have hset : (wr.setCell ⟨w.heap.size, 16 + a, none⟩ (.pointer none)).heap[w.heap.size]? = some (.cells (U96 (rowOf 0 (ts.set a none))) 96 (0, 0)) := by
    rw [heap_setCell_same wr w.heap.size (16 + a) _ 96 _ h.blk]
    congr 2
    unfold rowOf U96
    rw [if_pos rfl, if_pos rfl, List.setIfInBounds_toArray, show Value.pointer none = ptr none from rfl, ← List.map_set, List.set_append_right _ _ (by simp), List.length_replicate, Nat.add_sub_cancel_left]
  refine ⟨by simpa using h.len, hset, fun i hi => ?_, h.bel.setCell (p := ⟨w.heap.size, 16 + a, none⟩) (by simp) _⟩
  have hsh : Shows (seenH wr (fun j => E j ∨ j = w.heap.size)) (seenH (wr.setCell ⟨w.heap.size, 16 + a, none⟩ (.pointer none)) (fun j => E j ∨ j = w.heap.size)) := fun x ob hx => by
    obtain ⟨p1, p2⟩ := seen_block hx
    refine seen_of p1 ?_
    rw [heap_setCell_other wr ⟨w.heap.size, 16 + a, none⟩ x _ (fun q => p1 (Or.inr q))]
    exact p2
  rw [getD_set _ _ _ _ (by rw [h.len]; exact ha)]
  by_cases e : i = a
  · subst e
    rw [if_pos rfl, if_pos (by omega)]
    unfold cutM
    rw [if_pos ⟨hf, ht⟩]
    trivial
  · rw [if_neg e]
    have h9 := (h.kid i hi).mono hsh
    by_cases q : i < a
    · rw [if_pos (by omega)]
      rw [if_pos q] at h9
      exact h9
    · rw [if_neg (by omega)]
      rw [if_neg q] at h9
      exact h9
theorem thing_none {H : Nat → Option Obj} {m : Option Int} (h : ThingOn H none m) : m = none := by
  cases m with
  | none => rfl
  | some x => cases h
theorem Wo0.skip {M : Mp} {f t : Int} {a : Nat} {ts : List (Option Nat)} {wr : World} (h : Wo0 w E M f t a ts wr) (ha : a < 16) (hn : ts.getD a none = none) : Wo0 w E M f t (a + 1) ts wr := by
  refine ⟨h.len, h.blk, fun i hi => ?_, h.bel⟩
  have h9 := h.kid i hi
  by_cases q : i < a
  · rw [if_pos (by omega)]
    rw [if_pos q] at h9
    exact h9
  · rw [if_neg q] at h9
    by_cases e : i = a
    · subst e
      rw [if_pos (by omega)]
      rw [hn] at h9 ⊢
      have : M i = none := thing_none h9
      unfold cutM
      rw [this]
      split <;> trivial
    · rw [if_neg (by omega)]
      exact h9
theorem shows_out {wr : World} (g : Nat) : Shows (seenH wr (fun j => E j ∨ j = g)) (seenH wr E) := fun x ob hx => by
  obtain ⟨p1, p2⟩ := seen_block hx
  exact seen_of (fun q => p1 (Or.inl q)) p2
theorem NodeOn.full {H : Nat → Option Obj} {l g : Nat} {M : Mp} (h : NodeOn H l (some g) M) : ¬ Void M (spn (l + 1)) := by
  cases l with
  | zero => obtain ⟨_, _, _, _, q⟩ := h; exact q
  | succ l => obtain ⟨_, _, _, _, q⟩ := h; exact q
/-- Behind the loop: a node, or nothing. -/
theorem WoS.done {l : Nat} {M : Mp} {f t : Int} {a : Nat} {bs : List (Option Nat)} {wr : World} (h : WoS w E l M f t a bs wr) (hE : ∀ i, E i → i < w.heap.size) (ha : 16 ≤ a ∨ t ≤ ((a * spn (l + 1) : Nat) : Int)) :
    NodeOn (seenH wr E) (l + 1) (if rowOf (l + 1) bs = List.replicate 32 none then none else some w.heap.size) (cutM M f t) := by
  have hk : ∀ i, i < 16 → NodeOn (seenH wr E) l (bs.getD i none) (sub (cutM M f t) (spn (l + 1)) i) := fun i hi => by
    rw [sub_cutM]
    have h9 := (h.kid i hi).mono (shows_out w.heap.size)
    by_cases q : i < a
    · rw [if_pos q] at h9
      exact h9
    · rw [if_neg q] at h9
      refine NodeOn.congr (fun k hk => (cutM_idle (Or.inl ?_) k hk).symm) h9
      rcases ha with ha | ha
      · omega
      · have : a * spn (l + 1) ≤ i * spn (l + 1) := Nat.mul_le_mul_right _ (by omega)
        omega
  by_cases hz : rowOf (l + 1) bs = List.replicate 32 none
  · rw [if_pos hz]
    have hz' := (row_zero _ _ h.len).1 hz
    refine NodeOn.void ?_
    rw [spn_succ (l + 1)]
    refine (void_sub (spn_pos (l + 1))).2 (fun i hi => ?_)
    have := hk i hi
    rw [hz' i hi] at this
    exact NodeOn.isVoid this
  · rw [if_neg hz]
    refine ⟨bs, h.len, seen_of (fun q => by have := hE _ q; omega) (by rw [h.blk, row1 l]), hk, fun q => hz ((row_zero _ _ h.len).2 (fun i hi => ?_))⟩
    cases hb : bs.getD i none with
    | none => rfl
    | some g =>
      have h8 := hk i hi
      rw [hb] at h8
      refine absurd ?_ h8.full
      rw [spn_succ (l + 1)] at q
      exact (void_sub (spn_pos (l + 1))).1 q i hi
theorem Wo0.done {M : Mp} {f t : Int} {a : Nat} {ts : List (Option Nat)} {wr : World} (h : Wo0 w E M f t a ts wr) (hE : ∀ i, E i → i < w.heap.size) (ha : 16 ≤ a ∨ t ≤ (a : Int)) :
    NodeOn (seenH wr E) 0 (if rowOf 0 ts = List.replicate 32 none then none else some w.heap.size) (cutM M f t) := by
  have hk : ∀ i, i < 16 → ThingOn (seenH wr E) (ts.getD i none) (cutM M f t i) := fun i hi => by
    have h9 := (h.kid i hi).mono (shows_out w.heap.size)
    by_cases q : i < a
    · rw [if_pos q] at h9
      exact h9
    · rw [if_neg q] at h9
      unfold cutM
      rw [if_neg (fun e => by omega)]
      exact h9
  by_cases hz : rowOf 0 ts = List.replicate 32 none
  · rw [if_pos hz]
    have hz' := (row_zero _ _ h.len).1 hz
    refine NodeOn.void (fun k hk' => ?_)
    have hk16 : k < 16 := by unfold spn at hk'; omega
    have := hk k hk16
    rw [hz' k hk16] at this
    exact thing_none this
  · rw [if_neg hz]
    refine ⟨ts, h.len, seen_of (fun q => by have := hE _ q; omega) (by rw [h.blk, row0]), hk, fun q => hz ((row_zero _ _ h.len).2 (fun i hi => ?_))⟩
    cases hb : ts.getD i none with
    | none => rfl
    | some g =>
      have h8 := hk i hi
      rw [hb, q i (by unfold spn; omega)] at h8
      cases h8
end
end Go.Proofs.Ytjginocbbnmgaaa
