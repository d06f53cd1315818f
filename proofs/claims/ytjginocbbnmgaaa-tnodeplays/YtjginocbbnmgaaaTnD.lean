/-
  SEAT Ytjginocbbnmgaaa: with, at any level.
-/
import Derived.Test.YtjginocbbnmgaaaTnC
namespace Go.Proofs.Ytjginocbbnmgaaa
open Go.RowKit
set_option linter.unusedVariables false

theorem ptr_one (o : Option Nat) : (ptr o).oneCell' = true := by cases o <;> rfl
theorem cells0_one (ts : List (Option Nat)) : (List.replicate 16 (Value.pointer none) ++ ts.map ptr).toArray.all (·.oneCell') = true := by
  rw [List.all_toArray, List.all_eq_true]
  intro x hx
  rcases List.mem_append.1 hx with h | h
  · rw [List.eq_of_mem_replicate h]; rfl
  · obtain ⟨o, _, rfl⟩ := List.mem_map.1 h
    exact ptr_one o
theorem cells1_one (bs : List (Option Nat)) : (bs.map ptr ++ List.replicate 16 (Value.pointer none)).toArray.all (·.oneCell') = true := by
  rw [List.all_toArray, List.all_eq_true]
  intro x hx
  rcases List.mem_append.1 hx with h | h
  · obtain ⟨o, _, rfl⟩ := List.mem_map.1 h
    exact ptr_one o
  · rw [List.eq_of_mem_replicate h]; rfl
theorem cells0_set (ts : List (Option Nat)) (D x : Nat) : (List.replicate 16 (Value.pointer none) ++ ts.map ptr).toArray.setIfInBounds (16 + D) (.pointer (some ⟨x, 0, none⟩)) = (List.replicate 16 (Value.pointer none) ++ (ts.set D (some x)).map ptr).toArray := by
  rw [List.setIfInBounds_toArray, List.set_append_right _ _ (by simp), List.length_replicate, Nat.add_sub_cancel_left, List.map_set]
  rfl
theorem cells1_set (bs : List (Option Nat)) (hl : bs.length = 16) (D x : Nat) (hD : D < 16) : (bs.map ptr ++ List.replicate 16 (Value.pointer none)).toArray.setIfInBounds D (.pointer (some ⟨x, 0, none⟩)) = ((bs.set D (some x)).map ptr ++ List.replicate 16 (Value.pointer none)).toArray := by
  rw [List.setIfInBounds_toArray, List.set_append_left _ _ (by simp; omega), List.map_set]
  rfl
theorem z96_0 : (Z96 : Array Value) = (List.replicate 16 (Value.pointer none) ++ (List.replicate 16 (none : Option Nat)).map ptr).toArray := rfl
theorem z96_1 : (Z96 : Array Value) = ((List.replicate 16 (none : Option Nat)).map ptr ++ List.replicate 16 (Value.pointer none)).toArray := rfl
theorem repD (i : Nat) : (List.replicate 16 (none : Option Nat)).getD i none = none := by
  rw [List.getD_eq_getElem?_getD, List.getElem?_replicate]
  split <;> rfl
theorem getD_set (ts : List (Option Nat)) (D i : Nat) (x : Option Nat) (hD : D < ts.length) : (ts.set D x).getD i none = if i = D then x else ts.getD i none := by
  by_cases e : i = D
  · subst e
    simp [List.getD_eq_getElem?_getD, hD]
  · rw [if_neg e]
    simp [List.getD_eq_getElem?_getD, List.getElem?_set_ne (fun q => e q.symm)]
theorem put0_below (w : World) (v : Int) (cs : Array Value) (D : Nat) : Below w.heap.size w (put0 w v cs D) := ((Below.refl _ _).alloc (Nat.le_refl _) _).alloc (by simp) _
theorem put0_node (w : World) (v : Int) (cs : Array Value) (D : Nat) : (put0 w v cs D).heap[w.heap.size + 1]? = some (.cells (cs.setIfInBounds (16 + D) (.pointer (some ⟨w.heap.size, 0, none⟩))) 96 (0, 0)) := mid1_node w v _
theorem put0_thing (w : World) (v : Int) (cs : Array Value) (D : Nat) : (put0 w v cs D).heap[w.heap.size]? = some (.cells #[.int .i64 v] 3 (0, 0)) := mid1_thing w v _
theorem fresh {w : World} {E : Nat → Prop} (hE : ∀ i, E i → i < w.heap.size) {j : Nat} (hj : w.heap.size ≤ j) : ¬ E j := fun q => by have := hE j q; omega
section
variable {w : World} {E : Nat → Prop} [DecidablePred E]
/-- The node that with makes at the lowest level. -/
theorem node0 (hE : ∀ i, E i → i < w.heap.size) (ts : List (Option Nat)) (hl : ts.length = 16) (M : Mp) (k : Nat) (v : Int) (ht : ∀ i, i < 16 → ThingOn (seenH w E) (ts.getD i none) (M i)) : NodeOn (seenH (put0 w v (List.replicate 16 (Value.pointer none) ++ ts.map ptr).toArray (dig k 0)) E) 0 (some (w.heap.size + 1)) (upd M (k % spn 1) v) := by
  have hD := dig_lt k 0
  have hd : k % spn 1 = dig k 0 := by unfold dig spn; simp
  rw [hd]
  obtain ⟨D, hDD⟩ : ∃ D, dig k 0 = D := ⟨_, rfl⟩
  rw [hDD] at hD ⊢
  have hs := shows_below (E := E) (E' := E) (put0_below w v (List.replicate 16 (Value.pointer none) ++ ts.map ptr).toArray D) (fun i _ q => q)
  refine ⟨ts.set D (some w.heap.size), by simpa using hl, seen_of (fresh hE (by omega)) (by rw [put0_node, cells0_set]), fun i hi => ?_, not_void_upd M v (by unfold spn; omega)⟩
  rw [getD_set _ _ _ _ (by omega)]
  unfold upd
  by_cases e : i = D
  · rw [if_pos e, if_pos e]
    exact seen_of (fresh hE (Nat.le_refl _)) (put0_thing _ _ _ _)
  · rw [if_neg e, if_neg e]
    exact (ht i hi).mono hs
/-- The node that with makes above it. -/
theorem node1 {t1 : World} (hE : ∀ i, E i → i < w.heap.size) (bs : List (Option Nat)) (hl : bs.length = 16) (l : Nat) (M : Mp) (k : Nat) (v : Int) (g' : Nat) (hb : ∀ i, i < 16 → NodeOn (seenH w E) l (bs.getD i none) (sub M (spn (l + 1)) i))
    (q1 : Below (mid1 w v (bs.map ptr ++ List.replicate 16 (Value.pointer none)).toArray).heap.size (mid1 w v (bs.map ptr ++ List.replicate 16 (Value.pointer none)).toArray) t1)
    (r1 : NodeOn (seenH t1 (fun i => E i ∨ i = w.heap.size + 1)) l (some g') (upd (sub M (spn (l + 1)) (dig k (l + 1))) (k % spn (l + 1)) v)) :
    NodeOn (seenH (t1.setCell ⟨w.heap.size + 1, dig k (l + 1), none⟩ (.pointer (some ⟨g', 0, none⟩))) E) (l + 1) (some (w.heap.size + 1)) (upd M (k % spn (l + 2)) v) ∧ Below w.heap.size w (t1.setCell ⟨w.heap.size + 1, dig k (l + 1), none⟩ (.pointer (some ⟨g', 0, none⟩))) := by
  have hD := dig_lt k (l + 1)
  have hms := mid1_size w v (bs.map ptr ++ List.replicate 16 (Value.pointer none)).toArray
  have hgn := (q1.block (w.heap.size + 1) (by omega)).trans (mid1_node w v _)
  have hbw : Below w.heap.size w t1 := (mid1_below w v _).trans (q1.mono (by omega))
  have hb2 : Below w.heap.size w (t1.setCell ⟨w.heap.size + 1, dig k (l + 1), none⟩ (.pointer (some ⟨g', 0, none⟩))) := hbw.setCell (p := ⟨w.heap.size + 1, dig k (l + 1), none⟩) (by simp) _
  have htop : k % spn (l + 2) / spn (l + 1) = dig k (l + 1) := dig_top k (l + 1)
  have hlow : k % spn (l + 2) % spn (l + 1) = k % spn (l + 1) := mod_mod k (l + 1)
  have hpos := spn_pos (l + 1)
  refine ⟨⟨bs.set (dig k (l + 1)) (some g'), by simpa using hl, seen_of (fresh hE (by omega)) ?_, fun i hi => ?_, not_void_upd M v (Nat.mod_lt _ (spn_pos (l + 2)))⟩, hb2⟩
  · rw [heap_setCell_same t1 (w.heap.size + 1) (dig k (l + 1)) _ 96 _ hgn, cells1_set bs hl _ _ hD]
  · rw [getD_set _ _ _ _ (by omega)]
    by_cases e : i = dig k (l + 1)
    · rw [if_pos e, e]
      refine NodeOn.congr (fun j hj => ?_) (r1.mono (H' := seenH (t1.setCell ⟨w.heap.size + 1, dig k (l + 1), none⟩ (.pointer (some ⟨g', 0, none⟩))) E) (fun x o hx => ?_))
      · have h9 := sub_upd_same M (s := spn (l + 1)) (k := k % spn (l + 2)) hpos v j hj
        rw [htop, hlow] at h9
        exact h9.symm
      · obtain ⟨h1, h2⟩ := seen_block hx
        refine seen_of (fun q => h1 (Or.inl q)) ?_
        rw [heap_setCell_other t1 ⟨w.heap.size + 1, dig k (l + 1), none⟩ x _ (fun q => h1 (Or.inr q))]
        exact h2
    · rw [if_neg e]
      refine NodeOn.congr (fun j hj => ?_) ((hb i hi).mono (shows_below (E := E) (E' := E) hb2 (fun _ _ q => q)))
      have h9 := sub_upd_other M (s := spn (l + 1)) (k := k % spn (l + 2)) (i := i) hpos v (by rw [htop]; exact e) j hj
      exact h9.symm
end
theorem NodeOn.drew {w : World} {E : Nat → Prop} [DecidablePred E] {l : Nat} {o : Option Nat} {M : Mp} (h : NodeOn (seenH w E) l o M) : NodeOn (seenH w.drew E) l o M := h
/-- with: a node with v at the key k, counted within its own keys. -/
theorem with_any : ∀ (l k : Nat) (v : Int) (o : Option Nat) (M : Mp) (w : World) (E : Nat → Prop) [DecidablePred E], l ≤ 4 → k < 1048576 → (∀ i, E i → i < w.heap.size) → NodeOn (seenH w E) l o M →
    Calls Try.prog 38 #[ptr o, .int .i64 (l : Int), .int .i64 (k : Int), .int .i64 v] w fun e w' => ∃ g, e = .returned (.pointer (some ⟨g, 0, none⟩)) ∧ NodeOn (seenH w' E) l (some g) (upd M (k % spn (l + 1)) v) ∧ Below w.heap.size w w'
  | 0, k, v, none, M, w, E, _, hl, hk, hE, h => by
    refine (with0_none k v w hk).mono ?_
    rintro e w' ⟨rfl, rfl⟩
    refine ⟨_, rfl, ?_, put0_below _ _ _ _⟩
    rw [z96_0]
    refine node0 hE (List.replicate 16 none) (by simp) M k v (fun i hi => ?_)
    have hv : M i = none := h i (by unfold spn; omega)
    rw [hv, repD]
    trivial
  | 0, k, v, some g0, M, w, E, _, hl, hk, hE, ⟨ts, h1, h2, h3, h4⟩ => by
    obtain ⟨_, h5⟩ := seen_block h2
    refine (with0_some k g0 v _ w hk h5 (by simp [h1]) (cells0_one ts)).mono ?_
    rintro e w' ⟨rfl, rfl⟩
    exact ⟨_, rfl, node0 hE ts h1 M k v h3, put0_below _ _ _ _⟩
  | l + 1, k, v, none, M, w, E, _, hl, hk, hE, h => by
    have hv := (void_sub (spn_pos (l + 1))).1 (by rw [← spn_succ]; exact h)
    have hb0 : ∀ i, i < 16 → NodeOn (seenH w E) l ((List.replicate 16 (none : Option Nat)).getD i none) (sub M (spn (l + 1)) i) := fun i hi => by
      rw [repD]
      exact NodeOn.void (hv i hi)
    have hD := dig_lt k (l + 1)
    have IH := with_any l k v none (sub M (spn (l + 1)) (dig k (l + 1))) (mid1 w v Z96).drew (fun i => E i ∨ i = w.heap.size + 1) (by omega) hk (fun i q => by show i < (mid1 w v Z96).heap.size; rw [mid1_size]; exact q.elim (fun q => by have := hE i q; omega) (fun q => by omega)) (NodeOn.void (hv _ hD))
    refine (withS_none l k v w none (fun g' w1 => NodeOn (seenH w1 (fun i => E i ∨ i = w.heap.size + 1)) l (some g') (upd (sub M (spn (l + 1)) (dig k (l + 1))) (k % spn (l + 1)) v)) hk hl ?_ (IH.mono ?_)).mono ?_
    · rw [z96_1, List.getElem?_toArray, List.getElem?_append_left (by simp; omega), List.getElem?_map, List.getElem?_replicate]
      simp [hD]
    · rintro e w1 ⟨g', rfl, r1, q1⟩
      exact ⟨g', rfl, (Below.refl _ _).drew.trans q1, r1⟩
    · rintro e w' ⟨g', w1, rfl, r1, q1, rfl⟩
      rw [z96_1] at q1
      obtain ⟨n1, n2⟩ := node1 hE (List.replicate 16 none) (by simp) l M k v g' hb0 q1 r1
      exact ⟨_, rfl, n1, n2⟩
  | l + 1, k, v, some g0, M, w, E, _, hl, hk, hE, ⟨bs, h1, h2, h3, h4⟩ => by
    obtain ⟨_, h5⟩ := seen_block h2
    have hD := dig_lt k (l + 1)
    have IH := with_any l k v (bs.getD (dig k (l + 1)) none) (sub M (spn (l + 1)) (dig k (l + 1))) (mid1 w v (bs.map ptr ++ List.replicate 16 (Value.pointer none)).toArray).drew (fun i => E i ∨ i = w.heap.size + 1) (by omega) hk (fun i q => by show i < (mid1 w v _).heap.size; rw [mid1_size]; exact q.elim (fun q => by have := hE i q; omega) (fun q => by omega)) ((h3 _ hD).mono (shows_below (E := E) (mid1_below w v _).drew (fun i hi q => q.elim id (fun e => by omega))))
    refine (withS_some l k g0 v _ w (bs.getD (dig k (l + 1)) none) (fun g' w1 => NodeOn (seenH w1 (fun i => E i ∨ i = w.heap.size + 1)) l (some g') (upd (sub M (spn (l + 1)) (dig k (l + 1))) (k % spn (l + 1)) v)) hk hl h5 (by simp [h1]) (cells1_one bs) ?_ (IH.mono ?_)).mono ?_
    · rw [List.getElem?_toArray, List.getElem?_append_left (by simp; omega), List.getElem?_map, List.getD_eq_getElem?_getD, List.getElem?_eq_getElem (by omega)]
      rfl
    · rintro e w1 ⟨g', rfl, r1, q1⟩
      exact ⟨g', rfl, (Below.refl _ _).drew.trans q1, r1⟩
    · rintro e w' ⟨g', w1, rfl, r1, q1, rfl⟩
      obtain ⟨n1, n2⟩ := node1 hE bs h1 l M k v g' h3 q1 r1
      exact ⟨_, rfl, n1, n2⟩
end Go.Proofs.Ytjginocbbnmgaaa
