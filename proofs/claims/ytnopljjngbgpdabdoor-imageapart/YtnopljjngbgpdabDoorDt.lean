/-
  SEAT YtnopljjngbgpdabDoor: images compared; a place looked for.
-/
import Derived.Test.YtnopljjngbgpdabDoorSb
import Derived.Test.YtnopljjngbgpdabDoorDq
namespace Go.Proofs.YtnopljjngbgpdabDoor
open Go.RowKit
set_option linter.unusedVariables false

theorem same_dec (a a' : Option Addr) (n n' c c' : Nat) (xs ys : List Int) (w : World) (h : Reads w a n xs) (h' : Reads w a' n' ys) :
    Calls Tryd.prog 16 #[.slice a n c, .slice a' n' c'] w fun e w' => e = .returned (.bool (decide (xs = ys))) ∧ w' = w := by
  have e1 := conv a n c xs w h
  have e2 := conv a' n' c' ys w h'
  have HE : Hid _ := str_eq h.2.1 h'.2.1
  clear h h'
  go_enter Tryd.func16, Tryd.ntmps16
  go_wp2
  go_ret
  refine ⟨?_, rfl⟩
  exact ret_bool HE.out


set_option maxHeartbeats 1000000 in
set_option maxRecDepth 100000 in
theorem alike_cells (b p s : Int) (a a' : Option Addr) (n c c' : Nat) (xs ys : List Int) (d d' : Option Addr) (m k k' : Nat) (ms ns : List Bool) (w : World) (h : Reads w a n xs) (h' : Reads w a' n ys) (g : ReadsB w d m ms) (g' : ReadsB w d' m ns) (hm : m ≤ 140737488355000) (hne : xs ≠ ys) :
    Calls Tryd.prog 14 #[.agg #[.int .i64 b, .int .i64 p, .int .i64 s, .slice a n c, .slice d m k], .agg #[.int .i64 b, .int .i64 p, .int .i64 s, .slice a' n c', .slice d' m k']] w fun e w' => e = .returned (.bool false) ∧ Below w.heap.size w w' := by
  obtain ⟨W, hW⟩ : ∃ W, ((w.alloc (.cells #[.int .i64 b, .int .i64 p, .int .i64 s, .slice a n c, .slice d m k] 27)).alloc (.cells #[.int .i64 b, .int .i64 p, .int .i64 s, .slice a' n c', .slice d' m k'] 27)) = W := ⟨_, rfl⟩
  have hb1 : Below w.heap.size w ((w.alloc (.cells #[.int .i64 b, .int .i64 p, .int .i64 s, .slice a n c, .slice d m k] 27)).alloc (.cells #[.int .i64 b, .int .i64 p, .int .i64 s, .slice a' n c', .slice d' m k'] 27)) := below_trans (below_alloc w _) (below_alloc _ _)
  have x1 : ((w.alloc (.cells #[.int .i64 b, .int .i64 p, .int .i64 s, .slice a n c, .slice d m k] 27)).alloc (.cells #[.int .i64 b, .int .i64 p, .int .i64 s, .slice a' n c', .slice d' m k'] 27)).heap[w.heap.size]? = some (.cells #[.int .i64 b, .int .i64 p, .int .i64 s, .slice a n c, .slice d m k] 27 (0, 0)) := by
    rw [Below.heap_alloc _ _ _ (by simp)]; exact heap_alloc_new _ _
  have x2 : ((w.alloc (.cells #[.int .i64 b, .int .i64 p, .int .i64 s, .slice a n c, .slice d m k] 27)).alloc (.cells #[.int .i64 b, .int .i64 p, .int .i64 s, .slice a' n c', .slice d' m k'] 27)).heap[w.heap.size + 1]? = some (.cells #[.int .i64 b, .int .i64 p, .int .i64 s, .slice a' n c', .slice d' m k'] 27 (0, 0)) := by
    have h9 := heap_alloc_new (w.alloc (.cells #[.int .i64 b, .int .i64 p, .int .i64 s, .slice a n c, .slice d m k] 27)) (.cells #[.int .i64 b, .int .i64 p, .int .i64 s, .slice a' n c', .slice d' m k'] 27); rw [World.size_alloc] at h9; exact h9
  have r1 := h.below hb1
  have r2 := h'.below hb1
  have r3 := g.below hb1
  have r4 := g'.below hb1
  rw [hW] at hb1 x1 x2 r1 r2 r3 r4
  have HB : Hid (Below w.heap.size w W) := hb1
  have HR1 : Hid (Reads W a n xs) := r1
  have HR2 : Hid (Reads W a' n ys) := r2
  have HR3 : Hid (ReadsB W d m ms) := r3
  have HR4 : Hid (ReadsB W d' m ns) := r4
  obtain ⟨c0, c1, c2, c3, c4⟩ := cells5 x1
  obtain ⟨e0, e1, e2, e3, e4⟩ := cells5 x2
  clear h h' g g' hb1 r1 r2 r3 r4 x1 x2
  have HD : Hid (decide (xs = ys) = false) := decide_eq_false hne
  clear hne
  go_enter Tryd.func14, Tryd.ntmps14
  go_wp2_with (first
    | (go_at_call 16; refine (same_dec _ _ _ _ _ _ xs ys _ HR1.out HR2.out).mono ?_; rintro e t1 ⟨rfl, ht1⟩; rw [ht1, HD.out]; clear ht1))
  go_ret
  exact ⟨rfl, HB.out⟩
set_option maxHeartbeats 2000000 in
set_option maxRecDepth 100000 in
theorem alike_marks (b p s : Int) (a a' : Option Addr) (n c c' : Nat) (xs : List Int) (d d' : Option Addr) (m k k' : Nat) (ms ns : List Bool) (w : World) (h : Reads w a n xs) (h' : Reads w a' n xs) (g : ReadsB w d m ms) (g' : ReadsB w d' m ns) (hm : m ≤ 140737488355000) (hne : ms ≠ ns) :
    Calls Tryd.prog 14 #[.agg #[.int .i64 b, .int .i64 p, .int .i64 s, .slice a n c, .slice d m k], .agg #[.int .i64 b, .int .i64 p, .int .i64 s, .slice a' n c', .slice d' m k']] w fun e w' => e = .returned (.bool false) ∧ Below w.heap.size w w' := by
  obtain ⟨W, hW⟩ : ∃ W, ((w.alloc (.cells #[.int .i64 b, .int .i64 p, .int .i64 s, .slice a n c, .slice d m k] 27)).alloc (.cells #[.int .i64 b, .int .i64 p, .int .i64 s, .slice a' n c', .slice d' m k'] 27)) = W := ⟨_, rfl⟩
  have hb1 : Below w.heap.size w ((w.alloc (.cells #[.int .i64 b, .int .i64 p, .int .i64 s, .slice a n c, .slice d m k] 27)).alloc (.cells #[.int .i64 b, .int .i64 p, .int .i64 s, .slice a' n c', .slice d' m k'] 27)) := below_trans (below_alloc w _) (below_alloc _ _)
  have x1 : ((w.alloc (.cells #[.int .i64 b, .int .i64 p, .int .i64 s, .slice a n c, .slice d m k] 27)).alloc (.cells #[.int .i64 b, .int .i64 p, .int .i64 s, .slice a' n c', .slice d' m k'] 27)).heap[w.heap.size]? = some (.cells #[.int .i64 b, .int .i64 p, .int .i64 s, .slice a n c, .slice d m k] 27 (0, 0)) := by
    rw [Below.heap_alloc _ _ _ (by simp)]; exact heap_alloc_new _ _
  have x2 : ((w.alloc (.cells #[.int .i64 b, .int .i64 p, .int .i64 s, .slice a n c, .slice d m k] 27)).alloc (.cells #[.int .i64 b, .int .i64 p, .int .i64 s, .slice a' n c', .slice d' m k'] 27)).heap[w.heap.size + 1]? = some (.cells #[.int .i64 b, .int .i64 p, .int .i64 s, .slice a' n c', .slice d' m k'] 27 (0, 0)) := by
    have h9 := heap_alloc_new (w.alloc (.cells #[.int .i64 b, .int .i64 p, .int .i64 s, .slice a n c, .slice d m k] 27)) (.cells #[.int .i64 b, .int .i64 p, .int .i64 s, .slice a' n c', .slice d' m k'] 27); rw [World.size_alloc] at h9; exact h9
  have r1 := h.below hb1
  have r2 := h'.below hb1
  have r3 := g.below hb1
  have r4 := g'.below hb1
  rw [hW] at hb1 x1 x2 r1 r2 r3 r4
  have HB : Hid (Below w.heap.size w W) := hb1
  have HR1 : Hid (Reads W a n xs) := r1
  have HR2 : Hid (Reads W a' n xs) := r2
  have HR3 : Hid (ReadsB W d m ms) := r3
  have HR4 : Hid (ReadsB W d' m ns) := r4
  obtain ⟨c0, c1, c2, c3, c4⟩ := cells5 x1
  obtain ⟨e0, e1, e2, e3, e4⟩ := cells5 x2
  clear h h' g g' hb1 r1 r2 r3 r4 x1 x2
  have HNE : Hid (¬ ∀ i, i < m → ms.getD i false = ns.getD i false) := fun h9 => hne (by
    apply List.ext_getElem
    · rw [HR3.out.1, HR4.out.1]
    · intro i h1 h2
      have h8 := h9 i (by rw [← HR3.out.1]; exact h1)
      rw [List.getD_eq_getElem?_getD, List.getD_eq_getElem?_getD, List.getElem?_eq_getElem h1, List.getElem?_eq_getElem h2] at h8
      exact h8)
  clear hne
  go_enter Tryd.func14, Tryd.ntmps14
  go_wp2_with (first
    | (go_at_call 16; refine (same_eq _ _ _ _ _ xs _ HR1.out HR2.out).mono ?_; rintro e t1 ⟨rfl, ht1⟩; rw [ht1]; clear ht1))
  go_loopw [5] (fun s5 wr => ∃ j : Nat, j ≤ m ∧ s5 = .int .i64 j ∧ (∃ q, wr = W.drewN q) ∧ Hid (∀ i, i < j → ms.getD i false = ns.getD i false))
    (fun i _ => m - (intOf i).toNat)
  case atStart => exact ⟨0, Nat.zero_le _, rfl, ⟨0, rfl⟩, fun i hi => by omega⟩
  case round =>
    obtain ⟨j, hj, rfl, ⟨q, rfl⟩, HEQ⟩ := hrel
    by_cases hlt : j < m
    · obtain ⟨g1, o1, rfl, hg1, hc1⟩ := HR3.out.pos (by omega)
      obtain ⟨g2, o2, rfl, hg2, hc2⟩ := HR4.out.pos (by omega)
      have k1 := hc1 j hlt
      have k2 := hc2 j hlt
      have d1 : (j : Int) < (m : Int) := by omega
      clear hc1 hc2
      by_cases he : ms.getD j false = ns.getD j false
      · have HE2 : Hid (∀ i, i < j + 1 → ms.getD i false = ns.getD i false) := fun i hi => by
          rcases Nat.lt_or_ge i j with h8 | h8
          · exact HEQ.out i h8
          · obtain rfl : i = j := by omega
            exact he
        rw [← he] at k2
        clear he
        generalize ms.getD j false = B1 at k1 k2
        go_wp2
        go_quiet (fail)
        go_wp2
        go_roundw
        case rel => exact ⟨j + 1, by omega, by go_num, ⟨_, rfl⟩, HE2⟩
        case measure => simp [intOf]; omega
      · cases h1 : ms.getD j false <;> cases h2 : ns.getD j false
        · exact absurd (h1.trans h2.symm) he
        · rw [h1] at k1
          rw [h2] at k2
          clear he h1 h2
          go_wp2
          go_quiet (fail)
          go_wp2
          go_ret
          exact ⟨rfl, ⟨HB.out.os, HB.out.tape, HB.out.output, HB.out.size, HB.out.block⟩⟩
        · rw [h1] at k1
          rw [h2] at k2
          clear he h1 h2
          go_wp2
          go_quiet (fail)
          go_wp2
          go_ret
          exact ⟨rfl, ⟨HB.out.os, HB.out.tape, HB.out.output, HB.out.size, HB.out.block⟩⟩
        · exact absurd (h1.trans h2.symm) he
    · obtain rfl : j = m := by omega
      exact absurd HEQ.out HNE.out
theorem alike_dec (b p s : Int) (a a' : Option Addr) (n c c' : Nat) (xs ys : List Int) (d d' : Option Addr) (m k k' : Nat) (ms ns : List Bool) (w : World) (h : Reads w a n xs) (h' : Reads w a' n ys) (g : ReadsB w d m ms) (g' : ReadsB w d' m ns) (hm : m ≤ 140737488355000) :
    Calls Tryd.prog 14 #[.agg #[.int .i64 b, .int .i64 p, .int .i64 s, .slice a n c, .slice d m k], .agg #[.int .i64 b, .int .i64 p, .int .i64 s, .slice a' n c', .slice d' m k']] w fun e w' => e = .returned (.bool (decide (xs = ys ∧ ms = ns))) ∧ Below w.heap.size w w' := by
  by_cases h1 : xs = ys
  · subst h1
    by_cases h2 : ms = ns
    · subst h2
      rw [decide_eq_true ⟨rfl, rfl⟩]
      exact alike_eq b p s a a' n c c' xs d d' m k k' ms w h h' g g' hm
    · rw [decide_eq_false (fun e => h2 e.2)]
      exact alike_marks b p s a a' n c c' xs d d' m k k' ms ns w h h' g g' hm h2
  · rw [decide_eq_false (fun e => h1 e.1)]
    exact alike_cells b p s a a' n c c' xs ys d d' m k k' ms ns w h h' g g' hm h1

theorem has_at {ps : List Pl} {x y : Int} {i : Nat} (hi : i < ps.length) (h1 : (ps.getD i Pl.zero).x = x) (h2 : (ps.getD i Pl.zero).y = y) : (⟨x, y⟩ : Pl) ∈ ps := by
  rw [List.getD_eq_getElem?_getD, List.getElem?_eq_getElem hi] at h1 h2
  have e : ps[i] = ⟨x, y⟩ := by
    cases h3 : ps[i]
    rw [h3] at h1 h2
    simp only [Option.getD_some] at h1 h2
    rw [h1, h2]
  rw [← e]
  exact List.getElem_mem hi
theorem has_not {ps : List Pl} {x y : Int} (h : ∀ i, i < ps.length → ¬ ((ps.getD i Pl.zero).x = x ∧ (ps.getD i Pl.zero).y = y)) : ¬ (⟨x, y⟩ : Pl) ∈ ps := fun hm => by
  obtain ⟨i, hi, e⟩ := List.getElem_of_mem hm
  refine h i hi ?_
  rw [List.getD_eq_getElem?_getD, List.getElem?_eq_getElem hi, e]
  exact ⟨rfl, rfl⟩
/-- Is a place in a list? -/
def hasL (ps : List Pl) (x y : Int) : Bool := ps.any fun q => q.x == x && q.y == y
theorem hasL_true {ps : List Pl} {x y : Int} (h : (⟨x, y⟩ : Pl) ∈ ps) : hasL ps x y = true := List.any_eq_true.2 ⟨_, h, by simp⟩
theorem hasL_false {ps : List Pl} {x y : Int} (h : ¬ (⟨x, y⟩ : Pl) ∈ ps) : hasL ps x y = false := by
  rw [hasL, List.any_eq_false]
  intro q hq h2
  simp only [Bool.and_eq_true, beq_iff_eq] at h2
  obtain ⟨q1, q2⟩ := q
  simp only at h2
  rw [h2.1, h2.2] at hq
  exact h hq
set_option maxHeartbeats 2000000 in
set_option maxRecDepth 100000 in
theorem has_any (a : Option Addr) (n c : Nat) (ps : List Pl) (x y : Int) (w : World) (h : ReadsP w a n ps) (hn : n ≤ 140737488355000) :
    Calls Tryd.prog 20 #[.slice a n c, .agg #[.int .i64 x, .int .i64 y]] w fun e w' => e = .returned (.bool (hasL ps x y)) ∧ Below w.heap.size w w' := by
  obtain ⟨W, hW⟩ : ∃ W, w.alloc (.cells #[.int .i64 x, .int .i64 y] 50) = W := ⟨_, rfl⟩
  have hb : Below w.heap.size w W := by rw [← hW]; exact below_alloc _ _
  have hx : W.heap[w.heap.size]? = some (.cells #[.int .i64 x, .int .i64 y] 50 (0, 0)) := by rw [← hW]; exact heap_alloc_new _ _
  have HR : Hid (ReadsP W a n ps) := h.below hb
  have HB : Hid (Below w.heap.size w W) := hb
  have x0 : W.cell? ⟨w.heap.size, 0, none⟩ = some (.int .i64 x) := by simp [World.cell?, hx]
  have x1 : W.cell? ⟨w.heap.size, 1, none⟩ = some (.int .i64 y) := by simp [World.cell?, hx]
  clear h hb hx
  go_enter Tryd.func20, Tryd.ntmps20
  go_wp2_with fail
  clear hW
  go_loopw [5] (fun s5 wr => ∃ j : Nat, j ≤ n ∧ s5 = .int .i64 j ∧ (∃ q, wr = W.drewN q) ∧ Hid (∀ i, i < j → ¬ ((ps.getD i Pl.zero).x = x ∧ (ps.getD i Pl.zero).y = y)))
    (fun i _ => n - (intOf i).toNat)
  case atStart => exact ⟨0, Nat.zero_le _, rfl, ⟨0, rfl⟩, fun i hi => by omega⟩
  case round =>
    obtain ⟨j, hj, rfl, ⟨q, rfl⟩, HEQ⟩ := hrel
    have HBD : Hid (∀ q, Below w.heap.size w (W.drewN q)) := fun q => ⟨HB.out.os, HB.out.tape, HB.out.output, HB.out.size, HB.out.block⟩
    by_cases hlt : j < n
    · obtain ⟨g1, o1, rfl, hg1, hc1⟩ := HR.out.pos (by omega)
      obtain ⟨k1, k2⟩ := hc1 j hlt
      have d1 : (j : Int) < (n : Int) := by omega
      have wj : IntKind.i64.wrap ((j : Int) + 1) = (j : Int) + 1 := by rw [IntKind.wrap_i64]; omega
      have HL : Hid (j < ps.length) := by unfold Hid; rw [HR.out.1]; exact hlt
      clear hc1
      obtain ⟨X, hX⟩ : ∃ X, (ps.getD j Pl.zero).x = X := ⟨_, rfl⟩
      obtain ⟨Y, hY⟩ : ∃ Y, (ps.getD j Pl.zero).y = Y := ⟨_, rfl⟩
      rw [hX] at k1
      rw [hY] at k2
      have HXY : Hid ((ps.getD j Pl.zero).x = X ∧ (ps.getD j Pl.zero).y = Y) := ⟨hX, hY⟩
      clear hX hY
      by_cases hx1 : X = x
      · by_cases hy1 : Y = y
        · subst hx1 hy1
          have HM : Hid (hasL ps X Y = true) := hasL_true (has_at HL.out HXY.out.1 HXY.out.2)
          go_wp2
          go_quiet (fail)
          go_wp2
          go_ret
          exact ⟨by rw [HM.out]; rfl, ⟨HB.out.os, HB.out.tape, HB.out.output, HB.out.size, HB.out.block⟩⟩
        · have HE2 : Hid (∀ i, i < j + 1 → ¬ ((ps.getD i Pl.zero).x = x ∧ (ps.getD i Pl.zero).y = y)) := fun i hi => by
            rcases Nat.lt_or_ge i j with h8 | h8
            · exact HEQ.out i h8
            · obtain rfl : i = j := by omega
              exact fun h9 => hy1 (HXY.out.2.symm.trans h9.2)
          subst hx1
          have ey : (Y == y) = false := by rw [beq_eq_false_iff_ne]; exact hy1
          go_wp2
          go_quiet (fail)
          go_wp2
          go_roundw
          case rel => exact ⟨j + 1, by omega, by go_num, ⟨_, rfl⟩, HE2⟩
          case measure => simp [intOf]; omega
      · have HE2 : Hid (∀ i, i < j + 1 → ¬ ((ps.getD i Pl.zero).x = x ∧ (ps.getD i Pl.zero).y = y)) := fun i hi => by
          rcases Nat.lt_or_ge i j with h8 | h8
          · exact HEQ.out i h8
          · obtain rfl : i = j := by omega
            exact fun h9 => hx1 (HXY.out.1.symm.trans h9.1)
        have ex : (X == x) = false := by rw [beq_eq_false_iff_ne]; exact hx1
        go_wp2
        go_quiet (fail)
        go_wp2
        go_roundw
        case rel => exact ⟨j + 1, by omega, by go_num, ⟨_, rfl⟩, HE2⟩
        case measure => simp [intOf]; omega
    · obtain rfl : j = n := by omega
      have HM : Hid (hasL ps x y = false) := hasL_false (has_not (fun i hi => HEQ.out i (by rw [HR.out.1] at hi; exact hi)))
      go_wp2
      go_ret
      exact ⟨by rw [HM.out]; rfl, ⟨HB.out.os, HB.out.tape, HB.out.output, HB.out.size, HB.out.block⟩⟩

end Go.Proofs.YtnopljjngbgpdabDoor
