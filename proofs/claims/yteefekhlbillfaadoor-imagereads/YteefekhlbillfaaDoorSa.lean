/-
  SEAT YteefekhlbillfaaDoor: what the laws ask: same, no, alike; a refused Pack.
-/
import Derived.Test.YteefekhlbillfaaDoorRq
namespace Go.Proofs.YteefekhlbillfaaDoor
open Go.RowKit
set_option linter.unusedVariables false

theorem no_any (x : Int) (w : World) : Calls Tryd.prog 10 #[.int .i64 x] w fun e w' => e = .returned (.int .i64 x) ∧ w' = w := by
  go_enter Tryd.func10, Tryd.ntmps10
  go_wp2
  go_ret
  exact ⟨rfl, rfl⟩

theorem pack_bad (b p s : Int) (a a' : Option Addr) (n c m c' : Nat) (w : World) (hE : chkE b p s n m ≠ 0) (hn : n ≤ 140737488355000) (hm : m ≤ 140737488355000) :
    Calls Tryd.prog 16 #[.agg #[.int .i64 b, .int .i64 p, .int .i64 s, .slice a n c, .slice a' m c']] w fun e w' => e = .returned (.tuple #[.slice none 0 0, .int .i64 (chkE b p s n m)]) ∧ Below w.heap.size w w' := by
  obtain ⟨x, hx⟩ : ∃ x, chkE b p s n m = x := ⟨_, rfl⟩
  rw [hx] at hE ⊢
  have hx1 : (x == 0) = false := by rw [beq_eq_false_iff_ne]; exact hE
  have HX : Hid (chkE b p s n m = x) := hx
  clear hx
  go_enter Tryd.func16, Tryd.ntmps16
  go_wp2_with (first
    | (go_at_call 14; refine (check_any b p s a a' n c m c' _ hn hm).mono ?_; rintro e t1 ⟨rfl, b1⟩; rw [HX.out]
       have HB1 : Hid (Below w.heap.size w t1) := below_trans (below_alloc w _) b1
       clear b1))
  go_ret2
  exact ⟨rfl, HB1.out⟩

set_option maxHeartbeats 2000000 in
set_option maxRecDepth 100000 in
theorem alike_eq (b p s : Int) (a a' : Option Addr) (n c c' : Nat) (xs : List Int) (d d' : Option Addr) (m k k' : Nat) (ms : List Bool) (w : World) (h : Reads w a n xs) (h' : Reads w a' n xs) (g : ReadsB w d m ms) (g' : ReadsB w d' m ms) (hm : m ≤ 140737488355000) :
    Calls Tryd.prog 11 #[.agg #[.int .i64 b, .int .i64 p, .int .i64 s, .slice a n c, .slice d m k], .agg #[.int .i64 b, .int .i64 p, .int .i64 s, .slice a' n c', .slice d' m k']] w fun e w' => e = .returned (.bool true) ∧ Below w.heap.size w w' := by
  obtain ⟨W, hW⟩ : ∃ W, ((w.alloc (.cells #[.int .i64 b, .int .i64 p, .int .i64 s, .slice a n c, .slice d m k] 30)).alloc (.cells #[.int .i64 b, .int .i64 p, .int .i64 s, .slice a' n c', .slice d' m k'] 30)) = W := ⟨_, rfl⟩
  have hb1 : Below w.heap.size w ((w.alloc (.cells #[.int .i64 b, .int .i64 p, .int .i64 s, .slice a n c, .slice d m k] 30)).alloc (.cells #[.int .i64 b, .int .i64 p, .int .i64 s, .slice a' n c', .slice d' m k'] 30)) := below_trans (below_alloc w _) (below_alloc _ _)
  have x1 : ((w.alloc (.cells #[.int .i64 b, .int .i64 p, .int .i64 s, .slice a n c, .slice d m k] 30)).alloc (.cells #[.int .i64 b, .int .i64 p, .int .i64 s, .slice a' n c', .slice d' m k'] 30)).heap[w.heap.size]? = some (.cells #[.int .i64 b, .int .i64 p, .int .i64 s, .slice a n c, .slice d m k] 30 (0, 0)) := by
    rw [Below.heap_alloc _ _ _ (by simp)]; exact heap_alloc_new _ _
  have x2 : ((w.alloc (.cells #[.int .i64 b, .int .i64 p, .int .i64 s, .slice a n c, .slice d m k] 30)).alloc (.cells #[.int .i64 b, .int .i64 p, .int .i64 s, .slice a' n c', .slice d' m k'] 30)).heap[w.heap.size + 1]? = some (.cells #[.int .i64 b, .int .i64 p, .int .i64 s, .slice a' n c', .slice d' m k'] 30 (0, 0)) := by
    have h9 := heap_alloc_new (w.alloc (.cells #[.int .i64 b, .int .i64 p, .int .i64 s, .slice a n c, .slice d m k] 30)) (.cells #[.int .i64 b, .int .i64 p, .int .i64 s, .slice a' n c', .slice d' m k'] 30); rw [World.size_alloc] at h9; exact h9
  have r1 := h.below hb1
  have r2 := h'.below hb1
  have r3 := g.below hb1
  have r4 := g'.below hb1
  rw [hW] at hb1 x1 x2 r1 r2 r3 r4
  have HB : Hid (Below w.heap.size w W) := hb1
  have HR1 : Hid (Reads W a n xs) := r1
  have HR2 : Hid (Reads W a' n xs) := r2
  have HR3 : Hid (ReadsB W d m ms) := r3
  have HR4 : Hid (ReadsB W d' m ms) := r4
  obtain ⟨c0, c1, c2, c3, c4⟩ := cells5 x1
  obtain ⟨e0, e1, e2, e3, e4⟩ := cells5 x2
  clear h h' g g' hb1 r1 r2 r3 r4 x1 x2
  go_enter Tryd.func11, Tryd.ntmps11
  go_wp2_with (first
    | (go_at_call 17; refine (same_eq _ _ _ _ _ xs _ HR1.out HR2.out).mono ?_; rintro e t1 ⟨rfl, ht1⟩; rw [ht1]; clear ht1))
  go_loopw [5] (fun s5 wr => ∃ j : Nat, j ≤ m ∧ s5 = .int .i64 j ∧ ∃ q, wr = W.drewN q)
    (fun i _ => m - (intOf i).toNat)
  case atStart => exact ⟨0, Nat.zero_le _, rfl, 0, rfl⟩
  case round =>
    obtain ⟨j, hj, rfl, q, rfl⟩ := hrel
    by_cases hlt : j < m
    · obtain ⟨g1, o1, rfl, hg1, hc1⟩ := HR3.out.pos (by omega)
      obtain ⟨g2, o2, rfl, hg2, hc2⟩ := HR4.out.pos (by omega)
      have k1 := hc1 j hlt
      have k2 := hc2 j hlt
      have d1 : (j : Int) < (m : Int) := by omega
      clear hc1 hc2
      go_wp2
      go_quiet (fail)
      go_wp2
      go_roundw
      case rel => exact ⟨j + 1, by omega, by go_num, _, rfl⟩
      case measure => simp [intOf]; omega
    · obtain rfl : j = m := by omega
      go_wp2
      go_ret
      exact ⟨rfl, ⟨HB.out.os, HB.out.tape, HB.out.output, HB.out.size, HB.out.block⟩⟩

end Go.Proofs.YteefekhlbillfaaDoor
