/-
  SEAT Ytgdmagmbkmgdfaa: the walk of TagsChecks.
-/
import Derived.Test.YtgdmagmbkmgdfaaChk
namespace Go.Proofs.Ytgdmagmbkmgdfaa
open Go.RowKit
set_option linter.unusedVariables false

theorem held11 {w x : World} {B P sec k f s b o c n z : Int} (h : ((w.alloc (.cells #[.int .i64 B, .int .i64 P, .int .i64 sec] 23)).alloc (.cells #[.int .i64 k, .int .i64 f, .int .u64 s, .int .u64 b, .int .i64 o, .int .i64 c, .int .i64 n, .int .i64 z] 26)).grownBy x none) : (fun x => ((w.alloc (.cells #[.int .i64 B, .int .i64 P, .int .i64 sec] 23)).alloc (.cells #[.int .i64 k, .int .i64 f, .int .u64 s, .int .u64 b, .int .i64 o, .int .i64 c, .int .i64 n, .int .i64 z] 26)).grownBy x none ∧ x.cell? ⟨w.heap.size, 0, none⟩ = some (.int .i64 B) ∧ x.cell? ⟨w.heap.size, 1, none⟩ = some (.int .i64 P) ∧ x.cell? ⟨w.heap.size, 2, none⟩ = some (.int .i64 sec) ∧ x.cell? ⟨w.heap.size + 1, 0, none⟩ = some (.int .i64 k) ∧ x.cell? ⟨w.heap.size + 1, 1, none⟩ = some (.int .i64 f) ∧ x.cell? ⟨w.heap.size + 1, 2, none⟩ = some (.int .u64 s) ∧ x.cell? ⟨w.heap.size + 1, 3, none⟩ = some (.int .u64 b) ∧ x.cell? ⟨w.heap.size + 1, 4, none⟩ = some (.int .i64 o) ∧ x.cell? ⟨w.heap.size + 1, 5, none⟩ = some (.int .i64 c) ∧ x.cell? ⟨w.heap.size + 1, 6, none⟩ = some (.int .i64 n) ∧ x.cell? ⟨w.heap.size + 1, 7, none⟩ = some (.int .i64 z)) x := ⟨h, box11 (below_of h)⟩

set_option maxHeartbeats 4000000 in
theorem walk (B P sec k f s b o c n z : Int) (w : World) : Calls Try.prog 3 #[.agg #[.int .i64 B, .int .i64 P, .int .i64 sec], .agg #[.int .i64 k, .int .i64 f, .int .u64 s, .int .u64 b, .int .i64 o, .int .i64 c, .int .i64 n, .int .i64 z]] w fun e w' => e = .returned (.bool true) ∧ Below w.heap.size w w' := by
  obtain ⟨m, hm⟩ : ∃ m, chkE B P sec k f s b o c n z = m := ⟨_, rfl⟩
  go_enter Try.func3, Try.ntmps3
  go_wp2
  go_region_held3 (fun x => ((w.alloc (.cells #[.int .i64 B, .int .i64 P, .int .i64 sec] 23)).alloc (.cells #[.int .i64 k, .int .i64 f, .int .u64 s, .int .u64 b, .int .i64 o, .int .i64 c, .int .i64 n, .int .i64 z] 26)).grownBy x none ∧ x.cell? ⟨w.heap.size, 0, none⟩ = some (.int .i64 B) ∧ x.cell? ⟨w.heap.size, 1, none⟩ = some (.int .i64 P) ∧ x.cell? ⟨w.heap.size, 2, none⟩ = some (.int .i64 sec) ∧ x.cell? ⟨w.heap.size + 1, 0, none⟩ = some (.int .i64 k) ∧ x.cell? ⟨w.heap.size + 1, 1, none⟩ = some (.int .i64 f) ∧ x.cell? ⟨w.heap.size + 1, 2, none⟩ = some (.int .u64 s) ∧ x.cell? ⟨w.heap.size + 1, 3, none⟩ = some (.int .u64 b) ∧ x.cell? ⟨w.heap.size + 1, 4, none⟩ = some (.int .i64 o) ∧ x.cell? ⟨w.heap.size + 1, 5, none⟩ = some (.int .i64 c) ∧ x.cell? ⟨w.heap.size + 1, 6, none⟩ = some (.int .i64 n) ∧ x.cell? ⟨w.heap.size + 1, 7, none⟩ = some (.int .i64 z))
    ((first
      | exact held11 (drew_grown _ _)
      | exact held11 (grownBy_trans (drew_grown _ none) (grown_of (bel1.trans (bel2.mono bel1.size)) none))
      | exact held11 (grownBy_trans (drew_grown _ none) (grown_of bel1 none))))
    ((first
      | (go_at_call 5; refine (check_any _ _ _ _ _ _ _ _ _ _ _ _).mono ?_; rintro e u1 ⟨rfl, bel1⟩; rw [hm])
      | (go_at_call 6; refine (rcheck_any _ _ _ _ _ _ _ _ _ _ _ _).mono ?_; rintro e u2 ⟨rfl, bel2⟩; rw [hm])
      | (go_at_call 4; refine (no_any _ _).mono ?_; rintro e u ⟨rfl, rfl⟩)))
  all_goals go_wp2
  all_goals go_ret
  all_goals exact ⟨ret_bool (by simp), below2 (below_of (grownBy_trans (drew_grown _ none) (grown_of (bel1.trans (bel2.mono bel1.size)) none)))⟩
end Go.Proofs.Ytgdmagmbkmgdfaa
