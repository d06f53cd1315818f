/-
  SEAT Ytnopljjngbgpdaa: Page: what lies in its boxes.
-/
import Derived.Test.YtnopljjngbgpdaaGa
import Derived.Test.YtnopljjngbgpdaaGb
namespace Go.Proofs.Ytnopljjngbgpdaa
open Go.RowKit
set_option linter.unusedVariables false

theorem box572 {w u : World} {b q s x y : Int} {vc vm : Value} (h : (((w.alloc (.cells #[.int .i64 b, .int .i64 q, .int .i64 s, vc, vm] 27)).alloc (.cells #[.int .i64 x, .int .i64 y] 38)).alloc (.cells #[.slice none 0 0, .slice none 0 0] 40)).grownBy u none) :
    (u.cell? ⟨w.heap.size, 0, none⟩ = some (.int .i64 b) ∧ u.cell? ⟨w.heap.size, 1, none⟩ = some (.int .i64 q) ∧ u.cell? ⟨w.heap.size, 2, none⟩ = some (.int .i64 s) ∧ u.cell? ⟨w.heap.size, 3, none⟩ = some vc ∧ u.cell? ⟨w.heap.size, 4, none⟩ = some vm) ∧
    (u.cell? ⟨w.heap.size + 1, 0, none⟩ = some (.int .i64 x) ∧ u.cell? ⟨w.heap.size + 1, 1, none⟩ = some (.int .i64 y)) ∧
    (u.cell? ⟨w.heap.size + 2, 0, none⟩ = some (.slice none 0 0) ∧ u.cell? ⟨w.heap.size + 2, 1, none⟩ = some (.slice none 0 0)) ∧ ∀ j, u.frozen? ⟨w.heap.size + 2, j, none⟩ = false := by
  have e1 : (w.alloc (.cells #[.int .i64 b, .int .i64 q, .int .i64 s, vc, vm] 27)).heap.size = w.heap.size + 1 := by simp
  have e2 : ((w.alloc (.cells #[.int .i64 b, .int .i64 q, .int .i64 s, vc, vm] 27)).alloc (.cells #[.int .i64 x, .int .i64 y] 38)).heap.size = w.heap.size + 2 := by simp
  have a0 : (((w.alloc (.cells #[.int .i64 b, .int .i64 q, .int .i64 s, vc, vm] 27)).alloc (.cells #[.int .i64 x, .int .i64 y] 38)).alloc (.cells #[.slice none 0 0, .slice none 0 0] 40)).heap[w.heap.size]? = some (.cells #[.int .i64 b, .int .i64 q, .int .i64 s, vc, vm] 27) := by
    rw [Below.heap_alloc _ _ _ (by simp; omega), Below.heap_alloc _ _ _ (by simp)]; exact heap_alloc_new _ _
  have a1 : (((w.alloc (.cells #[.int .i64 b, .int .i64 q, .int .i64 s, vc, vm] 27)).alloc (.cells #[.int .i64 x, .int .i64 y] 38)).alloc (.cells #[.slice none 0 0, .slice none 0 0] 40)).heap[w.heap.size + 1]? = some (.cells #[.int .i64 x, .int .i64 y] 38) := by
    rw [Below.heap_alloc _ _ _ (by simp), ← e1]; exact heap_alloc_new _ _
  have a2 : (((w.alloc (.cells #[.int .i64 b, .int .i64 q, .int .i64 s, vc, vm] 27)).alloc (.cells #[.int .i64 x, .int .i64 y] 38)).alloc (.cells #[.slice none 0 0, .slice none 0 0] 40)).heap[w.heap.size + 2]? = some (.cells #[.slice none 0 0, .slice none 0 0] 40) := by
    rw [← e2]; exact heap_alloc_new _ _
  have c0 := (h.block w.heap.size (by simp; omega) (by simp)).trans a0
  have c1 := (h.block (w.heap.size + 1) (by simp) (by simp)).trans a1
  have c2 := (h.block (w.heap.size + 2) (by simp) (by simp)).trans a2
  clear h a0 a1 a2 e1 e2
  refine ⟨⟨?_, ?_, ?_, ?_, ?_⟩, ⟨?_, ?_⟩, ⟨?_, ?_⟩, fun j => ?_⟩
  all_goals first | (simp [World.cell?, c0]; done) | (simp [World.cell?, c1]; done) | (simp [World.cell?, c2]; done) | (simp [World.frozen?, c2]; done)

theorem bad_ways {x y b q : Int} (h : ¬ (0 ≤ x ∧ x < b ∧ 0 ≤ y ∧ y < q)) : x < 0 ∨ (0 ≤ x ∧ b ≤ x) ∨ (0 ≤ x ∧ x < b ∧ y < 0) ∨ (0 ≤ x ∧ x < b ∧ 0 ≤ y ∧ q ≤ y) := by omega

end Go.Proofs.Ytnopljjngbgpdaa
