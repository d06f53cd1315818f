/-
  SEAT Ytoaahellfflooaa: marked, kept.
-/
import Derived.Test.YtoaahellfflooaaRE
namespace Go.Proofs.Ytoaahellfflooaa
open Go.RowKit
set_option linter.unusedVariables false

theorem marks_news (w : World) : ∀ j u, [Value.int .u8 161, Value.int .u8 178, Value.int .u8 195][j]? = some u →
    (w.alloc (.cells #[.int .u8 161, .int .u8 178, .int .u8 195] 5)).cell? ((⟨w.heap.size, 0, none⟩ : Addr).add j) = some u := by
  intro j u hj
  match j, hj with
  | 0, hj => simp at hj; subst hj; simp [Addr.add]
  | 1, hj => simp at hj; subst hj; simp [Addr.add]
  | 2, hj => simp at hj; subst hj; simp [Addr.add]
theorem marks_one : ∀ u ∈ [Value.int .u8 161, Value.int .u8 178, Value.int .u8 195], u.oneCell' = true := by
  intro u hu
  simp at hu
  rcases hu with rfl | rfl | rfl <;> rfl

end Go.Proofs.Ytoaahellfflooaa
