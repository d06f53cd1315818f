/-
  SEAT Ytoaahellfflooaa.
-/
import Derived.Test.YtoaahellfflooaaVPx
import Derived.Test.YtoaahellfflooaaVEe
import Derived.Deep.Cut
import Derived.Defers
import Derived.Recover
import Derived.Laws.OwnMore
import Derived.WalkLawsBesides
import Derived.Laws.EntriesVeiled
import Derived.Test.YtoaahellfflooaaVEg
namespace Go.Proofs.Ytoaahellfflooaa
open Go.RowKit
set_option linter.unusedVariables false

theorem blk3_set {w : World} {q j : Nat} {c : Array Value} {t : TypeId} (h : w.heap[q]? = some (.cells c t (0, 0))) (v : Value) : (w.setCell ⟨q, j, none⟩ v).heap[q]? = some (.cells (c.setIfInBounds j v) t (0, 0)) := heap_setCell_same w q j _ _ v h
end Go.Proofs.Ytoaahellfflooaa
