/-
  SEAT YtnmnhgagnfodhaaDoor: K.
-/
import Derived.Test.YtnmnhgagnfodhaaDoorMx
namespace Go.Proofs.YtnmnhgagnfodhaaDoor
open Go.RowKit
set_option linter.unusedVariables false
structure Pl where
 x : Int
 y : Int
def Pl.cells (p : Pl) : List Value := [.int .i64 p.x, .int .i64 p.y]
def flatP (ps : List Pl) : List Value := ps.flatMap Pl.cells
theorem info45 : (Tryd.prog.info? 45).map (fun i => (i.zero, i.size, i.bytes)) = some (some (.agg #[.int .i64 0, .int .i64 0]), 2, 16) := by kernel_rfl
end Go.Proofs.YtnmnhgagnfodhaaDoor
