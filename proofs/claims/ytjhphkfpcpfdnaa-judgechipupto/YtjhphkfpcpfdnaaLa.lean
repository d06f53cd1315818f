/-
  SEAT Ytjhphkfpcpfdnaa: the laws' small functions.
-/
import Derived.Test.YtjhphkfpcpfdnaaNf
namespace Go.Proofs.Ytjhphkfpcpfdnaa
open Go.RowKit Go.Conc
set_option linter.unusedVariables false

/-- Bytes again and again. -/
def fitL (b : List Int) (n : Nat) : List Int := (List.range n).map (fun i => b.getD (i % b.length) 0)
theorem fitL_succ (b : List Int) (k : Nat) : fitL b (k + 1) = fitL b k ++ [b.getD (k % b.length) 0] := by
  unfold fitL
  rw [List.range_succ, List.map_append]
  rfl

end Go.Proofs.Ytjhphkfpcpfdnaa
