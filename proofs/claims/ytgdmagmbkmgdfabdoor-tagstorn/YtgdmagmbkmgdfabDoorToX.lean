/-
  SEAT YtgdmagmbkmgdfabDoor: TagsTorn: all ways.
-/
import Derived.Test.YtgdmagmbkmgdfabDoorToW
import Derived.ProofKit
import Derived.OpenShut
namespace Go.Proofs.YtgdmagmbkmgdfabDoor
open Go.RowKit Go.ChangeShapes Go.WideShapes Go.ChangeAt
set_option linter.unusedVariables false

theorem tornWalk (n0 n1 n2 n3 n4 n5 n6 n7 : Int) (a1 : Option Addr) (len1 cap1 : Nat) (z1 : List Int) (up : Bool) (i3 i4 : Int) (w : World) (w0 : (Lit.int .i64 n0).wf = true) (w1 : (Lit.int .i64 n1).wf = true) (w2 : (Lit.int .u64 n2).wf = true) (w3 : (Lit.int .u64 n3).wf = true) (w4 : (Lit.int .i64 n4).wf = true) (w5 : (Lit.int .i64 n5).wf = true) (w6 : (Lit.int .i64 n6).wf = true) (w7 : (Lit.int .i64 n7).wf = true) (hr : Reads w a1 len1 z1) (s1 : len1 ≤ 140737488351232) (_hc : len1 ≤ cap1) (v3 : (Lit.int .i64 i3).wf = true) (v4 : (Lit.int .i64 i4).wf = true) (hT : Tab w) :
    Calls Tryd.prog 3 #[T8 n0 n1 n2 n3 n4 n5 n6 n7, .slice a1 len1 cap1, .bool up, .int .i64 i3, .int .i64 i4] w fun e w' => e = .returned (.bool true) ∧ Below w.heap.size w w' := by
  have b0 := bounds_i64 w0
  have b1 := bounds_i64 w1
  have b2 := bounds_u64 w2
  have b3 := bounds_u64 w3
  have b4 := bounds_i64 w4
  have b5 := bounds_i64 w5
  have b6 := bounds_i64 w6
  have b7 := bounds_i64 w7
  have hff := fits_small n0 n1 n2 n3 n4 n5 n6 n7 b2.1 b3.1 b0.1 b0.2 b1.1 b1.2 b4.1 b4.2 b5.1 b5.2 b6.1 b6.2 b7.1 b7.2
  by_cases hs : Small n0 n1 n2 n3 n4 n5 n6 n7
  · exact tornYes n0 n1 n2 n3 n4 n5 n6 n7 a1 len1 cap1 z1 up i3 i4 w hT b2.1 b3.1 hs (hff.2 hs) hr s1 (bounds_i64 v3) (bounds_i64 v4)
  · exact tornNo n0 n1 n2 n3 n4 n5 n6 n7 a1 len1 cap1 up i3 i4 w hT b2.1 b3.1 fun h => hs (hff.1 h)
end Go.Proofs.YtgdmagmbkmgdfabDoor
