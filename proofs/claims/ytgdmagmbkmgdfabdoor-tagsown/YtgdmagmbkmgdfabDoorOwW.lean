/-
  SEAT YtgdmagmbkmgdfabDoor: TagsOwn: all ways.
-/
import Derived.Test.YtgdmagmbkmgdfabDoorOnW
import Derived.Test.YtgdmagmbkmgdfabDoorOyW
namespace Go.Proofs.YtgdmagmbkmgdfabDoor
open Go.RowKit Go.ChangeShapes Go.WideShapes Go.ChangeAt
set_option linter.unusedVariables false

theorem ownWalk (n0 n1 n2 n3 n4 n5 n6 n7 m0 m1 m2 m3 m4 m5 m6 m7 : Int) (w : World) (w0 : (Lit.int .i64 n0).wf = true) (w1 : (Lit.int .i64 n1).wf = true) (w2 : (Lit.int .u64 n2).wf = true) (w3 : (Lit.int .u64 n3).wf = true) (w4 : (Lit.int .i64 n4).wf = true) (w5 : (Lit.int .i64 n5).wf = true) (w6 : (Lit.int .i64 n6).wf = true) (w7 : (Lit.int .i64 n7).wf = true) (v0 : (Lit.int .i64 m0).wf = true) (v1 : (Lit.int .i64 m1).wf = true) (v2 : (Lit.int .u64 m2).wf = true) (v3 : (Lit.int .u64 m3).wf = true) (v4 : (Lit.int .i64 m4).wf = true) (v5 : (Lit.int .i64 m5).wf = true) (v6 : (Lit.int .i64 m6).wf = true) (v7 : (Lit.int .i64 m7).wf = true) (hT : Tab w) :
    Calls Tryd.prog 4 #[T8 n0 n1 n2 n3 n4 n5 n6 n7, T8 m0 m1 m2 m3 m4 m5 m6 m7] w fun e w' => e = .returned (.bool true) ∧ Below w.heap.size w w' := by
  have b0 := bounds_i64 w0
  have b1 := bounds_i64 w1
  have b2 := bounds_u64 w2
  have b3 := bounds_u64 w3
  have b4 := bounds_i64 w4
  have b5 := bounds_i64 w5
  have b6 := bounds_i64 w6
  have b7 := bounds_i64 w7
  have c0 := bounds_i64 v0
  have c1 := bounds_i64 v1
  have c2 := bounds_u64 v2
  have c3 := bounds_u64 v3
  have c4 := bounds_i64 v4
  have c5 := bounds_i64 v5
  have c6 := bounds_i64 v6
  have c7 := bounds_i64 v7
  rcases kn_of n0 n1 n2 n3 n4 n5 n6 n7 b2.1 b3.1 b0.1 b0.2 b1.1 b1.2 b4.1 b4.2 b5.1 b5.2 b6.1 b6.2 b7.1 b7.2 with ⟨hsn, hk⟩ | hk
  · rcases kn_of m0 m1 m2 m3 m4 m5 m6 m7 c2.1 c3.1 c0.1 c0.2 c1.1 c1.2 c4.1 c4.2 c5.1 c5.2 c6.1 c6.2 c7.1 c7.2 with ⟨hsm, hj⟩ | hj
    · exact ownYes n0 n1 n2 n3 n4 n5 n6 n7 m0 m1 m2 m3 m4 m5 m6 m7 w hT b2.1 b3.1 c2.1 c3.1 hsn hsm hk hj
    · exact ownNo n0 n1 n2 n3 n4 n5 n6 n7 m0 m1 m2 m3 m4 m5 m6 m7 0 61 _ _ _ _ 26 54 0 0 w hT hk hj (by omega) (by omega) (Or.inr ⟨rfl, rfl⟩)
  · rcases kn_of m0 m1 m2 m3 m4 m5 m6 m7 c2.1 c3.1 c0.1 c0.2 c1.1 c1.2 c4.1 c4.2 c5.1 c5.2 c6.1 c6.2 c7.1 c7.2 with ⟨hsm, hj⟩ | hj
    · exact ownNo n0 n1 n2 n3 n4 n5 n6 n7 m0 m1 m2 m3 m4 m5 m6 m7 61 0 _ _ _ _ 0 0 26 54 w hT hk hj (by omega) (by omega) (Or.inl rfl)
    · exact ownNo n0 n1 n2 n3 n4 n5 n6 n7 m0 m1 m2 m3 m4 m5 m6 m7 61 61 _ _ _ _ 0 0 0 0 w hT hk hj (by omega) (by omega) (Or.inl rfl)
end Go.Proofs.YtgdmagmbkmgdfabDoor
