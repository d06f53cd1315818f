/-
  SEAT YtgdmagmbkmgdfabDoor: TagsOwn: the walks.
-/
import Derived.Test.YtgdmagmbkmgdfabDoorTs
namespace Go.Proofs.YtgdmagmbkmgdfabDoor
open Go.RowKit
set_option linter.unusedVariables false

set_option maxHeartbeats 2000000 in
set_option maxRecDepth 100000 in
theorem ownNo (n0 n1 n2 n3 n4 n5 n6 n7 m0 m1 m2 m3 m4 m5 m6 m7 C D : Int) (Q L Q2 L2 : List Int) (N M N2 M2 : Nat) (w : World) (hT : Tab w) (hk : Kn n0 n1 n2 n3 n4 n5 n6 n7 Q L N M C) (hj : Kn m0 m1 m2 m3 m4 m5 m6 m7 Q2 L2 N2 M2 D) (hN : N ≤ 26) (hM : M ≤ 54) (hc : (C = 61) ∨ (C = 0 ∧ D = 61)) :
    Calls Tryd.prog 4 #[T8 n0 n1 n2 n3 n4 n5 n6 n7, T8 m0 m1 m2 m3 m4 m5 m6 m7] w fun e w' => e = .returned (.bool true) ∧ Below w.heap.size w w' := by
  have HT : Hid (Tab w) := hT
  have HK : Hid (Kn n0 n1 n2 n3 n4 n5 n6 n7 Q L N M C) := hk
  have HJ : Hid (Kn m0 m1 m2 m3 m4 m5 m6 m7 Q2 L2 N2 M2 D) := hj
  have g0 : Hid True := trivial
  have d1 : decide (Q = Q) = true := decide_eq_true rfl
  have d2 : decide (L = L) = true := decide_eq_true rfl
  clear hT hk hj
  rcases hc with rfl | ⟨rfl, rfl⟩
  all_goals
    go_enter Tryd.func4, Tryd.ntmps4
    go_wp2_with (first
      | (go_at_call 5; have h9 := g0; clear h9; refine (heads_any _ ?_).mono ?_; exact HT.out.below (((Below.refl w.heap.size w).alloc (Nat.le_refl _) _).alloc (by simp) _); rintro e u1 ⟨rfl, b1⟩; have t1 := Ts.start n0 n1 n2 n3 n4 n5 n6 n7 m0 m1 m2 m3 m4 m5 m6 m7 HT.out b1; obtain ⟨⟨x0, x1, x2, x3, x4, x5, x6, x7⟩, _⟩ := t8_cells (t1.box (T := w.heap.size) (n0 := n0) (n1 := n1) (n2 := n2) (n3 := n3) (n4 := n4) (n5 := n5) (n6 := n6) (n7 := n7) (by simp)); clear g0 b1)
      | (go_at_call 9; have h9 := t1; clear h9; refine (HK.out.c9 _ ?_).mono ?_; (with_reducible exact t1.tab); rintro e u2 ⟨aA, cA, rfl, o2, b2⟩; have t2 := t1.add b2 HK.out.nQ o2; clear x0 x1 x2 x3 x4 x5 x6 x7; obtain ⟨⟨x0, x1, x2, x3, x4, x5, x6, x7⟩, _⟩ := t8_cells (t2.box (T := (w.heap.size + 1)) (n0 := m0) (n1 := m1) (n2 := m2) (n3 := m3) (n4 := m4) (n5 := m5) (n6 := m6) (n7 := m7) (by simp)); clear t1 o2 b2)
      | (go_at_call 9; have h9 := t2; clear h9; refine (HJ.out.c9 _ ?_).mono ?_; (with_reducible exact t2.tab); rintro e u3 ⟨aB, cB, rfl, o3, b3⟩; have t3 := t2.add b3 HJ.out.nQ o3; clear x0 x1 x2 x3 x4 x5 x6 x7; obtain ⟨⟨x0, x1, x2, x3, x4, x5, x6, x7⟩, _⟩ := t8_cells (t3.box (T := w.heap.size) (n0 := n0) (n1 := n1) (n2 := n2) (n3 := n3) (n4 := n4) (n5 := n5) (n6 := n6) (n7 := n7) (by simp)); clear t2 o3 b3)
      | (go_at_call 9; have h9 := t3; clear h9; refine (HK.out.c9 _ ?_).mono ?_; (with_reducible exact t3.tab); rintro e u4 ⟨aC, cC, rfl, o4, b4⟩; have t4 := t3.add b4 HK.out.nQ o4; clear x0 x1 x2 x3 x4 x5 x6 x7; obtain ⟨⟨x0, x1, x2, x3, x4, x5, x6, x7⟩, _⟩ := t8_cells (t4.box (T := w.heap.size) (n0 := n0) (n1 := n1) (n2 := n2) (n3 := n3) (n4 := n4) (n5 := n5) (n6 := n6) (n7 := n7) (by simp)); clear t3 o4 b4)
      | (go_at_call 6; have h9 := t4; clear h9; refine (HK.out.c6 _ ?_).mono ?_; (with_reducible exact t4.tab); rintro e u5 ⟨aL, cL, rfl, o5, b5⟩; have t5 := t4.add b5 HK.out.nL o5; clear x0 x1 x2 x3 x4 x5 x6 x7; obtain ⟨⟨x0, x1, x2, x3, x4, x5, x6, x7⟩, _⟩ := t8_cells (t5.box (T := (w.heap.size + 1)) (n0 := m0) (n1 := m1) (n2 := m2) (n3 := m3) (n4 := m4) (n5 := m5) (n6 := m6) (n7 := m7) (by simp)); clear t4 o5 b5)
      | (go_at_call 6; have h9 := t5; clear h9; refine (HJ.out.c6 _ ?_).mono ?_; (with_reducible exact t5.tab); rintro e u6 ⟨aM, cM, rfl, o6, b6⟩; have t6 := t5.add b6 HJ.out.nL o6; clear x0 x1 x2 x3 x4 x5 x6 x7; obtain ⟨⟨x0, x1, x2, x3, x4, x5, x6, x7⟩, _⟩ := t8_cells (t6.box (T := w.heap.size) (n0 := n0) (n1 := n1) (n2 := n2) (n3 := n3) (n4 := n4) (n5 := n5) (n6 := n6) (n7 := n7) (by simp)); clear t5 o6 b6)
      | (go_at_call 6; have h9 := t6; clear h9; refine (HK.out.c6 _ ?_).mono ?_; (with_reducible exact t6.tab); rintro e u7 ⟨aN, cN, rfl, o7, b7⟩; have t7 := t6.add b7 HK.out.nL o7; clear x0 x1 x2 x3 x4 x5 x6 x7; have ra := t7.row (a := aA) (c := cA) (xs := Q) (by simp) HK.out.nQ HK.out.rQ; have rc := t7.row (a := aC) (c := cC) (xs := Q) (by simp) HK.out.nQ HK.out.rQ; have rl := t7.row (a := aL) (c := cL) (xs := L) (by simp) HK.out.nL HK.out.rL; have rn := t7.row (a := aN) (c := cN) (xs := L) (by simp) HK.out.nL HK.out.rL; clear t6 o7 b7)
      | (go_at_call 7; refine (no_any _ _).mono ?_; rintro e u ⟨rfl, rfl⟩)
      | (go_at_call 10; have h9 := ra; clear h9; refine (same_any _ _ _ _ _ Q Q _ ?_ ?_ ?_).mono ?_; omega; (with_reducible exact ra); (with_reducible exact rc); rintro e u8 ⟨rfl, k8, h8⟩; have t8 := t7.drewN k8; have rl8 := rl.drewN k8; have rn8 := rn.drewN k8; rw [← h8] at t8 rl8 rn8; clear h8 t7 ra rc rl rn)
      | (go_at_call 10; have h9 := rl8; clear h9; refine (same_any _ _ _ _ _ L L _ ?_ ?_ ?_).mono ?_; omega; (with_reducible exact rl8); (with_reducible exact rn8); rintro e u9 ⟨rfl, k9, h9⟩; have t9 := t8.drewN k9; rw [← h9] at t9; clear h9 t8 rl8 rn8))
    go_ret
    exact ⟨rfl, t9.bel⟩

end Go.Proofs.YtgdmagmbkmgdfabDoor
