/-
  SEAT YtgdmagmbkmgdfaaDoor: TagsPacks: the walk.
-/
import Derived.Test.YtgdmagmbkmgdfaaDoorLv
import Derived.ProofKit
import Derived.OpenShut
namespace Go.Proofs.YtgdmagmbkmgdfaaDoor
open Go.RowKit Go.ChangeShapes Go.WideShapes Go.ChangeAt
set_option linter.unusedVariables false

/-- All that is known of the bytes. -/
structure Px (n0 n1 n2 n3 n4 n5 n6 n7 : Int) (P L : List Int) (N M : Nat) (C : Int) : Prop where
  nP : P.length = N
  nL : L.length = M
  rP : ∀ x ∈ P, 0 ≤ x ∧ x ≤ 255
  rL : ∀ x ∈ L, 0 ≤ x ∧ x ≤ 255
  c14 : ∀ w : World, Calls Tryd.prog 14 #[T8 n0 n1 n2 n3 n4 n5 n6 n7] w fun e w' => ∃ a c, e = .returned (.tuple #[.slice a N c, .int .i64 C]) ∧ w'.ownsRow w.heap.size 5 1 (.slice a N c) N (P.map (Value.int .u8)) ∧ Below w.heap.size w w'
  c15 : ∀ w : World, Calls Tryd.prog 15 #[T8 n0 n1 n2 n3 n4 n5 n6 n7] w fun e w' => ∃ a c, e = .returned (.tuple #[.slice a M c, .int .i64 C]) ∧ w'.ownsRow w.heap.size 5 1 (.slice a M c) M (L.map (Value.int .u8)) ∧ Below w.heap.size w w'
  c16 : ∀ w : World, Tab w → Calls Tryd.prog 16 #[T8 n0 n1 n2 n3 n4 n5 n6 n7] w fun e w' => ∃ a c, e = .returned (.tuple #[.slice a N c, .int .i64 C]) ∧ w'.ownsRow w.heap.size 5 1 (.slice a N c) N (P.map (Value.int .u8)) ∧ Below w.heap.size w w'
  c17 : ∀ w : World, Tab w → Calls Tryd.prog 17 #[T8 n0 n1 n2 n3 n4 n5 n6 n7] w fun e w' => ∃ a c, e = .returned (.tuple #[.slice a M c, .int .i64 C]) ∧ w'.ownsRow w.heap.size 5 1 (.slice a M c) M (L.map (Value.int .u8)) ∧ Below w.heap.size w w'

set_option maxHeartbeats 2000000 in
set_option maxRecDepth 100000 in
theorem packsW (n0 n1 n2 n3 n4 n5 n6 n7 : Int) (P L : List Int) (N M : Nat) (C : Int) (w : World) (hT : Tab w) (hx : Px n0 n1 n2 n3 n4 n5 n6 n7 P L N M C) (hN : N ≤ 26) (hM : M ≤ 54) :
    Calls Tryd.prog 4 #[T8 n0 n1 n2 n3 n4 n5 n6 n7] w fun e w' => e = .returned (.bool true) ∧ Below w.heap.size w w' := by
  obtain ⟨i0, hi, hz0, hz1, hz2⟩ := info_parts info5
  have HX : Hid (Px n0 n1 n2 n3 n4 n5 n6 n7 P L N M C) := hx
  have t0 := Pt.start (n0 := n0) (n1 := n1) (n2 := n2) (n3 := n3) (n4 := n4) (n5 := n5) (n6 := n6) (n7 := n7) hT
  have hdP : decide (P = P) = true := decide_eq_true rfl
  have hdL : decide (L = L) = true := decide_eq_true rfl
  clear hx hT
  go_enter Tryd.func4, Tryd.ntmps4
  go_wp2_with (first
    | (go_at_call 14; have h9 := t0; clear h9; refine (HX.out.c14 _).mono ?_; rintro e u1 ⟨ab, cb, rfl, o1, b1⟩; have t1 := t0.add b1 HX.out.nP o1; obtain ⟨x0, x1, x2, x3, x4, x5, x6, x7⟩ := t1.cells; clear t0 o1 b1)
    | (go_at_call 15; have h9 := t1; clear h9; refine (HX.out.c15 _).mono ?_; rintro e u2 ⟨al, cl, rfl, o2, b2⟩; have t2 := t1.add b2 HX.out.nL o2; clear x0 x1 x2 x3 x4 x5 x6 x7; obtain ⟨x0, x1, x2, x3, x4, x5, x6, x7⟩ := t2.cells; clear t1 o2 b2)
    | (go_at_call 16; have h9 := t2; clear h9; refine (HX.out.c16 _ ?_).mono ?_; (with_reducible exact t2.tab); rintro e u3 ⟨ax, cx, rfl, o3, b3⟩; have t3 := t2.add b3 HX.out.nP o3; clear x0 x1 x2 x3 x4 x5 x6 x7; obtain ⟨x0, x1, x2, x3, x4, x5, x6, x7⟩ := t3.cells; clear t2 o3 b3)
    | (go_at_call 17; have h9 := t3; clear h9; refine (HX.out.c17 _ ?_).mono ?_; (with_reducible exact t3.tab); rintro e u4 ⟨ay, cy, rfl, o4, b4⟩; have t4 := t3.add b4 HX.out.nL o4; clear x0 x1 x2 x3 x4 x5 x6 x7; obtain ⟨x0, x1, x2, x3, x4, x5, x6, x7⟩ := t4.cells; clear t3 o4 b4)
    | (go_at_call 16; have h9 := t4; clear h9; refine (HX.out.c16 _ ?_).mono ?_; (with_reducible exact t4.tab); rintro e u5 ⟨av, cv, rfl, o5, b5⟩; have t5 := t4.add b5 HX.out.nP o5; clear x0 x1 x2 x3 x4 x5 x6 x7; obtain ⟨x0, x1, x2, x3, x4, x5, x6, x7⟩ := t5.cells; clear t4 o5 b5)
    | (go_at_call 17; have h9 := t5; clear h9; refine (HX.out.c17 _ ?_).mono ?_; (with_reducible exact t5.tab); rintro e u6 ⟨aw, cw, rfl, o6, b6⟩; have t6 := t5.add b6 HX.out.nL o6; clear x0 x1 x2 x3 x4 x5 x6 x7; obtain ⟨x0, x1, x2, x3, x4, x5, x6, x7⟩ := t6.cells; clear t5 o6 b6; have rx := t6.row (a := ax) (c := cx) (xs := P) (by simp) HX.out.nP HX.out.rP; have rb := t6.row (a := ab) (c := cb) (xs := P) (by simp) HX.out.nP HX.out.rP; have ry := t6.row (a := ay) (c := cy) (xs := L) (by simp) HX.out.nL HX.out.rL; have rl := t6.row (a := al) (c := cl) (xs := L) (by simp) HX.out.nL HX.out.rL; clear x0 x1 x2 x3 x4 x5 x6 x7)
    | (go_at_call 11; refine (no_any _ _).mono ?_; rintro e u ⟨rfl, rfl⟩)
    | (go_at_call 18; have h9 := rx; clear h9; refine (same_any _ _ _ _ _ P P _ ?_ ?_ ?_).mono ?_; omega; (with_reducible exact rx); (with_reducible exact rb); rintro e u7 ⟨rfl, k7, h7⟩; have t7 := t6.drewN k7; have ry7 := ry.drewN k7; have rl7 := rl.drewN k7; rw [← h7] at t7 ry7 rl7; clear h7 t6 rx rb ry rl)
    | (go_at_call 18; have h9 := ry7; clear h9; refine (same_any _ _ _ _ _ L L _ ?_ ?_ ?_).mono ?_; omega; (with_reducible exact ry7); (with_reducible exact rl7); rintro e u8 ⟨rfl, k8, h8⟩; have t8 := t7.drewN k8; rw [← h8] at t8; clear h8 t7 ry7 rl7))
  have HT8 : Hid (Pt w u8 n0 n1 n2 n3 n4 n5 n6 n7 [(.slice aw M cw, L), (.slice av N cv, P), (.slice ay M cy, L), (.slice ax N cx, mk17 17 0 P), (.slice al M cl, L), (.slice ab N cb, P)]) := by
    have e : mk17 17 0 P = P := by simp [mk17]
    rw [e]
    exact t8
  clear t8
  go_loopw [15] (fun i wr => ∃ k : Nat, k ≤ N ∧ i = .int .i64 k ∧ Hid (Pt w wr n0 n1 n2 n3 n4 n5 n6 n7 [(.slice aw M cw, L), (.slice av N cv, P), (.slice ay M cy, L), (.slice ax N cx, mk17 17 k P), (.slice al M cl, L), (.slice ab N cb, P)]))
    (fun i _ => N - (intOf i).toNat)
  case atStart => exact ⟨0, Nat.zero_le _, rfl, HT8⟩
  case round =>
    obtain ⟨k, hk, rfl, HK⟩ := hrel
    clear HT8
    by_cases hlt : k < N
    · have hlm : (mk17 17 k P).length = N := by rw [mk17_length _ _ _ (by rw [HX.out.nP]; omega)]; exact HX.out.nP
      have hrow := HK.out.own (v := .slice ax N cx) (xs := mk17 17 k P) (by simp) hlm
      obtain ⟨g, cap, hsh, hcap, _, hBg, _⟩ := own_shape hrow (by omega)
      cases hsh
      have hcx := Own.cell (xs := mk17 17 k P) hrow k hlt
      have hfz := World.ownsRow.frozenAt hrow k
      have hset := Own.set (xs := mk17 17 k P) hrow k 17
      rw [mk17_step 17 P k (by rw [HX.out.nP]; exact hlt)] at hset
      have hlm2 : (mk17 17 (k + 1) P).length = N := by rw [mk17_length _ _ _ (by rw [HX.out.nP]; omega)]; exact HX.out.nP
      have HS : Hid (Pt w _ n0 n1 n2 n3 n4 n5 n6 n7 [(.slice aw M cw, L), (.slice av N cv, P), (.slice ay M cy, L), (.slice (some ⟨g, 0, none⟩) N cx, mk17 17 (k + 1) P), (.slice al M cl, L), (.slice ab N cb, P)]) := Pt.set [(.slice aw M cw, L), (.slice av N cv, P), (.slice ay M cy, L)] [(.slice al M cl, L), (.slice ab N cb, P)] HK.out hset.2 hlm2 hset.1
      have m1 : (k : Int) < (N : Int) := by omega
      have hd1 : decide ((k : Int) < (N : Int)) = true := decide_eq_true m1
      clear hset hlm hlm2 hrow HK
      go_wp2
      go_roundw
      case rel => exact ⟨k + 1, by omega, by go_num, HS⟩
      case measure => simp [intOf]; omega
    · have hkn : N = k := by omega
      subst hkn
      have HT9 : Hid (Pt w wr n0 n1 n2 n3 n4 n5 n6 n7 [(.slice aw M cw, L), (.slice av N cv, P), (.slice ay M cy, mk17 34 0 L), (.slice ax N cx, List.replicate N 17), (.slice al M cl, L), (.slice ab N cb, P)]) := by
        have e : mk17 34 0 L = L := by simp [mk17]
        have e2 := mk17_all 17 P N HX.out.nP
        have := HK.out
        rw [e2] at this
        rw [e]
        exact this
      clear HK
      go_wp2
      go_loopw [16] (fun i wq => ∃ k : Nat, k ≤ M ∧ i = .int .i64 k ∧ Hid (Pt w wq n0 n1 n2 n3 n4 n5 n6 n7 [(.slice aw M cw, L), (.slice av N cv, P), (.slice ay M cy, mk17 34 k L), (.slice ax N cx, List.replicate N 17), (.slice al M cl, L), (.slice ab N cb, P)]))
        (fun i _ => M - (intOf i).toNat)
      case atStart => exact ⟨0, Nat.zero_le _, rfl, HT9⟩
      case round =>
        obtain ⟨k, hk, rfl, HK⟩ := hrel
        clear HT9
        by_cases hlt : k < M
        · have hlm : (mk17 34 k L).length = M := by rw [mk17_length _ _ _ (by rw [HX.out.nL]; omega)]; exact HX.out.nL
          have hrow := HK.out.own (v := .slice ay M cy) (xs := mk17 34 k L) (by simp) hlm
          obtain ⟨g, cap, hsh, hcap, _, hBg, _⟩ := own_shape hrow (by omega)
          cases hsh
          have hcx := Own.cell (xs := mk17 34 k L) hrow k hlt
          have hfz := World.ownsRow.frozenAt hrow k
          have hset := Own.set (xs := mk17 34 k L) hrow k 34
          rw [mk17_step 34 L k (by rw [HX.out.nL]; exact hlt)] at hset
          have hlm2 : (mk17 34 (k + 1) L).length = M := by rw [mk17_length _ _ _ (by rw [HX.out.nL]; omega)]; exact HX.out.nL
          have HS : Hid (Pt w _ n0 n1 n2 n3 n4 n5 n6 n7 [(.slice aw M cw, L), (.slice av N cv, P), (.slice (some ⟨g, 0, none⟩) M cy, mk17 34 (k + 1) L), (.slice ax N cx, List.replicate N 17), (.slice al M cl, L), (.slice ab N cb, P)]) := Pt.set [(.slice aw M cw, L), (.slice av N cv, P)] [(.slice ax N cx, List.replicate N 17), (.slice al M cl, L), (.slice ab N cb, P)] HK.out hset.2 hlm2 hset.1
          have m1 : (k : Int) < (M : Int) := by omega
          have hd1 : decide ((k : Int) < (M : Int)) = true := decide_eq_true m1
          clear hset hlm hlm2 hrow HK
          go_wp2
          go_roundw
          case rel => exact ⟨k + 1, by omega, by go_num, HS⟩
          case measure => simp [intOf]; omega
        · have hkn : M = k := by omega
          subst hkn
          have tA := HK.out
          rw [mk17_all 34 L M HX.out.nL] at tA
          have oA := tA.own (n := N) (v := .slice ax N cx) (xs := List.replicate N 17) (by simp) (by simp)
          clear HK
          go_wp2_with (first
            | (at_builtin; have h9 := oA; clear h9; refine wpList_append_own_at _ rfl (.tmp 89) (.tmp 90) 22 rfl (w.heap.size + 1) 5 i0 (.int .u8 0) 1 1 Tryd.underlying22 hi hz0 hz1 hz2 rfl (by decide) _ N _ rfl (oA.alloc _) ⟨_, 0, none⟩ 1 1 [.int .u8 51] rfl rfl (news_one _ _) (by simp [Value.oneCell']) (by simp [maxLen]; omega) (by omega) (by have := tA.hB; simp; omega) ?_; intro vp wp ownp gp _ atp; obtain ⟨gq, cq, hvq, hcq, _, _, _⟩ := own_shape ownp (by omega); subst hvq; have tB := Pt.grow [(.slice aw M cw, L), (.slice av N cv, P), (.slice ay M cy, List.replicate M 34)] [(.slice al M cl, L), (.slice ab N cb, P)] (tA.below ((Below.refl _ _).alloc (Nat.le_refl _) (.cells #[.int .u8 51] 5))) gp atp (Nat.le_refl _) (ys := List.replicate N 17 ++ [51]) (n := N + 1) (by simp) (by rw [List.map_append]; exact ownp); simp only [List.cons_append, List.nil_append] at tB; have oB := tB.own (n := M) (v := .slice ay M cy) (xs := List.replicate M 34) (by simp) (by simp); clear oA tA ownp gp atp)
            | (at_builtin; have h9 := oB; clear h9; refine wpList_append_own_at _ rfl (.tmp 92) (.tmp 93) 22 rfl (w.heap.size + 1) 5 i0 (.int .u8 0) 1 1 Tryd.underlying22 hi hz0 hz1 hz2 rfl (by decide) _ M _ rfl (oB.alloc _) ⟨_, 0, none⟩ 1 1 [.int .u8 68] rfl rfl (news_one _ _) (by simp [Value.oneCell']) (by simp [maxLen]; omega) (by omega) (by have := tB.hB; simp; omega) ?_; intro vq wq ownq gq2 _ atq; obtain ⟨gr, cr, hvr, hcr, _, _, _⟩ := own_shape ownq (by omega); subst hvr; have tC := Pt.grow [(.slice aw M cw, L), (.slice av N cv, P)] [(.slice (some ⟨gq, 0, none⟩) (N + 1) cq, List.replicate N 17 ++ [51]), (.slice al M cl, L), (.slice ab N cb, P)] (tB.below ((Below.refl _ _).alloc (Nat.le_refl _) (.cells #[.int .u8 68] 5))) gq2 atq (Nat.le_refl _) (ys := List.replicate M 34 ++ [68]) (n := M + 1) (by simp) (by rw [List.map_append]; exact ownq); simp only [List.cons_append, List.nil_append] at tC; have cp := last_of (tC.own (n := N + 1) (v := .slice (some ⟨gq, 0, none⟩) (N + 1) cq) (xs := List.replicate N 17 ++ [51]) (by simp) (by simp)); have cy := last_of (tC.own (n := M + 1) (v := .slice (some ⟨gr, 0, none⟩) (M + 1) cr) (xs := List.replicate M 34 ++ [68]) (by simp) (by simp)); have rv := tC.row (a := av) (c := cv) (xs := P) (by simp) HX.out.nP HX.out.rP; have rb := tC.row (a := ab) (c := cb) (xs := P) (by simp) HX.out.nP HX.out.rP; have rw' := (tC.row (a := aw) (c := cw) (xs := L) (by simp) HX.out.nL HX.out.rL); have rl := (tC.row (a := al) (c := cl) (xs := L) (by simp) HX.out.nL HX.out.rL); have bC := tC.bel; clear oB tB ownq gq2 atq tC)
            | (go_at_call 18; have h9 := rv; clear h9; refine (same_any _ _ _ _ _ P P _ ?_ ?_ ?_).mono ?_; omega; (with_reducible exact rv); (with_reducible exact rb); rintro e u ⟨rfl, kD, rfl⟩; clear rv rb)
            | (go_at_call 18; refine (same_any _ _ _ _ _ L L _ ?_ ?_ ?_).mono ?_; omega; (with_reducible exact rw'.drewN _); (with_reducible exact rl.drewN _); rintro e u ⟨rfl, kE, rfl⟩))
          go_ret
          exact ⟨rfl, below_drewN bC _⟩
end Go.Proofs.YtgdmagmbkmgdfaaDoor
namespace Go.Proofs.YtgdmagmbkmgdfaaDoor
open Go.RowKit Go.ChangeShapes Go.WideShapes Go.ChangeAt
theorem packsWalk (n0 n1 n2 n3 n4 n5 n6 n7 : Int) (w : World) (w0 : (Lit.int .i64 n0).wf = true) (w1 : (Lit.int .i64 n1).wf = true) (w2 : (Lit.int .u64 n2).wf = true) (w3 : (Lit.int .u64 n3).wf = true) (w4 : (Lit.int .i64 n4).wf = true) (w5 : (Lit.int .i64 n5).wf = true) (w6 : (Lit.int .i64 n6).wf = true) (w7 : (Lit.int .i64 n7).wf = true) (hT : Tab w) :
    Calls Tryd.prog 4 #[T8 n0 n1 n2 n3 n4 n5 n6 n7] w fun e w' => e = .returned (.bool true) ∧ Below w.heap.size w w' := by
  have b0 := bounds_i64 w0
  have b1 := bounds_i64 w1
  have b2 := bounds_u64 w2
  have b3 := bounds_u64 w3
  have b4 := bounds_i64 w4
  have b5 := bounds_i64 w5
  have b6 := bounds_i64 w6
  have b7 := bounds_i64 w7
  obtain ⟨N, M, C, P, L, hN, hM, nP, nL, rP, rL, _, c14, c15, c16, c17⟩ := packs_all n0 n1 n2 n3 n4 n5 n6 n7 b2.1 b3.1 b0.1 b0.2 b1.1 b1.2 b4.1 b4.2 b5.1 b5.2 b6.1 b6.2 b7.1 b7.2
  exact packsW n0 n1 n2 n3 n4 n5 n6 n7 P L N M C w hT ⟨nP, nL, rP, rL, c14, c15, c16, c17⟩ hN hM
end Go.Proofs.YtgdmagmbkmgdfaaDoor
