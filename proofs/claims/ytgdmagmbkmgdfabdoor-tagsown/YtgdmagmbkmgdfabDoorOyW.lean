/-
  SEAT YtgdmagmbkmgdfabDoor: TagsOwn: the walks.
-/
import Derived.Test.YtgdmagmbkmgdfabDoorTs
namespace Go.Proofs.YtgdmagmbkmgdfabDoor
open Go.RowKit
set_option linter.unusedVariables false

theorem addr_of {w : World} {a : Option Addr} {l : Nat} {zs : List Int} (h : Reads w a l zs) (hl : 0 < l) : ∃ x, a = some x := by
  cases a with
  | none => have := h.2.2.1 rfl; omega
  | some x => exact ⟨x, rfl⟩

set_option maxHeartbeats 4000000 in
set_option maxRecDepth 100000 in
theorem ownYes (n0 n1 n2 n3 n4 n5 n6 n7 m0 m1 m2 m3 m4 m5 m6 m7 : Int) (w : World) (hT : Tab w) (h2 : 0 ≤ n2) (h3 : 0 ≤ n3) (h2' : 0 ≤ m2) (h3' : 0 ≤ m3) (hsn : Small n0 n1 n2 n3 n4 n5 n6 n7) (hsm : Small m0 m1 m2 m3 m4 m5 m6 m7) (hk : Kn n0 n1 n2 n3 n4 n5 n6 n7 (tagL n0 n1 n2 n3 n4 n5 n6 n7) (railL (tagL n0 n1 n2 n3 n4 n5 n6 n7)) 26 54 0) (hj : Kn m0 m1 m2 m3 m4 m5 m6 m7 (tagL m0 m1 m2 m3 m4 m5 m6 m7) (railL (tagL m0 m1 m2 m3 m4 m5 m6 m7)) 26 54 0) :
    Calls Tryd.prog 4 #[T8 n0 n1 n2 n3 n4 n5 n6 n7, T8 m0 m1 m2 m3 m4 m5 m6 m7] w fun e w' => e = .returned (.bool true) ∧ Below w.heap.size w w' := by
  obtain ⟨Q, hQ⟩ : ∃ Q, (tagL n0 n1 n2 n3 n4 n5 n6 n7) = Q := ⟨_, rfl⟩
  obtain ⟨L, hL⟩ : ∃ L, (railL (tagL n0 n1 n2 n3 n4 n5 n6 n7)) = L := ⟨_, rfl⟩
  obtain ⟨Q2, hQ2⟩ : ∃ Q, (tagL m0 m1 m2 m3 m4 m5 m6 m7) = Q := ⟨_, rfl⟩
  obtain ⟨L2, hL2⟩ : ∃ L, (railL (tagL m0 m1 m2 m3 m4 m5 m6 m7)) = L := ⟨_, rfl⟩
  have HRA : Hid (∀ (u : World) (a : Option Addr) (c : Nat), Tab u → Reads u a 26 Q → Calls Tryd.prog 11 #[.slice a 26 c] u fun e w' => e = .returned (.tuple #[T8 n0 n1 n2 n3 n4 n5 n6 n7, .int .i64 0]) ∧ Below u.heap.size u w') := fun u a c hT h => read_tags a c n0 n1 n2 n3 n4 n5 n6 n7 u hT h2 h3 hsn (by rw [hQ]; exact h)
  have HRB : Hid (∀ (u : World) (a : Option Addr) (c : Nat), Tab u → Reads u a 26 Q2 → Calls Tryd.prog 11 #[.slice a 26 c] u fun e w' => e = .returned (.tuple #[T8 m0 m1 m2 m3 m4 m5 m6 m7, .int .i64 0]) ∧ Below u.heap.size u w') := fun u a c hT h => read_tags a c m0 m1 m2 m3 m4 m5 m6 m7 u hT h2' h3' hsm (by rw [hQ2]; exact h)
  have HLA : Hid (∀ (u : World) (a : Option Addr) (c : Nat), Tab u → Reads u a 54 L → Calls Tryd.prog 12 #[.slice a 54 c] u fun e w' => e = .returned (.tuple #[T8 n0 n1 n2 n3 n4 n5 n6 n7, .int .i64 (-1), .int .i64 0]) ∧ Below u.heap.size u w') := fun u a c hT h => lift_tags a c n0 n1 n2 n3 n4 n5 n6 n7 u hT h2 h3 hsn (by rw [hL]; exact h)
  have HLB : Hid (∀ (u : World) (a : Option Addr) (c : Nat), Tab u → Reads u a 54 L2 → Calls Tryd.prog 12 #[.slice a 54 c] u fun e w' => e = .returned (.tuple #[T8 m0 m1 m2 m3 m4 m5 m6 m7, .int .i64 (-1), .int .i64 0]) ∧ Below u.heap.size u w') := fun u a c hT h => lift_tags a c m0 m1 m2 m3 m4 m5 m6 m7 u hT h2' h3' hsm (by rw [hL2]; exact h)
  rw [hL, hQ] at hk
  rw [hL2, hQ2] at hj
  have HT : Hid (Tab w) := hT
  have HK : Hid (Kn n0 n1 n2 n3 n4 n5 n6 n7 Q L 26 54 0) := hk
  have HJ : Hid (Kn m0 m1 m2 m3 m4 m5 m6 m7 Q2 L2 26 54 0) := hj
  have g0 : Hid True := trivial
  have d1 : decide (Q = Q) = true := decide_eq_true rfl
  have d2 : decide (L = L) = true := decide_eq_true rfl
  clear hT hk hj hQ hL hQ2 hL2 hsn hsm
  go_enter Tryd.func4, Tryd.ntmps4
  go_wp2_with (first
    | (go_at_call 5; have h9 := g0; clear h9; refine (heads_any _ ?_).mono ?_; exact HT.out.below (((Below.refl w.heap.size w).alloc (Nat.le_refl _) _).alloc (by simp) _); rintro e u1 ⟨rfl, b1⟩; have t1 := Ts.start n0 n1 n2 n3 n4 n5 n6 n7 m0 m1 m2 m3 m4 m5 m6 m7 HT.out b1; obtain ⟨⟨x0, x1, x2, x3, x4, x5, x6, x7⟩, _⟩ := t8_cells (t1.box (T := w.heap.size) (n0 := n0) (n1 := n1) (n2 := n2) (n3 := n3) (n4 := n4) (n5 := n5) (n6 := n6) (n7 := n7) (by simp)); clear g0 b1)
    | (go_at_call 9; have h9 := t1; clear h9; refine (HK.out.c9 _ ?_).mono ?_; (with_reducible exact t1.tab); rintro e u2 ⟨aA, cA, rfl, o2, b2⟩; have t2 := t1.add b2 HK.out.nQ o2; clear x0 x1 x2 x3 x4 x5 x6 x7; obtain ⟨⟨x0, x1, x2, x3, x4, x5, x6, x7⟩, _⟩ := t8_cells (t2.box (T := (w.heap.size + 1)) (n0 := m0) (n1 := m1) (n2 := m2) (n3 := m3) (n4 := m4) (n5 := m5) (n6 := m6) (n7 := m7) (by simp)); clear t1 o2 b2)
    | (go_at_call 9; have h9 := t2; clear h9; refine (HJ.out.c9 _ ?_).mono ?_; (with_reducible exact t2.tab); rintro e u3 ⟨aB, cB, rfl, o3, b3⟩; have t3 := t2.add b3 HJ.out.nQ o3; clear x0 x1 x2 x3 x4 x5 x6 x7; obtain ⟨⟨x0, x1, x2, x3, x4, x5, x6, x7⟩, _⟩ := t8_cells (t3.box (T := w.heap.size) (n0 := n0) (n1 := n1) (n2 := n2) (n3 := n3) (n4 := n4) (n5 := n5) (n6 := n6) (n7 := n7) (by simp)); clear t2 o3 b3)
    | (go_at_call 9; have h9 := t3; clear h9; refine (HK.out.c9 _ ?_).mono ?_; (with_reducible exact t3.tab); rintro e u4 ⟨aC, cC, rfl, o4, b4⟩; have t4 := t3.add b4 HK.out.nQ o4; clear x0 x1 x2 x3 x4 x5 x6 x7; obtain ⟨⟨x0, x1, x2, x3, x4, x5, x6, x7⟩, _⟩ := t8_cells (t4.box (T := w.heap.size) (n0 := n0) (n1 := n1) (n2 := n2) (n3 := n3) (n4 := n4) (n5 := n5) (n6 := n6) (n7 := n7) (by simp)); clear t3 o4 b4)
    | (go_at_call 6; have h9 := t4; clear h9; refine (HK.out.c6 _ ?_).mono ?_; (with_reducible exact t4.tab); rintro e u5 ⟨aL, cL, rfl, o5, b5⟩; have t5 := t4.add b5 HK.out.nL o5; clear x0 x1 x2 x3 x4 x5 x6 x7; obtain ⟨⟨x0, x1, x2, x3, x4, x5, x6, x7⟩, _⟩ := t8_cells (t5.box (T := (w.heap.size + 1)) (n0 := m0) (n1 := m1) (n2 := m2) (n3 := m3) (n4 := m4) (n5 := m5) (n6 := m6) (n7 := m7) (by simp)); clear t4 o5 b5)
    | (go_at_call 6; have h9 := t5; clear h9; refine (HJ.out.c6 _ ?_).mono ?_; (with_reducible exact t5.tab); rintro e u6 ⟨aM, cM, rfl, o6, b6⟩; have t6 := t5.add b6 HJ.out.nL o6; clear x0 x1 x2 x3 x4 x5 x6 x7; obtain ⟨⟨x0, x1, x2, x3, x4, x5, x6, x7⟩, _⟩ := t8_cells (t6.box (T := w.heap.size) (n0 := n0) (n1 := n1) (n2 := n2) (n3 := n3) (n4 := n4) (n5 := n5) (n6 := n6) (n7 := n7) (by simp)); clear t5 o6 b6)
    | (go_at_call 6; have h9 := t6; clear h9; refine (HK.out.c6 _ ?_).mono ?_; (with_reducible exact t6.tab); rintro e u7 ⟨aN, cN, rfl, o7, b7⟩; have t7 := t6.add b7 HK.out.nL o7; clear x0 x1 x2 x3 x4 x5 x6 x7; have ra := t7.row (a := aA) (c := cA) (xs := Q) (by simp) HK.out.nQ HK.out.rQ; have rc := t7.row (a := aC) (c := cC) (xs := Q) (by simp) HK.out.nQ HK.out.rQ; have rl := t7.row (a := aL) (c := cL) (xs := L) (by simp) HK.out.nL HK.out.rL; have rn := t7.row (a := aN) (c := cN) (xs := L) (by simp) HK.out.nL HK.out.rL; clear t6 o7 b7)
    | (go_at_call 7; refine (no_any _ _).mono ?_; rintro e u ⟨rfl, rfl⟩)
    | (go_at_call 10; have h9 := ra; clear h9; refine (same_any _ _ _ _ _ Q Q _ ?_ ?_ ?_).mono ?_; omega; (with_reducible exact ra); (with_reducible exact rc); rintro e u8 ⟨rfl, k8, h8⟩; have t8 := t7.drewN k8; have rl8 := rl.drewN k8; have rn8 := rn.drewN k8; rw [← h8] at t8 rl8 rn8; clear h8 t7 ra rc rl rn)
    | (go_at_call 10; have h9 := rl8; clear h9; refine (same_any _ _ _ _ _ L L _ ?_ ?_ ?_).mono ?_; omega; (with_reducible exact rl8); (with_reducible exact rn8); rintro e u9 ⟨rfl, k9, h9⟩; have t9 := t8.drewN k9; rw [← h9] at t9; have qa := (t9.row (a := aA) (c := cA) (xs := Q) (by simp) HK.out.nQ HK.out.rQ).below ((Below.refl u9.heap.size u9).alloc (Nat.le_refl _) (.cells #[] 5)); clear h9 t8 rl8 rn8)
    | (at_builtin; have h9 := qa; clear h9; refine wpList_append_reads rfl (.tmp 104) (.tmp 105) rfl u9.heap.size _ _ [] rfl (made0 u9) _ _ _ Q rfl qa (by omega) (by simp) ?_; intro vA wA hownA hgrowA; simp only [Nat.zero_add, List.nil_append] at hownA; obtain ⟨gr, cr, hvA⟩ := lits_row hownA (by omega); subst hvA; have bA : Below u9.heap.size u9 wA := (((Below.refl _ _).alloc (Nat.le_refl _) _).grown hgrowA (by simp) (fun k hk => ((made0 u9).lt k hk).1)); have tA := t9.add bA HK.out.nQ hownA; have ql := (tA.row (a := aL) (c := cL) (xs := L) (by simp) HK.out.nL HK.out.rL).below ((Below.refl wA.heap.size wA).alloc (Nat.le_refl _) (.cells #[] 5)); clear qa hownA hgrowA bA t9)
    | (at_builtin; have h9 := ql; clear h9; refine wpList_append_reads rfl (.tmp 107) (.tmp 108) rfl wA.heap.size _ _ [] rfl (made0 wA) _ _ _ L rfl ql (by omega) (by simp) ?_; intro vB wB hownB hgrowB; simp only [Nat.zero_add, List.nil_append] at hownB; obtain ⟨gs, cs, hvB⟩ := lits_row hownB (by omega); subst hvB; have bB : Below wA.heap.size wA wB := (((Below.refl _ _).alloc (Nat.le_refl _) _).grown hgrowB (by simp) (fun k hk => ((made0 wA).lt k hk).1)); have tB := tA.add bB HK.out.nL hownB; have rr := tB.row (a := some ⟨gr, 0, none⟩) (c := cr) (xs := Q) (by simp) HK.out.nQ HK.out.rQ; clear ql hownB hgrowB bB tA)
    | (go_at_call 11; have h9 := rr; clear h9; refine Calls.mono (HRA.out _ _ _ ?_ ?_) ?_; (with_reducible exact tB.tab); (with_reducible exact rr); rintro e uC ⟨rfl, bC⟩; have tC := tB.put bC n0 n1 n2 n3 n4 n5 n6 n7; have rs := tC.row (a := some ⟨gs, 0, none⟩) (c := cs) (xs := L) (by simp) HK.out.nL HK.out.rL; clear rr tB bC)
    | (go_at_call 12; have h9 := rs; clear h9; refine Calls.mono (HLA.out _ _ _ ?_ ?_) ?_; (with_reducible exact tC.tab); (with_reducible exact rs); rintro e uD ⟨rfl, bD⟩; have tD := tC.put bD n0 n1 n2 n3 n4 n5 n6 n7; have rB := tD.row (a := aB) (c := cB) (xs := Q2) (by simp) HJ.out.nQ HJ.out.rQ; have oR := tD.own (v := .slice (some ⟨gr, 0, none⟩) 26 cr) (xs := Q) (by simp) HK.out.nQ; obtain ⟨gB, hgB⟩ := addr_of rB (by omega); subst hgB; obtain ⟨wE, hrunE, oE, gE⟩ := run_copy_all 3 (w.heap.size + 2) gr 26 cr cB Q Q2 gB oR rB; have tE := Ts.set [(.slice (some ⟨gs, 0, none⟩) 54 cs, L)] [(.slice aN 54 cN, L), (.slice aM 54 cM, L2), (.slice aL 54 cL, L), (.slice aC 26 cC, Q), (.slice (some gB) 26 cB, Q2), (.slice aA 26 cA, Q)] tD gE HJ.out.nQ oE; simp only [List.cons_append, List.nil_append] at tE; have rM := tE.row (a := aM) (c := cM) (xs := L2) (by simp) HJ.out.nL HJ.out.rL; have oS := tE.own (v := .slice (some ⟨gs, 0, none⟩) 54 cs) (xs := L) (by simp) HK.out.nL; obtain ⟨gM, hgM⟩ := addr_of rM (by omega); subst hgM; obtain ⟨wF, hrunF, oF, gF⟩ := run_copy_all 3 (w.heap.size + 2) gs 54 cs cM L L2 gM oS rM; have tF := Ts.set [] ((.slice (some ⟨gr, 0, none⟩) 26 cr, Q2) :: [(.slice aN 54 cN, L), (.slice (some gM) 54 cM, L2), (.slice aL 54 cL, L), (.slice aC 26 cC, Q), (.slice (some gB) 26 cB, Q2), (.slice aA 26 cA, Q)]) tE gF HJ.out.nL oF; simp only [List.nil_append] at tF; have rr2 := tF.row (a := some ⟨gr, 0, none⟩) (c := cr) (xs := Q2) (by simp) HJ.out.nQ HJ.out.rQ; clear rs tC bD rB oR oE gE tE tD rM oS oF gF)
    | (go_at_call 11; have h9 := rr2; clear h9; refine Calls.mono (HRB.out _ _ _ ?_ ?_) ?_; (with_reducible exact tF.tab); (with_reducible exact rr2); rintro e uG ⟨rfl, bG⟩; have tG := tF.put bG m0 m1 m2 m3 m4 m5 m6 m7; have rs2 := tG.row (a := some ⟨gs, 0, none⟩) (c := cs) (xs := L2) (by simp) HJ.out.nL HJ.out.rL; clear rr2 tF bG hrunE hrunF)
    | (go_at_call 12; have h9 := rs2; clear h9; refine Calls.mono (HLB.out _ _ _ ?_ ?_) ?_; (with_reducible exact tG.tab); (with_reducible exact rs2); rintro e uH ⟨rfl, bH⟩; have tH := tG.put bH m0 m1 m2 m3 m4 m5 m6 m7; clear rs2 tG bH))
  have HTH : Hid (Ts w (uH.alloc (.cells #[.int .i64 m0, .int .i64 m1, .int .u64 m2, .int .u64 m3, .int .i64 m4, .int .i64 m5, .int .i64 m6, .int .i64 m7] 24)) [(uH.heap.size, ⟨m0, m1, m2, m3, m4, m5, m6, m7⟩), (uG.heap.size, ⟨m0, m1, m2, m3, m4, m5, m6, m7⟩), (uD.heap.size, ⟨n0, n1, n2, n3, n4, n5, n6, n7⟩), (uC.heap.size, ⟨n0, n1, n2, n3, n4, n5, n6, n7⟩), (w.heap.size + 1, ⟨m0, m1, m2, m3, m4, m5, m6, m7⟩), (w.heap.size, ⟨n0, n1, n2, n3, n4, n5, n6, n7⟩)] [(.slice (some ⟨gs, 0, none⟩) 54 cs, L2), (.slice (some ⟨gr, 0, none⟩) 26 cr, mk17 0 0 Q2), (.slice aN 54 cN, L), (.slice (some gM) 54 cM, L2), (.slice aL 54 cL, L), (.slice aC 26 cC, Q), (.slice (some gB) 26 cB, Q2), (.slice aA 26 cA, Q)]) := by
    have e : mk17 0 0 Q2 = Q2 := by simp [mk17]
    rw [e]
    exact tH
  clear tH
  go_loopw [25] (fun i wr => ∃ k : Nat, k ≤ 26 ∧ i = .int .i64 k ∧ Hid (Ts w wr [(uH.heap.size, ⟨m0, m1, m2, m3, m4, m5, m6, m7⟩), (uG.heap.size, ⟨m0, m1, m2, m3, m4, m5, m6, m7⟩), (uD.heap.size, ⟨n0, n1, n2, n3, n4, n5, n6, n7⟩), (uC.heap.size, ⟨n0, n1, n2, n3, n4, n5, n6, n7⟩), (w.heap.size + 1, ⟨m0, m1, m2, m3, m4, m5, m6, m7⟩), (w.heap.size, ⟨n0, n1, n2, n3, n4, n5, n6, n7⟩)] [(.slice (some ⟨gs, 0, none⟩) 54 cs, L2), (.slice (some ⟨gr, 0, none⟩) 26 cr, mk17 0 k Q2), (.slice aN 54 cN, L), (.slice (some gM) 54 cM, L2), (.slice aL 54 cL, L), (.slice aC 26 cC, Q), (.slice (some gB) 26 cB, Q2), (.slice aA 26 cA, Q)]))
    (fun i _ => 26 - (intOf i).toNat)
  case atStart => exact ⟨0, Nat.zero_le _, rfl, HTH⟩
  case round =>
    obtain ⟨k, hk, rfl, HK2⟩ := hrel
    clear HTH
    by_cases hlt : k < 26
    · have hlm : (mk17 0 k Q2).length = 26 := by rw [mk17_length _ _ _ (by rw [HJ.out.nQ]; omega)]; exact HJ.out.nQ
      have hrow := HK2.out.own (v := .slice (some ⟨gr, 0, none⟩) 26 cr) (xs := mk17 0 k Q2) (by simp) hlm
      have hcx := Own.cell (xs := mk17 0 k Q2) hrow k hlt
      have hfz := World.ownsRow.frozenAt hrow k
      have hset := Own.set (xs := mk17 0 k Q2) hrow k 0
      rw [mk17_step 0 Q2 k (by rw [HJ.out.nQ]; exact hlt)] at hset
      have hlm2 : (mk17 0 (k + 1) Q2).length = 26 := by rw [mk17_length _ _ _ (by rw [HJ.out.nQ]; omega)]; exact HJ.out.nQ
      have HS : Hid (Ts w _ [(uH.heap.size, ⟨m0, m1, m2, m3, m4, m5, m6, m7⟩), (uG.heap.size, ⟨m0, m1, m2, m3, m4, m5, m6, m7⟩), (uD.heap.size, ⟨n0, n1, n2, n3, n4, n5, n6, n7⟩), (uC.heap.size, ⟨n0, n1, n2, n3, n4, n5, n6, n7⟩), (w.heap.size + 1, ⟨m0, m1, m2, m3, m4, m5, m6, m7⟩), (w.heap.size, ⟨n0, n1, n2, n3, n4, n5, n6, n7⟩)] [(.slice (some ⟨gs, 0, none⟩) 54 cs, L2), (.slice (some ⟨gr, 0, none⟩) 26 cr, mk17 0 (k + 1) Q2), (.slice aN 54 cN, L), (.slice (some gM) 54 cM, L2), (.slice aL 54 cL, L), (.slice aC 26 cC, Q), (.slice (some gB) 26 cB, Q2), (.slice aA 26 cA, Q)]) := Ts.set [(.slice (some ⟨gs, 0, none⟩) 54 cs, L2)] [(.slice aN 54 cN, L), (.slice (some gM) 54 cM, L2), (.slice aL 54 cL, L), (.slice aC 26 cC, Q), (.slice (some gB) 26 cB, Q2), (.slice aA 26 cA, Q)] HK2.out hset.2 hlm2 hset.1
      have m1 : (k : Int) < 26 := by omega
      have hd1 : decide ((k : Int) < 26) = true := decide_eq_true m1
      clear hset hlm hlm2 hrow HK2
      go_wp2
      go_roundw
      case rel => exact ⟨k + 1, by omega, by go_num, HS⟩
      case measure => simp [intOf]; omega
    · have hk2 : k = 26 := by omega
      subst hk2
      have tJ := HK2.out
      obtain ⟨⟨x0, x1, x2, x3, x4, x5, x6, x7⟩, _⟩ := t8_cells (tJ.box (T := uC.heap.size) (n0 := n0) (n1 := n1) (n2 := n2) (n3 := n3) (n4 := n4) (n5 := n5) (n6 := n6) (n7 := n7) (by simp))
      obtain ⟨⟨y0, y1, y2, y3, y4, y5, y6, y7⟩, _⟩ := t8_cells (tJ.box (T := w.heap.size) (n0 := n0) (n1 := n1) (n2 := n2) (n3 := n3) (n4 := n4) (n5 := n5) (n6 := n6) (n7 := n7) (by simp))
      clear HK2
      go_wp2_with (first
        | (go_at_call 7; refine (no_any _ _).mono ?_; rintro e u ⟨rfl, rfl⟩)
        | (go_at_call 13; have h9 := tJ; clear h9; refine (same8 _ _ _ _ _ _ _ _ _).mono ?_; rintro e uK ⟨rfl, bK⟩; have tK := tJ.below bK; clear x0 x1 x2 x3 x4 x5 x6 x7; clear y0 y1 y2 y3 y4 y5 y6 y7; obtain ⟨⟨x0, x1, x2, x3, x4, x5, x6, x7⟩, _⟩ := t8_cells (tK.box (T := uD.heap.size) (n0 := n0) (n1 := n1) (n2 := n2) (n3 := n3) (n4 := n4) (n5 := n5) (n6 := n6) (n7 := n7) (by simp)); obtain ⟨⟨y0, y1, y2, y3, y4, y5, y6, y7⟩, _⟩ := t8_cells (tK.box (T := w.heap.size) (n0 := n0) (n1 := n1) (n2 := n2) (n3 := n3) (n4 := n4) (n5 := n5) (n6 := n6) (n7 := n7) (by simp)); clear tJ bK)
        | (go_at_call 13; have h9 := tK; clear h9; refine (same8 _ _ _ _ _ _ _ _ _).mono ?_; rintro e uL ⟨rfl, bL⟩; have tL := tK.below bL; clear x0 x1 x2 x3 x4 x5 x6 x7; clear y0 y1 y2 y3 y4 y5 y6 y7; obtain ⟨⟨x0, x1, x2, x3, x4, x5, x6, x7⟩, _⟩ := t8_cells (tL.box (T := uG.heap.size) (n0 := m0) (n1 := m1) (n2 := m2) (n3 := m3) (n4 := m4) (n5 := m5) (n6 := m6) (n7 := m7) (by simp)); obtain ⟨⟨y0, y1, y2, y3, y4, y5, y6, y7⟩, _⟩ := t8_cells (tL.box (T := (w.heap.size + 1)) (n0 := m0) (n1 := m1) (n2 := m2) (n3 := m3) (n4 := m4) (n5 := m5) (n6 := m6) (n7 := m7) (by simp)); clear tK bL)
        | (go_at_call 13; have h9 := tL; clear h9; refine (same8 _ _ _ _ _ _ _ _ _).mono ?_; rintro e uM ⟨rfl, bM⟩; have tM := tL.below bM; clear x0 x1 x2 x3 x4 x5 x6 x7; clear y0 y1 y2 y3 y4 y5 y6 y7; obtain ⟨⟨x0, x1, x2, x3, x4, x5, x6, x7⟩, _⟩ := t8_cells (tM.box (T := uH.heap.size) (n0 := m0) (n1 := m1) (n2 := m2) (n3 := m3) (n4 := m4) (n5 := m5) (n6 := m6) (n7 := m7) (by simp)); obtain ⟨⟨y0, y1, y2, y3, y4, y5, y6, y7⟩, _⟩ := t8_cells (tM.box (T := (w.heap.size + 1)) (n0 := m0) (n1 := m1) (n2 := m2) (n3 := m3) (n4 := m4) (n5 := m5) (n6 := m6) (n7 := m7) (by simp)); clear tL bM)
        | (go_at_call 13; have h9 := tM; clear h9; refine (same8 _ _ _ _ _ _ _ _ _).mono ?_; rintro e uN ⟨rfl, bN⟩; have tN := tM.below bN; clear x0 x1 x2 x3 x4 x5 x6 x7; clear y0 y1 y2 y3 y4 y5 y6 y7; have cun := unmet_any (uN.alloc (.cells #[.slice aA 26 cA, .slice (some gB) 26 cB, .slice aC 26 cC, .slice aL 54 cL, .slice (some gM) 54 cM, .slice aN 54 cN] 25)) (w.heap.size + 2) uN.heap.size 6 6 _ _ _ (nine tN.lv [(.slice aA 26 cA, Q), (.slice (some gB) 26 cB, Q2), (.slice aC 26 cC, Q), (.slice aL 54 cL, L), (.slice (some gM) 54 cM, L2), (.slice aN 54 cN, L)] (by simp) (by have e1 := HK.out.nQ; have e2 := HK.out.nL; have e3 := HJ.out.nQ; have e4 := HJ.out.nL; simp only [List.mem_cons, List.not_mem_nil, or_false]; rintro p (rfl | rfl | rfl | rfl | rfl | rfl) <;> simp only [e1, e2, e3, e4] <;> omega) 6 rfl _ rfl) (by omega) (by have := tN.hB; simp; omega); have HUN : Hid _ := cun; clear cun tM bN)
        | (go_at_call 14; have h9 := HUN; clear h9; refine Calls.mono HUN.out ?_; rintro e uZ ⟨rfl, bZ⟩; have bY := tN.bel.trans ((((Below.refl uN.heap.size uN).alloc (Nat.le_refl _) _).mono tN.bel.size).trans (bZ.mono (by omega))); clear HUN tN bZ))
      go_ret
      exact ⟨rfl, bY⟩
end Go.Proofs.YtgdmagmbkmgdfabDoor
