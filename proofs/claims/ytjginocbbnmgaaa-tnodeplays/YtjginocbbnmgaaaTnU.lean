/-
  SEAT Ytjginocbbnmgaaa: take, Drop, Cut.
-/
import Derived.Test.YtjginocbbnmgaaaTnT
namespace Go.Proofs.Ytjginocbbnmgaaa
open Go.RowKit
set_option linter.unusedVariables false
variable {bx : Nat}

theorem cutM_none {M : Mp} (f t : Int) (h : ∀ k, M k = none) : cutM M f t = M := by
  funext k
  unfold cutM
  rw [h k]
  split <;> rfl
set_option maxHeartbeats 4000000 in
set_option maxRecDepth 100000 in
theorem take_none (gt h : Nat) (f t n : Int) (M : Mp) (w : World) (hT : TreeOn bx w gt h n M) (hb : w.heap[gt]? = some (.cells #[.pointer none, .int .i64 (h : Int), .int .i64 n] 72 (0, 0))) (hF : Fit h M) :
    Calls Try.prog 34 #[.pointer (some ⟨gt, 0, none⟩), .int .i64 f, .int .i64 t] w fun e w' => ∃ h', e = .returned (.int .i64 ((cnt (hit M f t) (spn h) : Nat) : Int)) ∧ TreeOn bx w' gt h' (n - ((cnt (hit M f t) (spn h) : Nat) : Int)) (cutM M f t) ∧ Fit h' (cutM M f t) ∧ w.grownBy w' (some gt) := by
  have hM := hT.bare (P := undef) hb
  have hc : cnt (hit M f t) (spn h) = 0 := cnt_void f t (fun k _ => hM k)
  rw [hc, cutM_none f t hM]
  have HT : Hid (TreeOn bx w gt h (n - ((0 : Nat) : Int)) M) := by unfold Hid; rw [show n - ((0 : Nat) : Int) = n by omega]; exact hT
  have HF : Hid _ := hF
  have c0 : w.cell? ⟨gt, 0, none⟩ = some (.pointer none) := by rw [cell_of_row _ _ 0 _ 72 (0, 0) hb]; rfl
  clear hT hb hM hc hF
  go_enter Try.func34, Try.ntmps34
  go_wp2
  go_ret
  exact ⟨h, rfl, HT.out, HF.out, World.grownBy.refl _ _⟩
set_option maxHeartbeats 4000000 in
set_option maxRecDepth 100000 in
theorem take_some (gt h g : Nat) (f t n : Int) (M : Mp) (w : World) (hT : TreeOn bx w gt h n M) (hb : w.heap[gt]? = some (.cells #[.pointer (some ⟨g, 0, none⟩), .int .i64 (h : Int), .int .i64 n] 72 (0, 0))) (hn : 0 ≤ n ∧ n ≤ 1099511627776)
    (hv : (0 ≤ f ∧ f ≤ 1048576 ∧ 0 ≤ t ∧ t ≤ 1048576) ∨ (f < 0 ∧ t ≤ 0) ∨ (1048576 ≤ f ∧ f < 9223372036854775808)) :
    Calls Try.prog 34 #[.pointer (some ⟨gt, 0, none⟩), .int .i64 f, .int .i64 t] w fun e w' => ∃ h', e = .returned (.int .i64 ((cnt (hit M f t) (spn h) : Nat) : Int)) ∧ TreeOn bx w' gt h' (n - ((cnt (hit M f t) (spn h) : Nat) : Int)) (cutM M f t) ∧ Fit h' (cutM M f t) ∧ w.grownBy w' (some gt) := by
  have c0 : w.cell? ⟨gt, 0, none⟩ = some (.pointer (some ⟨g, 0, none⟩)) := by rw [cell_of_row _ _ 0 _ 72 (0, 0) hb]; rfl
  have hgt := lt_of_block hb
  have h5 := hT.h5
  have hpos : 0 < h ∧ NodeOn (seenH w (Eg gt bx)) (h - 1) (some g) M := by
    obtain ⟨top, hb2, h0, hN⟩ := hT.blk
    rw [hb] at hb2
    injection hb2 with hb2
    injection hb2 with hb2
    have ht : top = some g := by
      cases top with
      | none => simp [ptr] at hb2
      | some g2 => simp [ptr] at hb2; rw [hb2]
    subst ht
    cases h with
    | zero => cases (h0 rfl).1
    | succ l => exact ⟨by omega, hN l rfl⟩
  obtain ⟨hp, hnn⟩ := hpos
  obtain ⟨l, rfl⟩ : ∃ l, h = l + 1 := ⟨h - 1, by omega⟩
  rw [Nat.add_sub_cancel] at hnn
  have c1 : w.cell? ⟨gt, 1, none⟩ = some (.int .i64 ((l : Int) + 1)) := by rw [cell_of_row _ _ 1 _ 72 (0, 0) hb, Int.natCast_add]; rfl
  obtain ⟨C, hC⟩ : ∃ C, cnt (hit M f t) (spn (l + 1)) = C := ⟨_, rfl⟩
  have hCl : C ≤ 1048576 := by rw [← hC]; exact Nat.le_trans (cnt_le _ _) (dig_le5 (l + 1) h5)
  have hcall := without_all l g M f t w.drew (Eg gt bx) (fun i q => by show i < w.heap.size; have := hT.low; rcases q with q | q <;> omega) hnn (by omega) hv
  rw [hC] at hcall ⊢
  have HCALL : Hid _ := hcall
  have dl : IntKind.i64.wrap (l : Int) = (l : Int) := by rw [IntKind.wrap_i64]; omega
  have dn : IntKind.i64.wrap (n - (C : Int)) = n - (C : Int) := by rw [IntKind.wrap_i64]; omega
  have HW : Hid (∀ (u : World) (o : Option Nat), Below w.heap.size w u → NodeOn (seenH u (Eg gt bx)) l o (cutM M f t) → (u.cell? ⟨gt, 0, none⟩ = some (.pointer (some ⟨g, 0, none⟩)) ∧ u.cell? ⟨gt, 1, none⟩ = some (.int .i64 ((l : Int) + 1))) ∧ u.cell? ⟨gt, 2, none⟩ = some (.int .i64 n) ∧ u.frozen? ⟨gt, 0, none⟩ = false ∧ u.frozen? ⟨gt, 2, none⟩ = false ∧
      TreeOn bx ((u.setCell ⟨gt, 0, none⟩ (ptr o)).setCell ⟨gt, 2, none⟩ (.int .i64 (n - (C : Int)))) gt (l + 1) (n - (C : Int)) (cutM M f t) ∧ w.grownBy ((u.setCell ⟨gt, 0, none⟩ (ptr o)).setCell ⟨gt, 2, none⟩ (.int .i64 (n - (C : Int)))) (some gt)) := fun u o hu hn' => by
    have hbu := (hu.block gt hgt).trans hb
    have hb1 := tree_box (x := ptr o) 0 hbu
    have hb2 := tree_box (x := .int .i64 (n - (C : Int))) 2 hb1
    refine ⟨⟨by rw [cell_of_row _ _ 0 _ 72 (0, 0) hbu]; rfl, by rw [cell_of_row _ _ 1 _ 72 (0, 0) hbu, Int.natCast_add]; rfl⟩, by rw [cell_of_row _ _ 2 _ 72 (0, 0) hbu]; rfl, by unfold World.frozen?; simp only [hbu]; simp, by unfold World.frozen?; simp only [hbu]; simp, ⟨⟨o, by rw [hb2]; rfl, fun q => by omega, fun l' hl => ?_⟩, fun k hk => ?_, h5, by have h8 := hT.low; have h9 := hu.size; simp; omega⟩, World.grownBy.trans (grown_mono hu _) (World.grownBy.trans (grown_setC _ _ _ _) (grown_setC _ _ _ _))⟩
    · obtain rfl : l' = l := by omega
      exact hn'.mono (shows_grown (World.grownBy.trans (grown_setC _ _ _ _) (grown_setC _ _ _ _)))
    · unfold cutM
      rw [hT.out k hk]
      split <;> rfl
  clear hT hb hcall hnn hC hv
  go_enter Try.func34, Try.ntmps34
  go_upto_region 3 with fail
  refine wp_region_held_drew (S := (fun x => x.cell? ⟨gt, 0, none⟩ = some (.pointer (some ⟨g, 0, none⟩)) ∧ x.cell? ⟨gt, 1, none⟩ = some (.int .i64 ((l : Int) + 1)))) (by kernel_rfl) (⟨c0, c1⟩) (fun hHeld => ?_)
  refine wpAnyH_take (i := 0) (oi := { dst := some 15, op := Op.move (Operand.tmp 0), type := 24, pos := "tnode.go:78", after := #[], guard := none }) (v := ?v0p) rfl (by kernel_rfl) (by kernel_rfl) (by kernel_rfl) (fun _ _ _ h => h) (Or.inl ⟨by rfl, ?y0p⟩) (by assumption) ?r0p
  case y0p => (intro x hx; (try dsimp only at hx); go_simp; try with_reducible rfl)
  try simp only [Act.put, List.setIfInBounds_toArray, List.set_cons_zero, List.set_cons_succ]
  refine wpAnyH_take (i := 1) (oi := { dst := some 16, op := Op.nilCheck (Operand.tmp 15), type := 0, pos := "tnode.go:78", after := #[{ on := 0, ground := Ground.data }], guard := none }) (v := ?v1p) rfl (by kernel_rfl) (by kernel_rfl) (by kernel_rfl) (fun _ _ _ h => h) (Or.inl ⟨by rfl, ?y1p⟩) (by assumption) ?r1p
  case y1p => (intro x hx; (try dsimp only at hx); go_simp; try with_reducible rfl)
  try simp only [Act.put, List.setIfInBounds_toArray, List.set_cons_zero, List.set_cons_succ]
  refine wpAnyH_take (i := 2) (oi := { dst := some 17, op := Op.fieldAddr 72 (Operand.tmp 16) 0, type := 0, pos := "tnode.go:78", after := #[{ on := 1, ground := Ground.data }], guard := none }) (v := ?v2p) rfl (by kernel_rfl) (by kernel_rfl) (by kernel_rfl) (fun _ _ _ h => h) (Or.inl ⟨by rfl, ?y2p⟩) (by assumption) ?r2p
  case y2p => (intro x hx; (try dsimp only at hx); go_simp; try with_reducible rfl)
  try simp only [Act.put, List.setIfInBounds_toArray, List.set_cons_zero, List.set_cons_succ]
  refine wpAnyH_take (i := 3) (oi := { dst := some 18, op := Op.load 70 (Operand.tmp 17), type := 70, pos := "tnode.go:78", after := #[{ on := 2, ground := Ground.data }], guard := none }) (v := ?v3p) rfl (by kernel_rfl) (by kernel_rfl) (by kernel_rfl) (fun _ _ _ h => h) (Or.inl ⟨by rfl, ?y3p⟩) (by assumption) ?r3p
  case y3p => (intro x hx; obtain ⟨hx1, hx2⟩ := hx; go_simp; try with_reducible rfl)
  try simp only [Act.put, List.setIfInBounds_toArray, List.set_cons_zero, List.set_cons_succ]
  refine wpAnyH_take (i := 4) (oi := { dst := some 19, op := Op.move (Operand.tmp 0), type := 24, pos := "tnode.go:78", after := #[], guard := none }) (v := ?v4p) rfl (by kernel_rfl) (by kernel_rfl) (by kernel_rfl) (fun _ _ _ h => h) (Or.inl ⟨by rfl, ?y4p⟩) (by assumption) ?r4p
  case y4p => (intro x hx; (try dsimp only at hx); go_simp; try with_reducible rfl)
  try simp only [Act.put, List.setIfInBounds_toArray, List.set_cons_zero, List.set_cons_succ]
  refine wpAnyH_take (i := 5) (oi := { dst := some 20, op := Op.nilCheck (Operand.tmp 19), type := 0, pos := "tnode.go:78", after := #[{ on := 4, ground := Ground.data }], guard := none }) (v := ?v5p) rfl (by kernel_rfl) (by kernel_rfl) (by kernel_rfl) (fun _ _ _ h => h) (Or.inl ⟨by rfl, ?y5p⟩) (by assumption) ?r5p
  case y5p => (intro x hx; (try dsimp only at hx); go_simp; try with_reducible rfl)
  try simp only [Act.put, List.setIfInBounds_toArray, List.set_cons_zero, List.set_cons_succ]
  refine wpAnyH_take (i := 6) (oi := { dst := some 21, op := Op.fieldAddr 72 (Operand.tmp 20) 1, type := 0, pos := "tnode.go:78", after := #[{ on := 5, ground := Ground.data }], guard := none }) (v := ?v6p) rfl (by kernel_rfl) (by kernel_rfl) (by kernel_rfl) (fun _ _ _ h => h) (Or.inl ⟨by rfl, ?y6p⟩) (by assumption) ?r6p
  case y6p => (intro x hx; (try dsimp only at hx); go_simp; try with_reducible rfl)
  try simp only [Act.put, List.setIfInBounds_toArray, List.set_cons_zero, List.set_cons_succ]
  refine wpAnyH_take (i := 7) (oi := { dst := some 22, op := Op.load 3 (Operand.tmp 21), type := 3, pos := "tnode.go:78", after := #[{ on := 6, ground := Ground.data }], guard := none }) (v := ?v7p) rfl (by kernel_rfl) (by kernel_rfl) (by kernel_rfl) (fun _ _ _ h => h) (Or.inl ⟨by rfl, ?y7p⟩) (by assumption) ?r7p
  case y7p => (intro x hx; obtain ⟨hx1, hx2⟩ := hx; go_simp; try with_reducible rfl)
  try simp only [Act.put, List.setIfInBounds_toArray, List.set_cons_zero, List.set_cons_succ]
  refine wpAnyH_take (i := 8) (oi := { dst := some 23, op := Op.binOp BinOp.sub 3 (Operand.tmp 22) (Operand.const (Value.int IntKind.i64 1)) 3, type := 3, pos := "tnode.go:78", after := #[{ on := 7, ground := Ground.data }], guard := none }) (v := ?v8p) rfl (by kernel_rfl) (by kernel_rfl) (by kernel_rfl) (fun _ _ _ h => h) (Or.inl ⟨by rfl, ?y8p⟩) (by assumption) ?r8p
  case y8p => (intro x hx; (try dsimp only at hx); go_simp; try with_reducible rfl)
  try simp only [Act.put, List.setIfInBounds_toArray, List.set_cons_zero, List.set_cons_succ]
  refine wpAnyH_take (i := 9) (oi := { dst := some 24, op := Op.move (Operand.tmp 1), type := 3, pos := "tnode.go:78", after := #[], guard := none }) (v := ?v9p) rfl (by kernel_rfl) (by kernel_rfl) (by kernel_rfl) (fun _ _ _ h => h) (Or.inl ⟨by rfl, ?y9p⟩) (by assumption) ?r9p
  case y9p => (intro x hx; (try dsimp only at hx); go_simp; try with_reducible rfl)
  try simp only [Act.put, List.setIfInBounds_toArray, List.set_cons_zero, List.set_cons_succ]
  refine wpAnyH_take (i := 10) (oi := { dst := some 25, op := Op.move (Operand.tmp 2), type := 3, pos := "tnode.go:78", after := #[], guard := none }) (v := ?v10p) rfl (by kernel_rfl) (by kernel_rfl) (by kernel_rfl) (fun _ _ _ h => h) (Or.inl ⟨by rfl, ?y10p⟩) (by assumption) ?r10p
  case y10p => (intro x hx; (try dsimp only at hx); go_simp; try with_reducible rfl)
  try simp only [Act.put, List.setIfInBounds_toArray, List.set_cons_zero, List.set_cons_succ]
  refine wpAnyH_ready (rs := [11]) (by kernel_rfl) (by simp) ?_
  refine AllReadyH.cons (o := { dst := some 26, op := Op.call { callee := Callee.value (Operand.func 50), args := #[Operand.tmp 18, Operand.tmp 23, Operand.tmp 24, Operand.tmp 25], argTypes := #[70, 3, 3, 3] }, type := 89, pos := "tnode.go:78", after := #[{ on := 3, ground := Ground.data }, { on := 8, ground := Ground.data }, { on := 9, ground := Ground.data }, { on := 10, ground := Ground.data }], guard := none }) rfl (fun K hK => ?_) AllReadyH.nil
  go_simp
  try rw [dl]
  go_at_call 50
  refine Calls.mono HCALL.out ?_
  rintro e u ⟨o, rfl, n1, q1⟩
  obtain ⟨hSnew, k2, k3, k4, k5, k6⟩ := HW.out u o ((Below.refl _ _).drew.trans q1) n1
  have K5 : Hid _ := And.intro k5 k6
  obtain ⟨q, hq⟩ := ptr_addr o
  rw [hq] at k5 k6 ⊢
  have HQ : Hid _ := hq
  have K7 : Hid _ := And.intro k5 k6
  clear k5 k6 n1 q1 hq
  go_wp2_with fail
  refine hK.out _ _ hSnew (fun hHeld11 => ?_)
  clear hK K hSnew
  clear hHeld
  have hHeld := hHeld11
  clear hHeld11
  try simp only [Act.put, List.setIfInBounds_toArray, List.set_cons_zero, List.set_cons_succ]
  refine wpAnyH_take (i := 12) (oi := { dst := some 14, op := Op.move (Operand.tmp 26), type := 89, pos := "tnode.go:78", after := #[{ on := 11, ground := Ground.data }], guard := none }) (v := ?v12p) rfl (by kernel_rfl) (by kernel_rfl) (by kernel_rfl) (fun _ _ _ h => h) (Or.inl ⟨by rfl, ?y12p⟩) (by assumption) ?r12p
  case y12p => (intro x hx; (try dsimp only at hx); go_simp; try with_reducible rfl)
  try simp only [Act.put, List.setIfInBounds_toArray, List.set_cons_zero, List.set_cons_succ]
  refine wpAnyH_take (i := 13) (oi := { dst := some 27, op := Op.extract (Operand.tmp 14) 0, type := 70, pos := "tnode.go:78", after := #[{ on := 12, ground := Ground.data }], guard := none }) (v := ?v13p) rfl (by kernel_rfl) (by kernel_rfl) (by kernel_rfl) (fun _ _ _ h => h) (Or.inl ⟨by rfl, ?y13p⟩) (by assumption) ?r13p
  case y13p => (intro x hx; (try dsimp only at hx); go_simp; try with_reducible rfl)
  try simp only [Act.put, List.setIfInBounds_toArray, List.set_cons_zero, List.set_cons_succ]
  refine wpAnyH_take (i := 14) (oi := { dst := some 28, op := Op.extract (Operand.tmp 14) 1, type := 3, pos := "tnode.go:78", after := #[{ on := 12, ground := Ground.data }, { on := 15, ground := Ground.gcOnly Departure.lateStores }], guard := none }) (v := ?v14p) rfl (by kernel_rfl) (by kernel_rfl) (by kernel_rfl) (fun _ _ _ h => h) (Or.inl ⟨by rfl, ?y14p⟩) (by assumption) ?r14p
  case y14p => (intro x hx; (try dsimp only at hx); go_simp; try with_reducible rfl)
  try simp only [Act.put, List.setIfInBounds_toArray, List.set_cons_zero, List.set_cons_succ]
  refine wpAnyH_take (i := 15) (oi := { dst := some 7, op := Op.assign (Operand.tmp 27), type := 70, pos := "tnode.go:78", after := #[{ on := 13, ground := Ground.data }, { on := 11, ground := Ground.chain }, { on := 0, ground := Ground.phase }, { on := 1, ground := Ground.phase }, { on := 2, ground := Ground.phase }, { on := 3, ground := Ground.phase }, { on := 4, ground := Ground.phase }, { on := 5, ground := Ground.phase }, { on := 6, ground := Ground.phase }, { on := 7, ground := Ground.phase }, { on := 8, ground := Ground.phase }, { on := 9, ground := Ground.phase }, { on := 10, ground := Ground.phase }, { on := 11, ground := Ground.phase }, { on := 12, ground := Ground.phase }, { on := 13, ground := Ground.phase }, { on := 14, ground := Ground.textOnly Departure.lateStores }], guard := none }) (v := ?v15p) rfl (by kernel_rfl) (by kernel_rfl) (by kernel_rfl) (fun _ _ _ h => h) (Or.inl ⟨by rfl, ?y15p⟩) (by assumption) ?r15p
  case y15p => (intro x hx; (try dsimp only at hx); go_simp; try with_reducible rfl)
  try simp only [Act.put, List.setIfInBounds_toArray, List.set_cons_zero, List.set_cons_succ]
  refine wpAnyH_take (i := 16) (oi := { dst := some 8, op := Op.assign (Operand.tmp 28), type := 3, pos := "tnode.go:78", after := #[{ on := 14, ground := Ground.data }, { on := 15, ground := Ground.chain }, { on := 0, ground := Ground.phase }, { on := 1, ground := Ground.phase }, { on := 2, ground := Ground.phase }, { on := 3, ground := Ground.phase }, { on := 4, ground := Ground.phase }, { on := 5, ground := Ground.phase }, { on := 6, ground := Ground.phase }, { on := 7, ground := Ground.phase }, { on := 8, ground := Ground.phase }, { on := 9, ground := Ground.phase }, { on := 10, ground := Ground.phase }, { on := 11, ground := Ground.phase }, { on := 12, ground := Ground.phase }, { on := 13, ground := Ground.phase }, { on := 14, ground := Ground.phase }, { on := 15, ground := Ground.phase }], guard := none }) (v := ?v16p) rfl (by kernel_rfl) (by kernel_rfl) (by kernel_rfl) (fun _ _ _ h => h) (Or.inl ⟨by rfl, ?y16p⟩) (by assumption) ?r16p
  case y16p => (intro x hx; (try dsimp only at hx); go_simp; try with_reducible rfl)
  try simp only [Act.put, List.setIfInBounds_toArray, List.set_cons_zero, List.set_cons_succ]
  refine wpAnyH_done (by kernel_rfl) ?_ _
  go_wp2_with (first
    | (go_at_call 51; refine (shrink_any gt (l + 1) (n - (C : Int)) (cutM M f t) _ K7.out.1).mono ?_; rintro e w3 ⟨h', rfl, t1, t2, t3⟩; have T1 : Hid _ := t1; have T2 : Hid _ := t2; have T3 : Hid _ := t3; clear t1 t2 t3))
  go_ret
  exact ⟨h', rfl, T1.out, T2.out, World.grownBy.trans K7.out.2 T3.out⟩
theorem take_any (gt h : Nat) (f t n : Int) (M : Mp) (w : World) (hT : TreeOn bx w gt h n M) (hF : Fit h M) (hn : 0 ≤ n ∧ n ≤ 1099511627776) (hv : (0 ≤ f ∧ f ≤ 1048576 ∧ 0 ≤ t ∧ t ≤ 1048576) ∨ (f < 0 ∧ t ≤ 0) ∨ (1048576 ≤ f ∧ f < 9223372036854775808)) :
    Calls Try.prog 34 #[.pointer (some ⟨gt, 0, none⟩), .int .i64 f, .int .i64 t] w fun e w' => ∃ h', e = .returned (.int .i64 ((cnt (hit M f t) (spn h) : Nat) : Int)) ∧ TreeOn bx w' gt h' (n - ((cnt (hit M f t) (spn h) : Nat) : Int)) (cutM M f t) ∧ Fit h' (cutM M f t) ∧ w.grownBy w' (some gt) := by
  obtain ⟨top, hb, h0, hN⟩ := hT.blk
  cases top with
  | none => exact take_none gt h f t n M w hT hb hF
  | some g => exact take_some gt h g f t n M w hT hb hn hv
end Go.Proofs.Ytjginocbbnmgaaa
