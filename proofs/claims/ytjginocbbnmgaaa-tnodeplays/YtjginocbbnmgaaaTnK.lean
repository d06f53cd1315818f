/-
  SEAT Ytjginocbbnmgaaa: Put, its walk.
-/
import Derived.Test.YtjginocbbnmgaaaTnJ
namespace Go.Proofs.Ytjginocbbnmgaaa
open Go.RowKit
set_option linter.unusedVariables false
variable {bx : Nat}

theorem put_bad (gt h : Nat) (k v n : Int) (w : World) (hk : k < 0 ∨ 1048575 < k) : Calls Try.prog 16 #[.pointer (some ⟨gt, 0, none⟩), .int .i64 k, .int .i64 v] w fun e w' => e = .returned (.int .i64 90) ∧ w' = w := by
  by_cases h0 : k < 0
  · clear hk
    go_enter Try.func16, Try.ntmps16
    go_wp2
    go_ret
    exact ⟨rfl, rfl⟩
  · have h1 : 1048575 < k := by omega
    clear hk
    go_enter Try.func16, Try.ntmps16
    go_wp2
    go_ret
    exact ⟨rfl, rfl⟩
theorem grown_drewN (w : World) (q : Nat) (r : Option Nat) : w.grownBy (w.drewN q) r := grown_mono (below_drewN (Below.refl w.heap.size w) q) r
set_option maxHeartbeats 4000000 in
set_option maxRecDepth 100000 in
theorem put_some (gt h k : Nat) (v n : Int) (M : Mp) (w : World) (hT : TreeOn bx w gt h n M) (hk : k < 1048576) (hn : 0 ≤ n ∧ n < 1099511627776) (hm : (M k).isSome = true) :
    Calls Try.prog 16 #[.pointer (some ⟨gt, 0, none⟩), .int .i64 (k : Int), .int .i64 v] w fun e w' => ∃ h', e = .returned (.int .i64 0) ∧ TreeOn bx w' gt h' (n) (upd M k v) ∧ h ≤ h' ∧ 0 < h' ∧ k < spn h' ∧ (h' = h ∨ h' = 1 ∨ spn (h' - 1) ≤ k) ∧ w.grownBy w' (some gt) := by
  have HT : Hid (TreeOn bx w gt h n M) := hT
  have HM : Hid _ := hm
  obtain ⟨top0, hb0, _, _⟩ := hT.blk
  have e1 : ¬ ((k : Int) < 0) := by omega
  have e2 : ¬ ((1048575 : Int) < (k : Int)) := by omega
  have ha : at1 M (k : Int) = M k := by unfold at1; rw [if_pos (by omega), Int.toNat_natCast]
  have HA : Hid _ := ha
  clear hT hm hb0 ha
  go_enter Try.func16, Try.ntmps16
  go_upto_region 6 with (first
    | (go_at_call 36; refine (seek_any gt h k n M _ HT.out).mono ?_; rintro e u ⟨t, rfl, ht, q, rfl⟩; rw [HA.out] at ht; obtain ⟨g0, rfl⟩ : ∃ g0, t = some g0 := (by have hm := HM.out; cases t with | none => (cases hx : M k with | none => (rw [hx] at hm; cases hm) | some x => (rw [hx] at ht; cases ht)) | some g => exact ⟨g, rfl⟩); simp only [ptr]; clear ht)
    | (go_at_call 37; refine (grow_any gt h k n M _ (HT.out.drewN q) hk).mono ?_; rintro e w2 ⟨h', rfl, T2, p1, p2, p3, p4, p5⟩))
  obtain ⟨l, rfl⟩ : ∃ l, h' = l + 1 := ⟨h' - 1, by omega⟩
  have HG : Hid (w.grownBy w2 (some gt)) := World.grownBy.trans (grown_drewN w q _) p5
  have hh5 := T2.h5
  obtain ⟨top, x0, x1, x2, IH⟩ := puts_tail gt (l + 1) k v (n) M w2 l rfl T2 p3 hk
  have HIH : Hid _ := IH
  have HP : Hid _ := And.intro p1 (And.intro p3 p4)
  have dl : IntKind.i64.wrap (l : Int) = (l : Int) := by rw [IntKind.wrap_i64]; omega
  obtain ⟨TP, hTP⟩ : ∃ TP, ptr top = TP := ⟨_, rfl⟩
  rw [hTP] at x0
  have HTP : Hid _ := hTP
  clear IH T2 p1 p2 p3 p4 p5 hTP HT HM HA
  refine wp_region_held_drew (S := (fun x => x.cell? ⟨gt, 1, none⟩ = some (.int .i64 ((l : Int) + 1)))) (by kernel_rfl) (x1) (fun hHeld => ?_)
  refine wpAnyH_take (i := 0) (oi := { dst := some 27, op := Op.move (Operand.tmp 0), type := 24, pos := "tnode.go:29", after := #[], guard := none }) (v := ?v0p) rfl (by kernel_rfl) (by kernel_rfl) (by kernel_rfl) (fun _ _ _ h => h) (Or.inl ⟨by rfl, ?y0p⟩) (by assumption) ?r0p
  case y0p => (intro x hx; (try dsimp only at hx); go_simp; try with_reducible rfl)
  try simp only [Act.put, List.setIfInBounds_toArray, List.set_cons_zero, List.set_cons_succ]
  refine wpAnyH_take (i := 1) (oi := { dst := some 28, op := Op.move (Operand.tmp 0), type := 24, pos := "tnode.go:29", after := #[], guard := none }) (v := ?v1p) rfl (by kernel_rfl) (by kernel_rfl) (by kernel_rfl) (fun _ _ _ h => h) (Or.inl ⟨by rfl, ?y1p⟩) (by assumption) ?r1p
  case y1p => (intro x hx; (try dsimp only at hx); go_simp; try with_reducible rfl)
  try simp only [Act.put, List.setIfInBounds_toArray, List.set_cons_zero, List.set_cons_succ]
  refine wpAnyH_take (i := 2) (oi := { dst := some 29, op := Op.nilCheck (Operand.tmp 28), type := 0, pos := "tnode.go:29", after := #[{ on := 1, ground := Ground.data }], guard := none }) (v := ?v2p) rfl (by kernel_rfl) (by kernel_rfl) (by kernel_rfl) (fun _ _ _ h => h) (Or.inl ⟨by rfl, ?y2p⟩) (by assumption) ?r2p
  case y2p => (intro x hx; (try dsimp only at hx); go_simp; try with_reducible rfl)
  try simp only [Act.put, List.setIfInBounds_toArray, List.set_cons_zero, List.set_cons_succ]
  refine wpAnyH_take (i := 3) (oi := { dst := some 30, op := Op.fieldAddr 72 (Operand.tmp 29) 0, type := 0, pos := "tnode.go:29", after := #[{ on := 2, ground := Ground.data }], guard := none }) (v := ?v3p) rfl (by kernel_rfl) (by kernel_rfl) (by kernel_rfl) (fun _ _ _ h => h) (Or.inl ⟨by rfl, ?y3p⟩) (by assumption) ?r3p
  case y3p => (intro x hx; (try dsimp only at hx); go_simp; try with_reducible rfl)
  try simp only [Act.put, List.setIfInBounds_toArray, List.set_cons_zero, List.set_cons_succ]
  refine wpAnyH_take (i := 5) (oi := { dst := some 32, op := Op.move (Operand.tmp 0), type := 24, pos := "tnode.go:29", after := #[], guard := none }) (v := ?v5p) rfl (by kernel_rfl) (by kernel_rfl) (by kernel_rfl) (fun _ _ _ h => h) (Or.inl ⟨by rfl, ?y5p⟩) (by assumption) ?r5p
  case y5p => (intro x hx; (try dsimp only at hx); go_simp; try with_reducible rfl)
  try simp only [Act.put, List.setIfInBounds_toArray, List.set_cons_zero, List.set_cons_succ]
  refine wpAnyH_take (i := 6) (oi := { dst := some 33, op := Op.nilCheck (Operand.tmp 32), type := 0, pos := "tnode.go:29", after := #[{ on := 5, ground := Ground.data }], guard := none }) (v := ?v6p) rfl (by kernel_rfl) (by kernel_rfl) (by kernel_rfl) (fun _ _ _ h => h) (Or.inl ⟨by rfl, ?y6p⟩) (by assumption) ?r6p
  case y6p => (intro x hx; (try dsimp only at hx); go_simp; try with_reducible rfl)
  try simp only [Act.put, List.setIfInBounds_toArray, List.set_cons_zero, List.set_cons_succ]
  refine wpAnyH_take (i := 7) (oi := { dst := some 34, op := Op.fieldAddr 72 (Operand.tmp 33) 1, type := 0, pos := "tnode.go:29", after := #[{ on := 6, ground := Ground.data }], guard := none }) (v := ?v7p) rfl (by kernel_rfl) (by kernel_rfl) (by kernel_rfl) (fun _ _ _ h => h) (Or.inl ⟨by rfl, ?y7p⟩) (by assumption) ?r7p
  case y7p => (intro x hx; (try dsimp only at hx); go_simp; try with_reducible rfl)
  try simp only [Act.put, List.setIfInBounds_toArray, List.set_cons_zero, List.set_cons_succ]
  refine wpAnyH_take (i := 8) (oi := { dst := some 35, op := Op.load 3 (Operand.tmp 34), type := 3, pos := "tnode.go:29", after := #[{ on := 7, ground := Ground.data }], guard := none }) (v := ?v8p) rfl (by kernel_rfl) (by kernel_rfl) (by kernel_rfl) (fun _ _ _ h => h) (Or.inl ⟨by rfl, ?y8p⟩) (by assumption) ?r8p
  case y8p => (intro x hx; (try dsimp only at hx); go_simp; try with_reducible rfl)
  try simp only [Act.put, List.setIfInBounds_toArray, List.set_cons_zero, List.set_cons_succ]
  refine wpAnyH_take (i := 9) (oi := { dst := some 36, op := Op.binOp BinOp.sub 3 (Operand.tmp 35) (Operand.const (Value.int IntKind.i64 1)) 3, type := 3, pos := "tnode.go:29", after := #[{ on := 8, ground := Ground.data }], guard := none }) (v := ?v9p) rfl (by kernel_rfl) (by kernel_rfl) (by kernel_rfl) (fun _ _ _ h => h) (Or.inl ⟨by rfl, ?y9p⟩) (by assumption) ?r9p
  case y9p => (intro x hx; (try dsimp only at hx); go_simp; try with_reducible rfl)
  try simp only [Act.put, List.setIfInBounds_toArray, List.set_cons_zero, List.set_cons_succ]
  refine wpAnyH_take (i := 10) (oi := { dst := some 37, op := Op.move (Operand.tmp 1), type := 3, pos := "tnode.go:29", after := #[], guard := none }) (v := ?v10p) rfl (by kernel_rfl) (by kernel_rfl) (by kernel_rfl) (fun _ _ _ h => h) (Or.inl ⟨by rfl, ?y10p⟩) (by assumption) ?r10p
  case y10p => (intro x hx; (try dsimp only at hx); go_simp; try with_reducible rfl)
  try simp only [Act.put, List.setIfInBounds_toArray, List.set_cons_zero, List.set_cons_succ]
  refine wpAnyH_take (i := 11) (oi := { dst := some 38, op := Op.move (Operand.tmp 2), type := 3, pos := "tnode.go:29", after := #[], guard := none }) (v := ?v11p) rfl (by kernel_rfl) (by kernel_rfl) (by kernel_rfl) (fun _ _ _ h => h) (Or.inl ⟨by rfl, ?y11p⟩) (by assumption) ?r11p
  case y11p => (intro x hx; (try dsimp only at hx); go_simp; try with_reducible rfl)
  try simp only [Act.put, List.setIfInBounds_toArray, List.set_cons_zero, List.set_cons_succ]
  refine wpAnyH_ready (rs := [4]) (by kernel_rfl) (by simp) ?_
  refine AllReadyH.cons (o := { dst := some 31, op := Op.load 70 (Operand.tmp 30), type := 70, pos := "tnode.go:29", after := #[{ on := 3, ground := Ground.data }], guard := none }) rfl (fun K hK => ?_) AllReadyH.nil
  go_simp
  go_wp2_with fail
  refine hK.out _ _ hHeld (fun hHeld4 => ?_)
  clear hK K
  clear hHeld4
  try simp only [Act.put, List.setIfInBounds_toArray, List.set_cons_zero, List.set_cons_succ]
  refine wpAnyH_ready (rs := [12]) (by kernel_rfl) (by simp) ?_
  refine AllReadyH.cons (o := { dst := some 39, op := Op.call { callee := Callee.value (Operand.func 38), args := #[Operand.tmp 31, Operand.tmp 36, Operand.tmp 37, Operand.tmp 38], argTypes := #[70, 3, 3, 3] }, type := 70, pos := "tnode.go:29", after := #[{ on := 4, ground := Ground.data }, { on := 9, ground := Ground.data }, { on := 10, ground := Ground.data }, { on := 11, ground := Ground.data }], guard := none }) rfl (fun K hK => ?_) AllReadyH.nil
  go_simp
  try rw [dl]
  go_at_call 38
  rw [← HTP.out]
  refine Calls.mono HIH.out ?_
  rintro e w3 ⟨g, rfl, q1, T3, y1, y2, y, y3⟩
  have T3H : Hid _ := T3
  have G3 : Hid (w.grownBy w3 (some gt)) := World.grownBy.trans HG.out (grown_mono q1 _)
  clear T3 q1 x0 x1 x2
  have hSnew := y1
  go_wp2_with fail
  refine hK.out _ _ hSnew (fun hHeld12 => ?_)
  clear hK K hSnew
  clear hHeld
  have hHeld := hHeld12
  clear hHeld12
  try simp only [Act.put, List.setIfInBounds_toArray, List.set_cons_zero, List.set_cons_succ]
  refine wpAnyH_take (i := 13) (oi := { dst := some 40, op := Op.nilCheck (Operand.tmp 27), type := 0, pos := "tnode.go:29", after := #[{ on := 0, ground := Ground.data }, { on := 0, ground := Ground.phase }, { on := 1, ground := Ground.phase }, { on := 2, ground := Ground.phase }, { on := 3, ground := Ground.phase }, { on := 4, ground := Ground.phase }, { on := 5, ground := Ground.phase }, { on := 6, ground := Ground.phase }, { on := 7, ground := Ground.phase }, { on := 8, ground := Ground.phase }, { on := 9, ground := Ground.phase }, { on := 10, ground := Ground.phase }, { on := 11, ground := Ground.phase }, { on := 12, ground := Ground.phase }], guard := none }) (v := ?v13p) rfl (by kernel_rfl) (by kernel_rfl) (by kernel_rfl) (fun _ _ _ h => h) (Or.inl ⟨by rfl, ?y13p⟩) (by assumption) ?r13p
  case y13p => (intro x hx; (try dsimp only at hx); go_simp; try with_reducible rfl)
  try simp only [Act.put, List.setIfInBounds_toArray, List.set_cons_zero, List.set_cons_succ]
  refine wpAnyH_take (i := 14) (oi := { dst := some 41, op := Op.fieldAddr 72 (Operand.tmp 40) 0, type := 0, pos := "tnode.go:29", after := #[{ on := 13, ground := Ground.data }, { on := 0, ground := Ground.phase }, { on := 1, ground := Ground.phase }, { on := 2, ground := Ground.phase }, { on := 3, ground := Ground.phase }, { on := 4, ground := Ground.phase }, { on := 5, ground := Ground.phase }, { on := 6, ground := Ground.phase }, { on := 7, ground := Ground.phase }, { on := 8, ground := Ground.phase }, { on := 9, ground := Ground.phase }, { on := 10, ground := Ground.phase }, { on := 11, ground := Ground.phase }, { on := 12, ground := Ground.phase }], guard := none }) (v := ?v14p) rfl (by kernel_rfl) (by kernel_rfl) (by kernel_rfl) (fun _ _ _ h => h) (Or.inl ⟨by rfl, ?y14p⟩) (by assumption) ?r14p
  case y14p => (intro x hx; (try dsimp only at hx); go_simp; try with_reducible rfl)
  try simp only [Act.put, List.setIfInBounds_toArray, List.set_cons_zero, List.set_cons_succ]
  refine wpAnyH_ready (rs := [15]) (by kernel_rfl) (by simp) ?_
  refine AllReadyH.cons (o := { dst := none, op := Op.store 70 (Operand.tmp 41) (Operand.tmp 39), type := 0, pos := "tnode.go:29", after := #[{ on := 14, ground := Ground.data }, { on := 12, ground := Ground.data }, { on := 12, ground := Ground.chain }, { on := 0, ground := Ground.phase }, { on := 1, ground := Ground.phase }, { on := 2, ground := Ground.phase }, { on := 3, ground := Ground.phase }, { on := 4, ground := Ground.phase }, { on := 5, ground := Ground.phase }, { on := 6, ground := Ground.phase }, { on := 7, ground := Ground.phase }, { on := 8, ground := Ground.phase }, { on := 9, ground := Ground.phase }, { on := 10, ground := Ground.phase }, { on := 11, ground := Ground.phase }, { on := 12, ground := Ground.phase }], guard := none }) rfl (fun K hK => ?_) AllReadyH.nil
  go_simp
  have hSnew : (w3.setCell ⟨gt, 0, none⟩ (.pointer (some ⟨g, 0, none⟩))).cell? ⟨gt, 1, none⟩ = some (.int .i64 ((l : Int) + 1)) := by
    obtain ⟨top3, hb3, _, _⟩ := T3H.out.blk
    rw [cell_of_row _ _ 1 _ 72 (0, 0) hb3, Int.natCast_add]
    rfl
  go_wp2_with fail
  refine hK.out _ _ hSnew (fun hHeld15 => ?_)
  clear hK K hSnew
  clear hHeld
  have hHeld := hHeld15
  clear hHeld15
  try simp only [Act.put, List.setIfInBounds_toArray, List.set_cons_zero, List.set_cons_succ]
  refine wpAnyH_done (by kernel_rfl) ?_ _
  go_wp2
  go_ret
  exact ⟨l + 1, rfl, T3H.out, HP.out.1, by omega, HP.out.2.1, HP.out.2.2, World.grownBy.trans G3.out (grown_setC _ _ _ _)⟩
set_option maxHeartbeats 4000000 in
set_option maxRecDepth 100000 in
theorem put_none (gt h k : Nat) (v n : Int) (M : Mp) (w : World) (hT : TreeOn bx w gt h n M) (hk : k < 1048576) (hn : 0 ≤ n ∧ n < 1099511627776) (hm : (M k).isSome = false) :
    Calls Try.prog 16 #[.pointer (some ⟨gt, 0, none⟩), .int .i64 (k : Int), .int .i64 v] w fun e w' => ∃ h', e = .returned (.int .i64 0) ∧ TreeOn bx w' gt h' (n + 1) (upd M k v) ∧ h ≤ h' ∧ 0 < h' ∧ k < spn h' ∧ (h' = h ∨ h' = 1 ∨ spn (h' - 1) ≤ k) ∧ w.grownBy w' (some gt) := by
  have HT : Hid (TreeOn bx w gt h n M) := hT
  have HM : Hid _ := hm
  obtain ⟨top0, hb0, _, _⟩ := hT.blk
  have e1 : ¬ ((k : Int) < 0) := by omega
  have e2 : ¬ ((1048575 : Int) < (k : Int)) := by omega
  have ha : at1 M (k : Int) = M k := by unfold at1; rw [if_pos (by omega), Int.toNat_natCast]
  have HA : Hid _ := ha
  have e3 : IntKind.i64.wrap (n + 1) = n + 1 := by rw [IntKind.wrap_i64]; omega
  have c2 : w.cell? ⟨gt, 2, none⟩ = some (.int .i64 n) := by rw [cell_of_row _ _ 2 _ 72 (0, 0) hb0]; rfl
  have f2 : w.frozen? ⟨gt, 2, none⟩ = false := by unfold World.frozen?; simp only [hb0]; simp
  clear hT hm hb0 ha
  go_enter Try.func16, Try.ntmps16
  go_upto_region 6 with (first
    | (go_at_call 36; refine (seek_any gt h k n M _ HT.out).mono ?_; rintro e u ⟨t, rfl, ht, q, rfl⟩; rw [HA.out] at ht; obtain rfl : t = none := (by have hm := HM.out; cases t with | none => rfl | some g => (cases hx : M k with | none => (rw [hx] at ht; cases ht) | some x => (rw [hx] at hm; cases hm))); simp only [ptr]; clear ht)
    | (go_at_call 37; refine (grow_any gt h k (n + 1) M _ ((HT.out.drewN q).size) hk).mono ?_; rintro e w2 ⟨h', rfl, T2, p1, p2, p3, p4, p5⟩))
  obtain ⟨l, rfl⟩ : ∃ l, h' = l + 1 := ⟨h' - 1, by omega⟩
  have HG : Hid (w.grownBy w2 (some gt)) := World.grownBy.trans (World.grownBy.trans (grown_drewN w q _) (grown_setC _ gt 2 _)) p5
  have hh5 := T2.h5
  obtain ⟨top, x0, x1, x2, IH⟩ := puts_tail gt (l + 1) k v (n + 1) M w2 l rfl T2 p3 hk
  have HIH : Hid _ := IH
  have HP : Hid _ := And.intro p1 (And.intro p3 p4)
  have dl : IntKind.i64.wrap (l : Int) = (l : Int) := by rw [IntKind.wrap_i64]; omega
  obtain ⟨TP, hTP⟩ : ∃ TP, ptr top = TP := ⟨_, rfl⟩
  rw [hTP] at x0
  have HTP : Hid _ := hTP
  clear IH T2 p1 p2 p3 p4 p5 hTP HT HM HA
  refine wp_region_held_drew (S := (fun x => x.cell? ⟨gt, 1, none⟩ = some (.int .i64 ((l : Int) + 1)))) (by kernel_rfl) (x1) (fun hHeld => ?_)
  refine wpAnyH_take (i := 0) (oi := { dst := some 27, op := Op.move (Operand.tmp 0), type := 24, pos := "tnode.go:29", after := #[], guard := none }) (v := ?v0p) rfl (by kernel_rfl) (by kernel_rfl) (by kernel_rfl) (fun _ _ _ h => h) (Or.inl ⟨by rfl, ?y0p⟩) (by assumption) ?r0p
  case y0p => (intro x hx; (try dsimp only at hx); go_simp; try with_reducible rfl)
  try simp only [Act.put, List.setIfInBounds_toArray, List.set_cons_zero, List.set_cons_succ]
  refine wpAnyH_take (i := 1) (oi := { dst := some 28, op := Op.move (Operand.tmp 0), type := 24, pos := "tnode.go:29", after := #[], guard := none }) (v := ?v1p) rfl (by kernel_rfl) (by kernel_rfl) (by kernel_rfl) (fun _ _ _ h => h) (Or.inl ⟨by rfl, ?y1p⟩) (by assumption) ?r1p
  case y1p => (intro x hx; (try dsimp only at hx); go_simp; try with_reducible rfl)
  try simp only [Act.put, List.setIfInBounds_toArray, List.set_cons_zero, List.set_cons_succ]
  refine wpAnyH_take (i := 2) (oi := { dst := some 29, op := Op.nilCheck (Operand.tmp 28), type := 0, pos := "tnode.go:29", after := #[{ on := 1, ground := Ground.data }], guard := none }) (v := ?v2p) rfl (by kernel_rfl) (by kernel_rfl) (by kernel_rfl) (fun _ _ _ h => h) (Or.inl ⟨by rfl, ?y2p⟩) (by assumption) ?r2p
  case y2p => (intro x hx; (try dsimp only at hx); go_simp; try with_reducible rfl)
  try simp only [Act.put, List.setIfInBounds_toArray, List.set_cons_zero, List.set_cons_succ]
  refine wpAnyH_take (i := 3) (oi := { dst := some 30, op := Op.fieldAddr 72 (Operand.tmp 29) 0, type := 0, pos := "tnode.go:29", after := #[{ on := 2, ground := Ground.data }], guard := none }) (v := ?v3p) rfl (by kernel_rfl) (by kernel_rfl) (by kernel_rfl) (fun _ _ _ h => h) (Or.inl ⟨by rfl, ?y3p⟩) (by assumption) ?r3p
  case y3p => (intro x hx; (try dsimp only at hx); go_simp; try with_reducible rfl)
  try simp only [Act.put, List.setIfInBounds_toArray, List.set_cons_zero, List.set_cons_succ]
  refine wpAnyH_take (i := 5) (oi := { dst := some 32, op := Op.move (Operand.tmp 0), type := 24, pos := "tnode.go:29", after := #[], guard := none }) (v := ?v5p) rfl (by kernel_rfl) (by kernel_rfl) (by kernel_rfl) (fun _ _ _ h => h) (Or.inl ⟨by rfl, ?y5p⟩) (by assumption) ?r5p
  case y5p => (intro x hx; (try dsimp only at hx); go_simp; try with_reducible rfl)
  try simp only [Act.put, List.setIfInBounds_toArray, List.set_cons_zero, List.set_cons_succ]
  refine wpAnyH_take (i := 6) (oi := { dst := some 33, op := Op.nilCheck (Operand.tmp 32), type := 0, pos := "tnode.go:29", after := #[{ on := 5, ground := Ground.data }], guard := none }) (v := ?v6p) rfl (by kernel_rfl) (by kernel_rfl) (by kernel_rfl) (fun _ _ _ h => h) (Or.inl ⟨by rfl, ?y6p⟩) (by assumption) ?r6p
  case y6p => (intro x hx; (try dsimp only at hx); go_simp; try with_reducible rfl)
  try simp only [Act.put, List.setIfInBounds_toArray, List.set_cons_zero, List.set_cons_succ]
  refine wpAnyH_take (i := 7) (oi := { dst := some 34, op := Op.fieldAddr 72 (Operand.tmp 33) 1, type := 0, pos := "tnode.go:29", after := #[{ on := 6, ground := Ground.data }], guard := none }) (v := ?v7p) rfl (by kernel_rfl) (by kernel_rfl) (by kernel_rfl) (fun _ _ _ h => h) (Or.inl ⟨by rfl, ?y7p⟩) (by assumption) ?r7p
  case y7p => (intro x hx; (try dsimp only at hx); go_simp; try with_reducible rfl)
  try simp only [Act.put, List.setIfInBounds_toArray, List.set_cons_zero, List.set_cons_succ]
  refine wpAnyH_take (i := 8) (oi := { dst := some 35, op := Op.load 3 (Operand.tmp 34), type := 3, pos := "tnode.go:29", after := #[{ on := 7, ground := Ground.data }], guard := none }) (v := ?v8p) rfl (by kernel_rfl) (by kernel_rfl) (by kernel_rfl) (fun _ _ _ h => h) (Or.inl ⟨by rfl, ?y8p⟩) (by assumption) ?r8p
  case y8p => (intro x hx; (try dsimp only at hx); go_simp; try with_reducible rfl)
  try simp only [Act.put, List.setIfInBounds_toArray, List.set_cons_zero, List.set_cons_succ]
  refine wpAnyH_take (i := 9) (oi := { dst := some 36, op := Op.binOp BinOp.sub 3 (Operand.tmp 35) (Operand.const (Value.int IntKind.i64 1)) 3, type := 3, pos := "tnode.go:29", after := #[{ on := 8, ground := Ground.data }], guard := none }) (v := ?v9p) rfl (by kernel_rfl) (by kernel_rfl) (by kernel_rfl) (fun _ _ _ h => h) (Or.inl ⟨by rfl, ?y9p⟩) (by assumption) ?r9p
  case y9p => (intro x hx; (try dsimp only at hx); go_simp; try with_reducible rfl)
  try simp only [Act.put, List.setIfInBounds_toArray, List.set_cons_zero, List.set_cons_succ]
  refine wpAnyH_take (i := 10) (oi := { dst := some 37, op := Op.move (Operand.tmp 1), type := 3, pos := "tnode.go:29", after := #[], guard := none }) (v := ?v10p) rfl (by kernel_rfl) (by kernel_rfl) (by kernel_rfl) (fun _ _ _ h => h) (Or.inl ⟨by rfl, ?y10p⟩) (by assumption) ?r10p
  case y10p => (intro x hx; (try dsimp only at hx); go_simp; try with_reducible rfl)
  try simp only [Act.put, List.setIfInBounds_toArray, List.set_cons_zero, List.set_cons_succ]
  refine wpAnyH_take (i := 11) (oi := { dst := some 38, op := Op.move (Operand.tmp 2), type := 3, pos := "tnode.go:29", after := #[], guard := none }) (v := ?v11p) rfl (by kernel_rfl) (by kernel_rfl) (by kernel_rfl) (fun _ _ _ h => h) (Or.inl ⟨by rfl, ?y11p⟩) (by assumption) ?r11p
  case y11p => (intro x hx; (try dsimp only at hx); go_simp; try with_reducible rfl)
  try simp only [Act.put, List.setIfInBounds_toArray, List.set_cons_zero, List.set_cons_succ]
  refine wpAnyH_ready (rs := [4]) (by kernel_rfl) (by simp) ?_
  refine AllReadyH.cons (o := { dst := some 31, op := Op.load 70 (Operand.tmp 30), type := 70, pos := "tnode.go:29", after := #[{ on := 3, ground := Ground.data }], guard := none }) rfl (fun K hK => ?_) AllReadyH.nil
  go_simp
  go_wp2_with fail
  refine hK.out _ _ hHeld (fun hHeld4 => ?_)
  clear hK K
  clear hHeld4
  try simp only [Act.put, List.setIfInBounds_toArray, List.set_cons_zero, List.set_cons_succ]
  refine wpAnyH_ready (rs := [12]) (by kernel_rfl) (by simp) ?_
  refine AllReadyH.cons (o := { dst := some 39, op := Op.call { callee := Callee.value (Operand.func 38), args := #[Operand.tmp 31, Operand.tmp 36, Operand.tmp 37, Operand.tmp 38], argTypes := #[70, 3, 3, 3] }, type := 70, pos := "tnode.go:29", after := #[{ on := 4, ground := Ground.data }, { on := 9, ground := Ground.data }, { on := 10, ground := Ground.data }, { on := 11, ground := Ground.data }], guard := none }) rfl (fun K hK => ?_) AllReadyH.nil
  go_simp
  try rw [dl]
  go_at_call 38
  rw [← HTP.out]
  refine Calls.mono HIH.out ?_
  rintro e w3 ⟨g, rfl, q1, T3, y1, y2, y, y3⟩
  have T3H : Hid _ := T3
  have G3 : Hid (w.grownBy w3 (some gt)) := World.grownBy.trans HG.out (grown_mono q1 _)
  clear T3 q1 x0 x1 x2
  have hSnew := y1
  go_wp2_with fail
  refine hK.out _ _ hSnew (fun hHeld12 => ?_)
  clear hK K hSnew
  clear hHeld
  have hHeld := hHeld12
  clear hHeld12
  try simp only [Act.put, List.setIfInBounds_toArray, List.set_cons_zero, List.set_cons_succ]
  refine wpAnyH_take (i := 13) (oi := { dst := some 40, op := Op.nilCheck (Operand.tmp 27), type := 0, pos := "tnode.go:29", after := #[{ on := 0, ground := Ground.data }, { on := 0, ground := Ground.phase }, { on := 1, ground := Ground.phase }, { on := 2, ground := Ground.phase }, { on := 3, ground := Ground.phase }, { on := 4, ground := Ground.phase }, { on := 5, ground := Ground.phase }, { on := 6, ground := Ground.phase }, { on := 7, ground := Ground.phase }, { on := 8, ground := Ground.phase }, { on := 9, ground := Ground.phase }, { on := 10, ground := Ground.phase }, { on := 11, ground := Ground.phase }, { on := 12, ground := Ground.phase }], guard := none }) (v := ?v13p) rfl (by kernel_rfl) (by kernel_rfl) (by kernel_rfl) (fun _ _ _ h => h) (Or.inl ⟨by rfl, ?y13p⟩) (by assumption) ?r13p
  case y13p => (intro x hx; (try dsimp only at hx); go_simp; try with_reducible rfl)
  try simp only [Act.put, List.setIfInBounds_toArray, List.set_cons_zero, List.set_cons_succ]
  refine wpAnyH_take (i := 14) (oi := { dst := some 41, op := Op.fieldAddr 72 (Operand.tmp 40) 0, type := 0, pos := "tnode.go:29", after := #[{ on := 13, ground := Ground.data }, { on := 0, ground := Ground.phase }, { on := 1, ground := Ground.phase }, { on := 2, ground := Ground.phase }, { on := 3, ground := Ground.phase }, { on := 4, ground := Ground.phase }, { on := 5, ground := Ground.phase }, { on := 6, ground := Ground.phase }, { on := 7, ground := Ground.phase }, { on := 8, ground := Ground.phase }, { on := 9, ground := Ground.phase }, { on := 10, ground := Ground.phase }, { on := 11, ground := Ground.phase }, { on := 12, ground := Ground.phase }], guard := none }) (v := ?v14p) rfl (by kernel_rfl) (by kernel_rfl) (by kernel_rfl) (fun _ _ _ h => h) (Or.inl ⟨by rfl, ?y14p⟩) (by assumption) ?r14p
  case y14p => (intro x hx; (try dsimp only at hx); go_simp; try with_reducible rfl)
  try simp only [Act.put, List.setIfInBounds_toArray, List.set_cons_zero, List.set_cons_succ]
  refine wpAnyH_ready (rs := [15]) (by kernel_rfl) (by simp) ?_
  refine AllReadyH.cons (o := { dst := none, op := Op.store 70 (Operand.tmp 41) (Operand.tmp 39), type := 0, pos := "tnode.go:29", after := #[{ on := 14, ground := Ground.data }, { on := 12, ground := Ground.data }, { on := 12, ground := Ground.chain }, { on := 0, ground := Ground.phase }, { on := 1, ground := Ground.phase }, { on := 2, ground := Ground.phase }, { on := 3, ground := Ground.phase }, { on := 4, ground := Ground.phase }, { on := 5, ground := Ground.phase }, { on := 6, ground := Ground.phase }, { on := 7, ground := Ground.phase }, { on := 8, ground := Ground.phase }, { on := 9, ground := Ground.phase }, { on := 10, ground := Ground.phase }, { on := 11, ground := Ground.phase }, { on := 12, ground := Ground.phase }], guard := none }) rfl (fun K hK => ?_) AllReadyH.nil
  go_simp
  have hSnew : (w3.setCell ⟨gt, 0, none⟩ (.pointer (some ⟨g, 0, none⟩))).cell? ⟨gt, 1, none⟩ = some (.int .i64 ((l : Int) + 1)) := by
    obtain ⟨top3, hb3, _, _⟩ := T3H.out.blk
    rw [cell_of_row _ _ 1 _ 72 (0, 0) hb3, Int.natCast_add]
    rfl
  go_wp2_with fail
  refine hK.out _ _ hSnew (fun hHeld15 => ?_)
  clear hK K hSnew
  clear hHeld
  have hHeld := hHeld15
  clear hHeld15
  try simp only [Act.put, List.setIfInBounds_toArray, List.set_cons_zero, List.set_cons_succ]
  refine wpAnyH_done (by kernel_rfl) ?_ _
  go_wp2
  go_ret
  exact ⟨l + 1, rfl, T3H.out, HP.out.1, by omega, HP.out.2.1, HP.out.2.2, World.grownBy.trans G3.out (grown_setC _ _ _ _)⟩
end Go.Proofs.Ytjginocbbnmgaaa
