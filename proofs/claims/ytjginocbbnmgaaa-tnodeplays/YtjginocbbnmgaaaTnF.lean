/-
  SEAT Ytjginocbbnmgaaa: seek.
-/
import Derived.Test.YtjginocbbnmgaaaTnE
namespace Go.Proofs.Ytjginocbbnmgaaa
open Go.RowKit
set_option linter.unusedVariables false
variable {bx : Nat}
/-- What is left out of a tree: its own box, and one more. -/
abbrev Eg (gt bx : Nat) : Nat → Prop := fun i => i = gt ∨ i = bx

theorem node_below {H : Nat → Option Obj} {l g : Nat} {M : Mp} (h : NodeOn H (l + 1) (some g) M) (k : Nat) : ∃ cs b, H g = some (.cells cs 96 (0, 0)) ∧ cs[dig k (l + 1)]? = some (ptr b) ∧ NodeOn H l b (sub M (spn (l + 1)) (dig k (l + 1))) := by
  obtain ⟨bs, h1, h2, h3, h4⟩ := h
  have hD := dig_lt k (l + 1)
  refine ⟨_, bs.getD (dig k (l + 1)) none, h2, ?_, h3 _ hD⟩
  rw [List.getElem?_toArray, List.getElem?_append_left (by simp; omega), List.getElem?_map, List.getD_eq_getElem?_getD, List.getElem?_eq_getElem (by omega)]
  rfl
theorem node_thing {H : Nat → Option Obj} {g : Nat} {M : Mp} (h : NodeOn H 0 (some g) M) (k : Nat) : ∃ cs t, H g = some (.cells cs 96 (0, 0)) ∧ cs[16 + dig k 0]? = some (ptr t) ∧ ThingOn H t (M (k % spn 1)) := by
  obtain ⟨ts, h1, h2, h3, h4⟩ := h
  have hD := dig_lt k 0
  have hd : k % spn 1 = dig k 0 := by unfold dig spn; simp
  refine ⟨_, ts.getD (dig k 0) none, h2, ?_, by rw [hd]; exact h3 _ hD⟩
  rw [List.getElem?_toArray, List.getElem?_append_right (by simp), List.length_replicate, Nat.add_sub_cancel_left, List.getElem?_map, List.getD_eq_getElem?_getD, List.getElem?_eq_getElem (by omega)]
  rfl
theorem sub_key (M : Mp) (k l : Nat) : sub M (spn (l + 1)) (dig k (l + 1)) (k % spn (l + 1)) = M (k % spn (l + 2)) := by
  unfold sub
  have h1 : k % spn (l + 2) / spn (l + 1) = dig k (l + 1) := dig_top k (l + 1)
  have h2 : k % spn (l + 2) % spn (l + 1) = k % spn (l + 1) := mod_mod k (l + 1)
  rw [← h1, ← h2, Nat.mul_comm, Nat.div_add_mod]
theorem ptr_cases (o : Option Nat) : o = none ∧ ptr o = .pointer none ∨ ∃ g, o = some g ∧ ptr o = .pointer (some ⟨g, 0, none⟩) := by
  cases o with
  | none => exact Or.inl ⟨rfl, rfl⟩
  | some g => exact Or.inr ⟨g, rfl, rfl⟩
theorem dig_le5 (h : Nat) (h5 : h ≤ 5) : spn h ≤ 1048576 := by
  have : h = 0 ∨ h = 1 ∨ h = 2 ∨ h = 3 ∨ h = 4 ∨ h = 5 := by omega
  rcases this with rfl | rfl | rfl | rfl | rfl | rfl <;> decide

set_option maxHeartbeats 2000000 in
set_option maxRecDepth 100000 in
theorem seek_in (gt h k : Nat) (top : Option Nat) (n : Int) (M : Mp) (w : World) (hb : w.heap[gt]? = some (.cells #[ptr top, .int .i64 (h : Int), .int .i64 n] 72 (0, 0))) (l : Nat) (hh : h = l + 1) (h5 : h ≤ 5) (hk : k < spn h) (hN : NodeOn (seenH w (Eg gt bx)) l top M) :
    Calls Try.prog 36 #[.pointer (some ⟨gt, 0, none⟩), .int .i64 (k : Int)] w fun e w' => ∃ t, e = .returned (ptr t) ∧ ThingOn (seenH w (Eg gt bx)) t (M k) ∧ ∃ q, w' = w.drewN q := by
  have hk5 : k < 1048576 := Nat.lt_of_lt_of_le hk (dig_le5 h h5)
  have c0 : w.cell? ⟨gt, 0, none⟩ = some (ptr top) := by rw [cell_of_row _ _ 0 _ 72 (0, 0) hb]; rfl
  have c1 : w.cell? ⟨gt, 1, none⟩ = some (.int .i64 (h : Int)) := by rw [cell_of_row _ _ 1 _ 72 (0, 0) hb]; rfl
  obtain ⟨T0, hT0⟩ : ∃ T0, ptr top = T0 := ⟨_, rfl⟩
  rw [hT0] at c0
  have HT0 : Hid _ := hT0
  have HN : Hid _ := hN
  have hkk : k % spn (l + 1) = k := Nat.mod_eq_of_lt (by rw [← hh]; exact hk)
  have HKK : Hid _ := hkk
  obtain ⟨SP, hSP⟩ : ∃ SP, spn h = SP := ⟨_, rfl⟩
  have HSP : Hid _ := hSP
  rw [hSP] at hk
  have dk1 : ¬ ((k : Int) < 0) := by omega
  have dk2 : ¬ ((SP : Int) ≤ (k : Int)) := by omega
  have dk3 : decide (SP ≤ k) = false := decide_eq_false (by omega)
  have dk4 : decide ((SP : Int) ≤ (k : Int)) = false := decide_eq_false (by omega)
  have dl : (h : Int) - 1 = (l : Int) := by omega
  have HHL : Hid _ := hh
  clear hb hT0 hN hkk hSP hh
  go_enter Try.func36, Try.ntmps36
  go_wp2_with (first
    | (go_at_call 54; refine (span_any h _ h5).mono ?_; rintro e u ⟨rfl, rfl⟩; rw [HSP.out]))
  go_loopw [5, 6] (fun s5 s6 wr => ∃ (lev : Nat) (o' : Option Nat) (M' : Mp), lev ≤ 4 ∧ s6 = .int .i64 (lev : Int) ∧ (o' = none ∧ s5 = .pointer none ∨ ∃ g, o' = some g ∧ s5 = .pointer (some ⟨g, 0, none⟩)) ∧ Hid (NodeOn (seenH w (Eg gt bx)) lev o' M') ∧ Hid (M' (k % spn (lev + 1)) = M k) ∧ ∃ q, wr = w.drewN q)
    (fun _ i _ => (intOf i).toNat)
  case atStart => exact ⟨l, top, M, by have := HHL.out; omega, by first | rfl | (congr 1; omega), by rw [← HT0.out]; exact ptr_cases top, HN, by unfold Hid; rw [HKK.out], 0, rfl⟩
  case round =>
    obtain ⟨lev, o', M', hlev, rfl, hps, HN', HM', q, rfl⟩ := hrel
    rcases hps with ⟨rfl, rfl⟩ | ⟨g, rfl, rfl⟩
    · have hv : M k = none := by rw [← HM'.out]; exact (NodeOn.isVoid HN'.out) _ (Nat.mod_lt _ (spn_pos _))
      have HV : Hid _ := hv
      clear hv
      by_cases hz : lev = 0
      · subst hz
        go_wp2
        go_ret
        exact ⟨none, rfl, by rw [HV.out]; trivial, _, rfl⟩
      · have dz : (0 : Int) < lev := by omega
        go_wp2
        go_ret
        exact ⟨none, rfl, by rw [HV.out]; trivial, _, rfl⟩
    · cases lev with
      | zero =>
        obtain ⟨cs, t, z1, z2, z3⟩ := node_thing HN'.out k
        obtain ⟨_, z4⟩ := seen_block z1
        have hD := dig_lt k 0
        obtain ⟨D, hDD⟩ : ∃ D, dig k 0 = D := ⟨_, rfl⟩
        rw [hDD] at z2 hD
        have HD : Hid _ := hDD
        have HZ3 : Hid (ThingOn (seenH w (Eg gt bx)) t (M k)) := by unfold Hid; rw [← HM'.out]; exact z3
        have x0 : w.cell? ⟨g, 16 + D, none⟩ = some (ptr t) := by rw [cell_of_row _ _ (16 + D) cs 96 (0, 0) z4]; exact z2
        obtain ⟨TP, hTP⟩ : ∃ TP, ptr t = TP := ⟨_, rfl⟩
        rw [hTP] at x0
        have HTP : Hid _ := hTP
        have dD : (D : Int) < 16 := by omega
        clear z1 z2 z3 z4 hDD hTP
        go_upto_region 10 with fail
        refine wp_region_held_drew (S := (fun x => x.cell? ⟨g, 16 + D, none⟩ = some TP)) (by kernel_rfl) (x0) (fun hHeld => ?_)
        refine wpAnyH_take (i := 0) (oi := { dst := some 45, op := Op.move (Operand.tmp 5), type := 70, pos := "tnode.go:64", after := #[], guard := none }) (v := ?v0p) rfl (by kernel_rfl) (by kernel_rfl) (by kernel_rfl) (fun _ _ _ h => h) (Or.inl ⟨by rfl, ?y0p⟩) (by assumption) ?r0p
        case y0p => (intro x hx; (try dsimp only at hx); go_simp; try with_reducible rfl)
        try simp only [Act.put, List.setIfInBounds_toArray, List.set_cons_zero, List.set_cons_succ]
        refine wpAnyH_take (i := 1) (oi := { dst := some 46, op := Op.move (Operand.tmp 1), type := 3, pos := "tnode.go:64", after := #[], guard := none }) (v := ?v1p) rfl (by kernel_rfl) (by kernel_rfl) (by kernel_rfl) (fun _ _ _ h => h) (Or.inl ⟨by rfl, ?y1p⟩) (by assumption) ?r1p
        case y1p => (intro x hx; (try dsimp only at hx); go_simp; try with_reducible rfl)
        try simp only [Act.put, List.setIfInBounds_toArray, List.set_cons_zero, List.set_cons_succ]
        refine wpAnyH_take (i := 3) (oi := { dst := some 48, op := Op.nilCheck (Operand.tmp 45), type := 0, pos := "tnode.go:64", after := #[{ on := 0, ground := Ground.data }], guard := none }) (v := ?v3p) rfl (by kernel_rfl) (by kernel_rfl) (by kernel_rfl) (fun _ _ _ h => h) (Or.inl ⟨by rfl, ?y3p⟩) (by assumption) ?r3p
        case y3p => (intro x hx; (try dsimp only at hx); go_simp; try with_reducible rfl)
        try simp only [Act.put, List.setIfInBounds_toArray, List.set_cons_zero, List.set_cons_succ]
        refine wpAnyH_take (i := 4) (oi := { dst := some 49, op := Op.fieldAddr 96 (Operand.tmp 48) 1, type := 0, pos := "tnode.go:64", after := #[{ on := 3, ground := Ground.data }], guard := none }) (v := ?v4p) rfl (by kernel_rfl) (by kernel_rfl) (by kernel_rfl) (fun _ _ _ h => h) (Or.inl ⟨by rfl, ?y4p⟩) (by assumption) ?r4p
        case y4p => (intro x hx; (try dsimp only at hx); go_simp; try with_reducible rfl)
        try simp only [Act.put, List.setIfInBounds_toArray, List.set_cons_zero, List.set_cons_succ]
        refine wpAnyH_ready (rs := [2]) (by kernel_rfl) (by simp) ?_
        refine AllReadyH.cons (o := { dst := some 47, op := Op.call { callee := Callee.value (Operand.func 55), args := #[Operand.tmp 46, Operand.const (Value.int IntKind.i64 0)], argTypes := #[3, 3] }, type := 3, pos := "tnode.go:64", after := #[{ on := 1, ground := Ground.data }], guard := none }) rfl (fun K hK => ?_) AllReadyH.nil
        go_simp
        go_at_call 55
        refine (digit_any k 0 _ (by omega) hk5).mono ?_
        rintro e u ⟨rfl, rfl⟩
        rw [HD.out]
        have hSnew := x0
        go_wp2_with fail
        refine hK.out _ _ hSnew (fun hHeld2 => ?_)
        clear hK K hSnew
        clear hHeld
        have hHeld := hHeld2
        clear hHeld2
        try simp only [Act.put, List.setIfInBounds_toArray, List.set_cons_zero, List.set_cons_succ]
        refine wpAnyH_take (i := 5) (oi := { dst := some 50, op := Op.indexAddr 94 (Operand.tmp 49) (Operand.tmp 47), type := 0, pos := "tnode.go:64", after := #[{ on := 4, ground := Ground.data }, { on := 2, ground := Ground.data }], guard := none }) (v := ?v5p) rfl (by kernel_rfl) (by kernel_rfl) (by kernel_rfl) (fun _ _ _ h => h) (Or.inl ⟨by rfl, ?y5p⟩) (by assumption) ?r5p
        case y5p => (intro x hx; (try dsimp only at hx); go_simp; try with_reducible rfl)
        try simp only [Act.put, List.setIfInBounds_toArray, List.set_cons_zero, List.set_cons_succ]
        refine wpAnyH_take (i := 6) (oi := { dst := some 51, op := Op.load 73 (Operand.tmp 50), type := 73, pos := "tnode.go:64", after := #[{ on := 5, ground := Ground.data }], guard := none }) (v := ?v6p) rfl (by kernel_rfl) (by kernel_rfl) (by kernel_rfl) (fun _ _ _ h => h) (Or.inl ⟨by rfl, ?y6p⟩) (by assumption) ?r6p
        case y6p => (intro x hx; (try dsimp only at hx); go_simp; try with_reducible rfl)
        try simp only [Act.put, List.setIfInBounds_toArray, List.set_cons_zero, List.set_cons_succ]
        refine wpAnyH_take (i := 7) (oi := { dst := some 4, op := Op.assign (Operand.tmp 51), type := 73, pos := "tnode.go:64", after := #[{ on := 6, ground := Ground.data }, { on := 2, ground := Ground.chain }, { on := 0, ground := Ground.phase }, { on := 1, ground := Ground.phase }, { on := 2, ground := Ground.phase }, { on := 3, ground := Ground.phase }, { on := 4, ground := Ground.phase }, { on := 5, ground := Ground.phase }, { on := 6, ground := Ground.phase }], guard := none }) (v := ?v7p) rfl (by kernel_rfl) (by kernel_rfl) (by kernel_rfl) (fun _ _ _ h => h) (Or.inl ⟨by rfl, ?y7p⟩) (by assumption) ?r7p
        case y7p => (intro x hx; (try dsimp only at hx); go_simp; try with_reducible rfl)
        try simp only [Act.put, List.setIfInBounds_toArray, List.set_cons_zero, List.set_cons_succ]
        refine wpAnyH_done (by kernel_rfl) ?_ _
        go_wp2
        go_ret
        exact ⟨t, by rw [HTP.out]; rfl, HZ3.out, _, rfl⟩
      | succ lev =>
        obtain ⟨cs, b, z1, z2, z3⟩ := node_below HN'.out k
        obtain ⟨_, z4⟩ := seen_block z1
        have hD := dig_lt k (lev + 1)
        obtain ⟨D, hDD⟩ : ∃ D, dig k (lev + 1) = D := ⟨_, rfl⟩
        rw [hDD] at z2 z3 hD
        have HD : Hid _ := hDD
        have HZ3 : Hid _ := z3
        have HM2 : Hid (sub M' (spn (lev + 1)) D (k % spn (lev + 1)) = M k) := by unfold Hid; rw [← hDD, sub_key]; exact HM'.out
        have x0 : w.cell? ⟨g, D, none⟩ = some (ptr b) := by rw [cell_of_row _ _ D cs 96 (0, 0) z4]; exact z2
        obtain ⟨TP, hTP⟩ : ∃ TP, ptr b = TP := ⟨_, rfl⟩
        rw [hTP] at x0
        have HTP : Hid _ := hTP
        have dD : (D : Int) < 16 := by omega
        have dz : (0 : Int) < ((lev + 1 : Nat) : Int) := by omega
        clear z1 z2 z3 z4 hDD hTP
        go_upto_region 7 with fail
        refine wp_region_held_drew (S := (fun x => x.cell? ⟨g, D, none⟩ = some TP)) (by kernel_rfl) (x0) (fun hHeld => ?_)
        refine wpAnyH_take (i := 0) (oi := { dst := some 35, op := Op.move (Operand.tmp 5), type := 70, pos := "tnode.go:59", after := #[], guard := none }) (v := ?v0r) rfl (by kernel_rfl) (by kernel_rfl) (by kernel_rfl) (fun _ _ _ h => h) (Or.inl ⟨by rfl, ?y0r⟩) (by assumption) ?r0r
        case y0r => (intro x hx; (try dsimp only at hx); go_simp; try with_reducible rfl)
        try simp only [Act.put, List.setIfInBounds_toArray, List.set_cons_zero, List.set_cons_succ]
        refine wpAnyH_take (i := 1) (oi := { dst := some 36, op := Op.move (Operand.tmp 1), type := 3, pos := "tnode.go:59", after := #[], guard := none }) (v := ?v1r) rfl (by kernel_rfl) (by kernel_rfl) (by kernel_rfl) (fun _ _ _ h => h) (Or.inl ⟨by rfl, ?y1r⟩) (by assumption) ?r1r
        case y1r => (intro x hx; (try dsimp only at hx); go_simp; try with_reducible rfl)
        try simp only [Act.put, List.setIfInBounds_toArray, List.set_cons_zero, List.set_cons_succ]
        refine wpAnyH_take (i := 2) (oi := { dst := some 37, op := Op.move (Operand.tmp 6), type := 3, pos := "tnode.go:59", after := #[], guard := none }) (v := ?v2r) rfl (by kernel_rfl) (by kernel_rfl) (by kernel_rfl) (fun _ _ _ h => h) (Or.inl ⟨by rfl, ?y2r⟩) (by assumption) ?r2r
        case y2r => (intro x hx; (try dsimp only at hx); go_simp; try with_reducible rfl)
        try simp only [Act.put, List.setIfInBounds_toArray, List.set_cons_zero, List.set_cons_succ]
        refine wpAnyH_take (i := 4) (oi := { dst := some 39, op := Op.nilCheck (Operand.tmp 35), type := 0, pos := "tnode.go:59", after := #[{ on := 0, ground := Ground.data }], guard := none }) (v := ?v4r) rfl (by kernel_rfl) (by kernel_rfl) (by kernel_rfl) (fun _ _ _ h => h) (Or.inl ⟨by rfl, ?y4r⟩) (by assumption) ?r4r
        case y4r => (intro x hx; (try dsimp only at hx); go_simp; try with_reducible rfl)
        try simp only [Act.put, List.setIfInBounds_toArray, List.set_cons_zero, List.set_cons_succ]
        refine wpAnyH_take (i := 5) (oi := { dst := some 40, op := Op.fieldAddr 96 (Operand.tmp 39) 0, type := 0, pos := "tnode.go:59", after := #[{ on := 4, ground := Ground.data }], guard := none }) (v := ?v5r) rfl (by kernel_rfl) (by kernel_rfl) (by kernel_rfl) (fun _ _ _ h => h) (Or.inl ⟨by rfl, ?y5r⟩) (by assumption) ?r5r
        case y5r => (intro x hx; (try dsimp only at hx); go_simp; try with_reducible rfl)
        try simp only [Act.put, List.setIfInBounds_toArray, List.set_cons_zero, List.set_cons_succ]
        refine wpAnyH_ready (rs := [3]) (by kernel_rfl) (by simp) ?_
        refine AllReadyH.cons (o := { dst := some 38, op := Op.call { callee := Callee.value (Operand.func 55), args := #[Operand.tmp 36, Operand.tmp 37], argTypes := #[3, 3] }, type := 3, pos := "tnode.go:59", after := #[{ on := 1, ground := Ground.data }, { on := 2, ground := Ground.data }], guard := none }) rfl (fun K hK => ?_) AllReadyH.nil
        go_simp
        go_at_call 55
        refine (digit_any k (lev + 1) _ hlev hk5).mono ?_
        rintro e u ⟨rfl, rfl⟩
        rw [HD.out]
        have hSnew := x0
        go_wp2_with fail
        refine hK.out _ _ hSnew (fun hHeld3 => ?_)
        clear hK K hSnew
        clear hHeld
        have hHeld := hHeld3
        clear hHeld3
        try simp only [Act.put, List.setIfInBounds_toArray, List.set_cons_zero, List.set_cons_succ]
        refine wpAnyH_take (i := 6) (oi := { dst := some 41, op := Op.indexAddr 93 (Operand.tmp 40) (Operand.tmp 38), type := 0, pos := "tnode.go:59", after := #[{ on := 5, ground := Ground.data }, { on := 3, ground := Ground.data }], guard := none }) (v := ?v6r) rfl (by kernel_rfl) (by kernel_rfl) (by kernel_rfl) (fun _ _ _ h => h) (Or.inl ⟨by rfl, ?y6r⟩) (by assumption) ?r6r
        case y6r => (intro x hx; (try dsimp only at hx); go_simp; try with_reducible rfl)
        try simp only [Act.put, List.setIfInBounds_toArray, List.set_cons_zero, List.set_cons_succ]
        refine wpAnyH_take (i := 7) (oi := { dst := some 42, op := Op.load 70 (Operand.tmp 41), type := 70, pos := "tnode.go:59", after := #[{ on := 6, ground := Ground.data }], guard := none }) (v := ?v7r) rfl (by kernel_rfl) (by kernel_rfl) (by kernel_rfl) (fun _ _ _ h => h) (Or.inl ⟨by rfl, ?y7r⟩) (by assumption) ?r7r
        case y7r => (intro x hx; (try dsimp only at hx); go_simp; try with_reducible rfl)
        try simp only [Act.put, List.setIfInBounds_toArray, List.set_cons_zero, List.set_cons_succ]
        refine wpAnyH_take (i := 8) (oi := { dst := some 5, op := Op.assign (Operand.tmp 42), type := 70, pos := "tnode.go:59", after := #[{ on := 7, ground := Ground.data }, { on := 3, ground := Ground.chain }, { on := 0, ground := Ground.phase }, { on := 1, ground := Ground.phase }, { on := 2, ground := Ground.phase }, { on := 3, ground := Ground.phase }, { on := 4, ground := Ground.phase }, { on := 5, ground := Ground.phase }, { on := 6, ground := Ground.phase }, { on := 7, ground := Ground.phase }], guard := none }) (v := ?v8r) rfl (by kernel_rfl) (by kernel_rfl) (by kernel_rfl) (fun _ _ _ h => h) (Or.inl ⟨by rfl, ?y8r⟩) (by assumption) ?r8r
        case y8r => (intro x hx; (try dsimp only at hx); go_simp; try with_reducible rfl)
        try simp only [Act.put, List.setIfInBounds_toArray, List.set_cons_zero, List.set_cons_succ]
        refine wpAnyH_done (by kernel_rfl) ?_ _
        go_wp2
        go_roundw
        case rel => exact ⟨lev, b, sub M' (spn (lev + 1)) D, by omega, by first | rfl | (congr 1; omega) | simp, by rw [← HTP.out]; exact ptr_cases b, HZ3, HM2, _, rfl⟩
        case measure => simp [intOf]
end Go.Proofs.Ytjginocbbnmgaaa
