/-
  SEAT Ytjginocbbnmgaaa: the reference's tree: Get.
-/
import Derived.Test.YtjginocbbnmgaaaTpA
namespace Go.Proofs.Ytjginocbbnmgaaa
open Go.RowKit
set_option linter.unusedVariables false

set_option maxHeartbeats 4000000 in
set_option maxRecDepth 100000 in
theorem rget_any (gr : Nat) (k : Int) (v : Value) (L : List (Int × Int)) (W : World) (h : RefOn W gr v L) :
    Calls Try.prog 46 #[.pointer (some ⟨gr, 0, none⟩), .int .i64 k] W fun e w' => ∃ i, e = .returned (.tuple #[.int .i64 (if hasK L k i = true then (L.getD i (0, 0)).2 else 0), .bool (hasK L k i)]) ∧ PlaceIs L k i ∧ Below W.heap.size W w' := by
  have HHA : Hid _ := has_any gr k v L W h
  have HPL : Hid _ := place_any gr k v L W.drew h
  obtain ⟨a, cap, rfl, hc, hcl⟩ := ref_form h
  obtain ⟨N, hN⟩ : ∃ N, L.length = N := ⟨_, rfl⟩
  rw [hN] at hcl hc
  have HN : Hid _ := hN
  have HCL : Hid _ := hcl
  clear h hcl hN
  go_enter Try.func46, Try.ntmps46
  go_upto_region 2 with (first | (go_at_call 60; refine Calls.mono HHA.out ?_; rintro e u ⟨i, rfl, hp, rfl⟩; have HP : Hid _ := hp; obtain ⟨b, hb⟩ : ∃ b, hasK L k i = b := ⟨_, rfl⟩; rw [hb]; have HB : Hid _ := hb; clear hp hb; cases b))
  · go_wp2_with fail
    go_ret2
    exact ⟨i, by rw [HB.out]; rfl, HP.out, Below.refl _ _⟩
  · have hq := of_decide_eq_true HB.out
    obtain ⟨g, rfl, _, x1⟩ := HCL.out i (by rw [← HN.out]; exact hq.1)
    have dc : (i : Int) < (N : Int) := by have := hq.1; rw [HN.out] at this; omega
    obtain ⟨x, hx⟩ : ∃ x, (L.getD i (0, 0)).2 = x := ⟨_, rfl⟩
    rw [hx] at x1
    have HX : Hid _ := hx
    clear hx hq
    go_upto_region 3 with fail
    refine wp_region_held_drew (S := (fun z => z.cell? ⟨gr, 0, none⟩ = some (.slice (some ⟨g, 0, none⟩) N cap) ∧ z.cell? ⟨g, i * 2 + 1, none⟩ = some (.int .i64 x))) (by kernel_rfl) (⟨hc, x1⟩) (fun hHeld => ?_)
    refine wpAnyH_take (i := 0) (oi := { dst := some 10, op := Op.move (Operand.tmp 0), type := 59, pos := "tnode.go:64", after := #[], guard := none }) (v := ?v0p) rfl (by kernel_rfl) (by kernel_rfl) (by kernel_rfl) (fun _ _ _ h => h) (Or.inl ⟨by rfl, ?y0p⟩) (by assumption) ?r0p
    case y0p => (intro z hz; obtain ⟨hz0, hz1⟩ := hz; go_simp; try with_reducible rfl)
    try simp only [Act.put, List.setIfInBounds_toArray, List.set_cons_zero, List.set_cons_succ]
    refine wpAnyH_take (i := 1) (oi := { dst := some 11, op := Op.nilCheck (Operand.tmp 10), type := 0, pos := "tnode.go:64", after := #[{ on := 0, ground := Ground.data }], guard := none }) (v := ?v1p) rfl (by kernel_rfl) (by kernel_rfl) (by kernel_rfl) (fun _ _ _ h => h) (Or.inl ⟨by rfl, ?y1p⟩) (by assumption) ?r1p
    case y1p => (intro z hz; obtain ⟨hz0, hz1⟩ := hz; go_simp; try with_reducible rfl)
    try simp only [Act.put, List.setIfInBounds_toArray, List.set_cons_zero, List.set_cons_succ]
    refine wpAnyH_take (i := 2) (oi := { dst := some 12, op := Op.fieldAddr 61 (Operand.tmp 11) 0, type := 0, pos := "tnode.go:64", after := #[{ on := 1, ground := Ground.data }], guard := none }) (v := ?v2p) rfl (by kernel_rfl) (by kernel_rfl) (by kernel_rfl) (fun _ _ _ h => h) (Or.inl ⟨by rfl, ?y2p⟩) (by assumption) ?r2p
    case y2p => (intro z hz; obtain ⟨hz0, hz1⟩ := hz; go_simp; try with_reducible rfl)
    try simp only [Act.put, List.setIfInBounds_toArray, List.set_cons_zero, List.set_cons_succ]
    refine wpAnyH_take (i := 3) (oi := { dst := some 13, op := Op.load 28 (Operand.tmp 12), type := 28, pos := "tnode.go:64", after := #[{ on := 2, ground := Ground.data }], guard := none }) (v := ?v3p) rfl (by kernel_rfl) (by kernel_rfl) (by kernel_rfl) (fun _ _ _ h => h) (Or.inl ⟨by rfl, ?y3p⟩) (by assumption) ?r3p
    case y3p => (intro z hz; obtain ⟨hz0, hz1⟩ := hz; go_simp; try with_reducible rfl)
    try simp only [Act.put, List.setIfInBounds_toArray, List.set_cons_zero, List.set_cons_succ]
    refine wpAnyH_take (i := 4) (oi := { dst := some 14, op := Op.move (Operand.tmp 0), type := 59, pos := "tnode.go:64", after := #[], guard := none }) (v := ?v4p) rfl (by kernel_rfl) (by kernel_rfl) (by kernel_rfl) (fun _ _ _ h => h) (Or.inl ⟨by rfl, ?y4p⟩) (by assumption) ?r4p
    case y4p => (intro z hz; obtain ⟨hz0, hz1⟩ := hz; go_simp; try with_reducible rfl)
    try simp only [Act.put, List.setIfInBounds_toArray, List.set_cons_zero, List.set_cons_succ]
    refine wpAnyH_take (i := 5) (oi := { dst := some 15, op := Op.move (Operand.tmp 1), type := 3, pos := "tnode.go:64", after := #[], guard := none }) (v := ?v5p) rfl (by kernel_rfl) (by kernel_rfl) (by kernel_rfl) (fun _ _ _ h => h) (Or.inl ⟨by rfl, ?y5p⟩) (by assumption) ?r5p
    case y5p => (intro z hz; obtain ⟨hz0, hz1⟩ := hz; go_simp; try with_reducible rfl)
    try simp only [Act.put, List.setIfInBounds_toArray, List.set_cons_zero, List.set_cons_succ]
    refine wpAnyH_ready (rs := [6]) (by kernel_rfl) (by simp) ?_
    refine AllReadyH.cons (o := { dst := some 16, op := Op.call { callee := Callee.value (Operand.func 59), args := #[Operand.tmp 14, Operand.tmp 15], argTypes := #[59, 3] }, type := 3, pos := "tnode.go:64", after := #[{ on := 4, ground := Ground.data }, { on := 5, ground := Ground.data }], guard := none }) rfl (fun K hK => ?_) AllReadyH.nil
    go_simp
    go_at_call 59
    refine Calls.mono HPL.out ?_
    rintro e u ⟨i2, rfl, hp2, rfl⟩
    obtain rfl := PlaceIs.one hp2 HP.out
    clear hp2
    have hSnew := hHeld
    go_wp2_with fail
    refine hK.out _ _ hSnew (fun hHeld6 => ?_)
    clear hK K hSnew
    clear hHeld
    have hHeld := hHeld6
    clear hHeld6
    try simp only [Act.put, List.setIfInBounds_toArray, List.set_cons_zero, List.set_cons_succ]
    refine wpAnyH_take (i := 7) (oi := { dst := some 17, op := Op.indexAddr 28 (Operand.tmp 13) (Operand.tmp 16), type := 0, pos := "tnode.go:64", after := #[{ on := 3, ground := Ground.data }, { on := 6, ground := Ground.data }], guard := none }) (v := ?v7p) rfl (by kernel_rfl) (by kernel_rfl) (by kernel_rfl) (fun _ _ _ h => h) (Or.inl ⟨by rfl, ?y7p⟩) (by assumption) ?r7p
    case y7p => (intro z hz; obtain ⟨hz0, hz1⟩ := hz; go_simp; try with_reducible rfl)
    try simp only [Act.put, List.setIfInBounds_toArray, List.set_cons_zero, List.set_cons_succ]
    refine wpAnyH_take (i := 8) (oi := { dst := some 18, op := Op.fieldAddr 35 (Operand.tmp 17) 1, type := 0, pos := "tnode.go:64", after := #[{ on := 7, ground := Ground.data }], guard := none }) (v := ?v8p) rfl (by kernel_rfl) (by kernel_rfl) (by kernel_rfl) (fun _ _ _ h => h) (Or.inl ⟨by rfl, ?y8p⟩) (by assumption) ?r8p
    case y8p => (intro z hz; obtain ⟨hz0, hz1⟩ := hz; go_simp; try with_reducible rfl)
    try simp only [Act.put, List.setIfInBounds_toArray, List.set_cons_zero, List.set_cons_succ]
    refine wpAnyH_take (i := 9) (oi := { dst := some 19, op := Op.load 3 (Operand.tmp 18), type := 3, pos := "tnode.go:64", after := #[{ on := 8, ground := Ground.data }], guard := none }) (v := ?v9p) rfl (by kernel_rfl) (by kernel_rfl) (by kernel_rfl) (fun _ _ _ h => h) (Or.inl ⟨by rfl, ?y9p⟩) (by assumption) ?r9p
    case y9p => (intro z hz; obtain ⟨hz0, hz1⟩ := hz; go_simp; try with_reducible rfl)
    try simp only [Act.put, List.setIfInBounds_toArray, List.set_cons_zero, List.set_cons_succ]
    refine wpAnyH_take (i := 10) (oi := { dst := some 4, op := Op.assign (Operand.tmp 19), type := 3, pos := "tnode.go:64", after := #[{ on := 9, ground := Ground.data }, { on := 6, ground := Ground.chain }, { on := 0, ground := Ground.phase }, { on := 1, ground := Ground.phase }, { on := 2, ground := Ground.phase }, { on := 3, ground := Ground.phase }, { on := 4, ground := Ground.phase }, { on := 5, ground := Ground.phase }, { on := 6, ground := Ground.phase }, { on := 7, ground := Ground.phase }, { on := 8, ground := Ground.phase }, { on := 9, ground := Ground.phase }], guard := none }) (v := ?v10p) rfl (by kernel_rfl) (by kernel_rfl) (by kernel_rfl) (fun _ _ _ h => h) (Or.inl ⟨by rfl, ?y10p⟩) (by assumption) ?r10p
    case y10p => (intro z hz; obtain ⟨hz0, hz1⟩ := hz; go_simp; try with_reducible rfl)
    try simp only [Act.put, List.setIfInBounds_toArray, List.set_cons_zero, List.set_cons_succ]
    refine wpAnyH_take (i := 11) (oi := { dst := some 5, op := Op.assign (Operand.const (Value.bool true)), type := 4, pos := "tnode.go:64", after := #[{ on := 10, ground := Ground.chain }, { on := 0, ground := Ground.phase }, { on := 1, ground := Ground.phase }, { on := 2, ground := Ground.phase }, { on := 3, ground := Ground.phase }, { on := 4, ground := Ground.phase }, { on := 5, ground := Ground.phase }, { on := 6, ground := Ground.phase }, { on := 7, ground := Ground.phase }, { on := 8, ground := Ground.phase }, { on := 9, ground := Ground.phase }, { on := 10, ground := Ground.phase }], guard := none }) (v := ?v11p) rfl (by kernel_rfl) (by kernel_rfl) (by kernel_rfl) (fun _ _ _ h => h) (Or.inl ⟨by rfl, ?y11p⟩) (by assumption) ?r11p
    case y11p => (intro z hz; obtain ⟨hz0, hz1⟩ := hz; go_simp; try with_reducible rfl)
    try simp only [Act.put, List.setIfInBounds_toArray, List.set_cons_zero, List.set_cons_succ]
    refine wpAnyH_done (by kernel_rfl) ?_ _
    go_wp2_with fail
    go_ret2
    exact ⟨_, by rw [HB.out, if_pos rfl, HX.out]; rfl, HP.out, (Below.refl _ _).drew⟩
end Go.Proofs.Ytjginocbbnmgaaa
