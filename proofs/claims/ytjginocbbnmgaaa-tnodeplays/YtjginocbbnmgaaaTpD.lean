/-
  SEAT Ytjginocbbnmgaaa: the reference's tree: Height.
-/
import Derived.Test.YtjginocbbnmgaaaTpC
namespace Go.Proofs.Ytjginocbbnmgaaa
open Go.RowKit
set_option linter.unusedVariables false

set_option maxHeartbeats 4000000 in
set_option maxRecDepth 100000 in
theorem rheight_none (gr : Nat) (v : Value) (W : World) (h : RefOn W gr v []) : Calls Try.prog 33 #[.pointer (some ⟨gr, 0, none⟩)] W fun e w' => e = .returned (.int .i64 0) ∧ W = w' := by
  obtain ⟨a, cap, rfl, hc, _⟩ := ref_form h
  simp only [List.length_nil] at hc
  clear h
  go_enter Try.func33, Try.ntmps33
  go_wp2_with fail
  go_ret
  exact ⟨rfl, rfl⟩
set_option maxHeartbeats 4000000 in
set_option maxRecDepth 100000 in
theorem rheight_some (gr K : Nat) (x : Int) (pre : List (Int × Int)) (v : Value) (W : World) (h : RefOn W gr v (pre ++ [((K : Int), x)])) (hK : K < 1048576) :
    Calls Try.prog 33 #[.pointer (some ⟨gr, 0, none⟩)] W fun e w' => ∃ hh : Nat, e = .returned (.int .i64 (hh : Int)) ∧ (0 < hh ∧ K < spn hh ∧ (hh = 1 ∨ spn (hh - 1) ≤ K)) ∧ Below W.heap.size W w' := by
  have hl6 := h.2.2
  obtain ⟨a, cap, rfl, hc, hcl⟩ := ref_form h
  obtain ⟨n, hn⟩ : ∃ n, pre.length = n := ⟨_, rfl⟩
  have hlen : (pre ++ [((K : Int), x)]).length = n + 1 := by simp [hn]
  rw [hlen] at hc hcl hl6
  obtain ⟨g, rfl, x0, _⟩ := hcl n (by omega)
  have hg : ((pre ++ [((K : Int), x)]).getD n (0, 0)).1 = (K : Int) := by rw [List.getD_eq_getElem?_getD, ← hn]; simp
  rw [hg] at x0
  have HN6 : Hid _ := hl6
  have hne : ((n : Int) + 1 == 0) = false := by simp; omega
  have hne2 : (((n + 1 : Nat) : Int) == 0) = false := by simp; omega
  have hne3 : ¬ ((n : Int) + 1 = 0) := by omega
  have dn1 : (n : Int) < (n : Int) + 1 := by omega
  have wn : IntKind.i64.wrap (n : Int) = (n : Int) := by rw [IntKind.wrap_i64]; omega
  have hK2 : (K : Int) / 16 = ((K / 16 : Nat) : Int) := by omega
  have wK : IntKind.i64.wrap ((K : Int) / 16) = (K : Int) / 16 := by rw [IntKind.wrap_i64]; omega
  have HK : Hid _ := hK
  have HK2 : Hid _ := hK2
  clear h hcl hlen hg hl6 hn hK hK2
  go_enter Try.func33, Try.ntmps33
  go_upto_region 4 with fail
  refine wp_region_held_drew (S := (fun z => z.cell? ⟨gr, 0, none⟩ = some (.slice (some ⟨g, 0, none⟩) (n + 1) cap) ∧ z.cell? ⟨g, n * 2, none⟩ = some (.int .i64 (K : Int)))) (by kernel_rfl) (⟨hc, x0⟩) (fun hHeld => ?_)
  refine wpAnyH_take (i := 0) (oi := { dst := some 11, op := Op.move (Operand.tmp 0), type := 59, pos := "tnode.go:95", after := #[], guard := none }) (v := ?v0p) rfl (by kernel_rfl) (by kernel_rfl) (by kernel_rfl) (fun _ _ _ h => h) (Or.inl ⟨by rfl, ?y0p⟩) (by assumption) ?r0p
  case y0p => (intro z hz; obtain ⟨hz0, hz1⟩ := hz; go_simp; try with_reducible rfl)
  try simp only [Act.put, List.setIfInBounds_toArray, List.set_cons_zero, List.set_cons_succ]
  refine wpAnyH_take (i := 1) (oi := { dst := some 12, op := Op.nilCheck (Operand.tmp 11), type := 0, pos := "tnode.go:95", after := #[{ on := 0, ground := Ground.data }], guard := none }) (v := ?v1p) rfl (by kernel_rfl) (by kernel_rfl) (by kernel_rfl) (fun _ _ _ h => h) (Or.inl ⟨by rfl, ?y1p⟩) (by assumption) ?r1p
  case y1p => (intro z hz; obtain ⟨hz0, hz1⟩ := hz; go_simp; try with_reducible rfl)
  try simp only [Act.put, List.setIfInBounds_toArray, List.set_cons_zero, List.set_cons_succ]
  refine wpAnyH_take (i := 2) (oi := { dst := some 13, op := Op.fieldAddr 61 (Operand.tmp 12) 0, type := 0, pos := "tnode.go:95", after := #[{ on := 1, ground := Ground.data }], guard := none }) (v := ?v2p) rfl (by kernel_rfl) (by kernel_rfl) (by kernel_rfl) (fun _ _ _ h => h) (Or.inl ⟨by rfl, ?y2p⟩) (by assumption) ?r2p
  case y2p => (intro z hz; obtain ⟨hz0, hz1⟩ := hz; go_simp; try with_reducible rfl)
  try simp only [Act.put, List.setIfInBounds_toArray, List.set_cons_zero, List.set_cons_succ]
  refine wpAnyH_take (i := 3) (oi := { dst := some 14, op := Op.load 28 (Operand.tmp 13), type := 28, pos := "tnode.go:95", after := #[{ on := 2, ground := Ground.data }], guard := none }) (v := ?v3p) rfl (by kernel_rfl) (by kernel_rfl) (by kernel_rfl) (fun _ _ _ h => h) (Or.inl ⟨by rfl, ?y3p⟩) (by assumption) ?r3p
  case y3p => (intro z hz; obtain ⟨hz0, hz1⟩ := hz; go_simp; try with_reducible rfl)
  try simp only [Act.put, List.setIfInBounds_toArray, List.set_cons_zero, List.set_cons_succ]
  refine wpAnyH_take (i := 4) (oi := { dst := some 15, op := Op.move (Operand.tmp 0), type := 59, pos := "tnode.go:95", after := #[], guard := none }) (v := ?v4p) rfl (by kernel_rfl) (by kernel_rfl) (by kernel_rfl) (fun _ _ _ h => h) (Or.inl ⟨by rfl, ?y4p⟩) (by assumption) ?r4p
  case y4p => (intro z hz; obtain ⟨hz0, hz1⟩ := hz; go_simp; try with_reducible rfl)
  try simp only [Act.put, List.setIfInBounds_toArray, List.set_cons_zero, List.set_cons_succ]
  refine wpAnyH_take (i := 5) (oi := { dst := some 16, op := Op.nilCheck (Operand.tmp 15), type := 0, pos := "tnode.go:95", after := #[{ on := 4, ground := Ground.data }], guard := none }) (v := ?v5p) rfl (by kernel_rfl) (by kernel_rfl) (by kernel_rfl) (fun _ _ _ h => h) (Or.inl ⟨by rfl, ?y5p⟩) (by assumption) ?r5p
  case y5p => (intro z hz; obtain ⟨hz0, hz1⟩ := hz; go_simp; try with_reducible rfl)
  try simp only [Act.put, List.setIfInBounds_toArray, List.set_cons_zero, List.set_cons_succ]
  refine wpAnyH_take (i := 6) (oi := { dst := some 17, op := Op.fieldAddr 61 (Operand.tmp 16) 0, type := 0, pos := "tnode.go:95", after := #[{ on := 5, ground := Ground.data }], guard := none }) (v := ?v6p) rfl (by kernel_rfl) (by kernel_rfl) (by kernel_rfl) (fun _ _ _ h => h) (Or.inl ⟨by rfl, ?y6p⟩) (by assumption) ?r6p
  case y6p => (intro z hz; obtain ⟨hz0, hz1⟩ := hz; go_simp; try with_reducible rfl)
  try simp only [Act.put, List.setIfInBounds_toArray, List.set_cons_zero, List.set_cons_succ]
  refine wpAnyH_take (i := 7) (oi := { dst := some 18, op := Op.load 28 (Operand.tmp 17), type := 28, pos := "tnode.go:95", after := #[{ on := 6, ground := Ground.data }], guard := none }) (v := ?v7p) rfl (by kernel_rfl) (by kernel_rfl) (by kernel_rfl) (fun _ _ _ h => h) (Or.inl ⟨by rfl, ?y7p⟩) (by assumption) ?r7p
  case y7p => (intro z hz; obtain ⟨hz0, hz1⟩ := hz; go_simp; try with_reducible rfl)
  try simp only [Act.put, List.setIfInBounds_toArray, List.set_cons_zero, List.set_cons_succ]
  refine wpAnyH_take (i := 8) (oi := { dst := some 19, op := Op.call { callee := Callee.builtin Builtin.len, args := #[Operand.tmp 18], argTypes := #[28] }, type := 3, pos := "tnode.go:95", after := #[{ on := 7, ground := Ground.data }], guard := none }) (v := ?v8p) rfl (by kernel_rfl) (by kernel_rfl) (by kernel_rfl) (fun _ _ _ h => h) (Or.inl ⟨by rfl, ?y8p⟩) (by assumption) ?r8p
  case y8p => (intro z hz; obtain ⟨hz0, hz1⟩ := hz; go_simp; try with_reducible rfl)
  try simp only [Act.put, List.setIfInBounds_toArray, List.set_cons_zero, List.set_cons_succ]
  refine wpAnyH_take (i := 9) (oi := { dst := some 20, op := Op.binOp BinOp.sub 3 (Operand.tmp 19) (Operand.const (Value.int IntKind.i64 1)) 3, type := 3, pos := "tnode.go:95", after := #[{ on := 8, ground := Ground.data }], guard := none }) (v := ?v9p) rfl (by kernel_rfl) (by kernel_rfl) (by kernel_rfl) (fun _ _ _ h => h) (Or.inl ⟨by rfl, ?y9p⟩) (by assumption) ?r9p
  case y9p => (intro z hz; obtain ⟨hz0, hz1⟩ := hz; go_simp; try with_reducible rfl)
  try simp only [Act.put, List.setIfInBounds_toArray, List.set_cons_zero, List.set_cons_succ]
  refine wpAnyH_take (i := 10) (oi := { dst := some 21, op := Op.indexAddr 28 (Operand.tmp 14) (Operand.tmp 20), type := 0, pos := "tnode.go:95", after := #[{ on := 3, ground := Ground.data }, { on := 9, ground := Ground.data }], guard := none }) (v := ?v10p) rfl (by kernel_rfl) (by kernel_rfl) (by kernel_rfl) (fun _ _ _ h => h) (Or.inl ⟨by rfl, ?y10p⟩) (by assumption) ?r10p
  case y10p => (intro z hz; obtain ⟨hz0, hz1⟩ := hz; go_simp; try with_reducible rfl)
  try simp only [Act.put, List.setIfInBounds_toArray, List.set_cons_zero, List.set_cons_succ]
  refine wpAnyH_take (i := 11) (oi := { dst := some 22, op := Op.fieldAddr 35 (Operand.tmp 21) 0, type := 0, pos := "tnode.go:95", after := #[{ on := 10, ground := Ground.data }], guard := none }) (v := ?v11p) rfl (by kernel_rfl) (by kernel_rfl) (by kernel_rfl) (fun _ _ _ h => h) (Or.inl ⟨by rfl, ?y11p⟩) (by assumption) ?r11p
  case y11p => (intro z hz; obtain ⟨hz0, hz1⟩ := hz; go_simp; try with_reducible rfl)
  try simp only [Act.put, List.setIfInBounds_toArray, List.set_cons_zero, List.set_cons_succ]
  refine wpAnyH_take (i := 12) (oi := { dst := some 23, op := Op.load 3 (Operand.tmp 22), type := 3, pos := "tnode.go:95", after := #[{ on := 11, ground := Ground.data }], guard := none }) (v := ?v12p) rfl (by kernel_rfl) (by kernel_rfl) (by kernel_rfl) (fun _ _ _ h => h) (Or.inl ⟨by rfl, ?y12p⟩) (by assumption) ?r12p
  case y12p => (intro z hz; obtain ⟨hz0, hz1⟩ := hz; go_simp; try with_reducible rfl)
  try simp only [Act.put, List.setIfInBounds_toArray, List.set_cons_zero, List.set_cons_succ]
  refine wpAnyH_take (i := 13) (oi := { dst := some 24, op := Op.binOp BinOp.quo 3 (Operand.tmp 23) (Operand.const (Value.int IntKind.i64 16)) 3, type := 3, pos := "tnode.go:95", after := #[{ on := 12, ground := Ground.data }], guard := none }) (v := ?v13p) rfl (by kernel_rfl) (by kernel_rfl) (by kernel_rfl) (fun _ _ _ h => h) (Or.inl ⟨by rfl, ?y13p⟩) (by assumption) ?r13p
  case y13p => (intro z hz; obtain ⟨hz0, hz1⟩ := hz; go_simp; try with_reducible rfl)
  try simp only [Act.put, List.setIfInBounds_toArray, List.set_cons_zero, List.set_cons_succ]
  refine wpAnyH_take (i := 14) (oi := { dst := some 4, op := Op.assign (Operand.tmp 24), type := 3, pos := "tnode.go:95", after := #[{ on := 13, ground := Ground.data }, { on := 0, ground := Ground.phase }, { on := 1, ground := Ground.phase }, { on := 2, ground := Ground.phase }, { on := 3, ground := Ground.phase }, { on := 4, ground := Ground.phase }, { on := 5, ground := Ground.phase }, { on := 6, ground := Ground.phase }, { on := 7, ground := Ground.phase }, { on := 8, ground := Ground.phase }, { on := 9, ground := Ground.phase }, { on := 10, ground := Ground.phase }, { on := 11, ground := Ground.phase }, { on := 12, ground := Ground.phase }, { on := 13, ground := Ground.phase }], guard := none }) (v := ?v14p) rfl (by kernel_rfl) (by kernel_rfl) (by kernel_rfl) (fun _ _ _ h => h) (Or.inl ⟨by rfl, ?y14p⟩) (by assumption) ?r14p
  case y14p => (intro z hz; obtain ⟨hz0, hz1⟩ := hz; go_simp; try with_reducible rfl)
  try simp only [Act.put, List.setIfInBounds_toArray, List.set_cons_zero, List.set_cons_succ]
  refine wpAnyH_done (by kernel_rfl) ?_ _
  go_wp2_with fail
  go_loopw [3, 4] (fun s3 s4 wr => ∃ hh : Nat, 0 < hh ∧ hh ≤ 5 ∧ s3 = .int .i64 (hh : Int) ∧ s4 = .int .i64 ((K / spn hh : Nat) : Int) ∧ Hid (hh = 1 ∨ spn (hh - 1) ≤ K) ∧ wr = W.drew) (fun _ k _ => (intOf k).toNat)
  case atStart => exact ⟨1, by omega, by omega, rfl, by first | rfl | (show Value.int .i64 _ = Value.int .i64 _; congr 1; exact HK2.out), Or.inl rfl, rfl⟩
  case round =>
    obtain ⟨hh, h0, h5, rfl, rfl, HH, rfl⟩ := hrel
    obtain ⟨q, hq⟩ : ∃ q, K / spn hh = q := ⟨_, rfl⟩
    rw [hq]
    have HQ : Hid _ := hq
    clear hq
    by_cases hz : q = 0
    · subst hz
      have HLT : Hid (K < spn hh) := by
        unfold Hid
        rcases Nat.lt_or_ge K (spn hh) with c | c
        · exact c
        · have := Nat.div_pos c (spn_pos hh)
          have := HQ.out
          omega
      go_wp2_with fail
      go_ret
      exact ⟨hh, rfl, ⟨h0, HLT.out, HH.out⟩, (Below.refl _ _).drew⟩
    · have hge : spn hh ≤ K := by
        rcases Nat.lt_or_ge K (spn hh) with c | c
        · rw [Nat.div_eq_of_lt c] at HQ; have := HQ.out; omega
        · exact c
      have hlt5 : hh ≤ 4 := by
        rcases Nat.lt_or_ge hh 5 with c | c
        · omega
        · have := spn_le c
          have e5 : spn 5 = 1048576 := rfl
          have := HK.out
          omega
      have HNX : Hid (K / spn (hh + 1) = q / 16 ∧ spn (hh + 1 - 1) ≤ K) := by
        refine ⟨?_, by rw [Nat.add_sub_cancel]; exact hge⟩
        rw [spn_succ, Nat.mul_comm, ← Nat.div_div_eq_div_mul, HQ.out]
      have dq : (0 : Int) < (q : Int) := by omega
      have hq16 : (q : Int) / 16 = ((q / 16 : Nat) : Int) := by omega
      have hqK : q ≤ K := by rw [← HQ.out]; exact Nat.div_le_self _ _
      have wq : IntKind.i64.wrap ((q : Int) / 16) = (q : Int) / 16 := by have := HK.out; rw [IntKind.wrap_i64]; omega
      have HQ16 : Hid _ := hq16
      clear hqK
      clear hge hq16
      go_wp2_with fail
      go_roundw
      case rel => exact ⟨hh + 1, by omega, by omega, by first | rfl | simp, by rw [HNX.out.1]; first | rfl | (show Value.int .i64 _ = Value.int .i64 _; congr 1; exact HQ16.out), Or.inr HNX.out.2, by first | rfl | trivial⟩
      case measure => (simp [intOf]; omega)
end Go.Proofs.Ytjginocbbnmgaaa
