/-
  SEAT Ytjginocbbnmgaaa: without at any level; leadsToFirstAlone.
-/
import Derived.Test.YtjginocbbnmgaaaTnOpos
import Derived.Test.YtjginocbbnmgaaaTnOneg
import Derived.Test.YtjginocbbnmgaaaTnOnil
import Derived.Test.YtjginocbbnmgaaaTnQneg
import Derived.Test.YtjginocbbnmgaaaTnQnil
import Derived.Test.YtjginocbbnmgaaaTnR
namespace Go.Proofs.Ytjginocbbnmgaaa
open Go.RowKit
set_option linter.unusedVariables false

theorem without_any : ∀ l, l ≤ 4 → WoAt l
  | 0, _ => fun g0 M f t w E _ hE h hb => by
    rcases Int.lt_trichotomy f 0 with q | q | q
    · exact without_zero_neg g0 M f t w E hE h q (by omega)
    · exact without_zero_nil g0 M f t w E hE h (by omega) (by omega)
    · exact without_zero_pos g0 M f t w E hE h q (by omega)
  | l + 1, hl => fun g0 M f t w E _ hE h hb => by
    rcases Int.lt_trichotomy f 0 with q | q | q
    · exact without_succ_neg l (without_any l (by omega)) g0 M f t w E hE h hl q hb
    · exact without_succ_nil l (without_any l (by omega)) g0 M f t w E hE h hl (by omega) hb
    · exact without_succ_pos l (without_any l (by omega)) g0 M f t w E hE h hl q hb
/-- What goes from one number up to another, of a tree's top: both are keys or their bounds, or nothing goes. -/
theorem without_all (l g0 : Nat) (M : Mp) (f t : Int) (w : World) (E : Nat → Prop) [DecidablePred E] (hE : ∀ i, E i → i < w.heap.size) (h : NodeOn (seenH w E) l (some g0) M) (hl : l ≤ 4) (hv : (0 ≤ f ∧ f ≤ 1048576 ∧ 0 ≤ t ∧ t ≤ 1048576) ∨ (f < 0 ∧ t ≤ 0) ∨ (1048576 ≤ f ∧ f < 9223372036854775808)) :
    Calls Try.prog 50 #[.pointer (some ⟨g0, 0, none⟩), .int .i64 (l : Int), .int .i64 f, .int .i64 t] w fun e w' => ∃ o, e = .returned (.tuple #[ptr o, .int .i64 ((cnt (hit M f t) (spn (l + 1)) : Nat) : Int)]) ∧ NodeOn (seenH w' E) l o (cutM M f t) ∧ Below w.heap.size w w' := by
  rcases hv with hv | hv | hv
  · exact without_any l hl g0 M f t w E hE h (by omega)
  · exact without_idle l g0 M f t w E hE h hl (Or.inl hv) (by omega)
  · refine without_idle l g0 M f t w E hE h hl (Or.inr ?_) hv.2
    have : spn (l + 1) ≤ 1048576 := dig_le5 (l + 1) (by omega)
    rw [spn_succ] at this
    omega
set_option maxRecDepth 100000 in
theorem above_ptr (q : Option Addr) (w : World) : Calls Try.prog 56 #[.pointer q] w fun e w' => e = .returned (.pointer (some ⟨w.heap.size, 0, none⟩)) ∧ w' = w.alloc (.cells (A96 (.pointer q)) 96) := by
  go_enter Try.func56, Try.ntmps56
  go_wp2
  go_ret
  exact ⟨rfl, rfl⟩
theorem wpOp_load96 {x : World} {a : Act} {o : Oper} {K : Act → World → Prop} {Q : Exit → Act → World → Prop} (p : Operand) (ho : o.op = .load 96 p) (g : Nat) (cs : Array Value) (hp : a.eval p = .pointer (some ⟨g, 0, none⟩)) (hg : x.heap[g]? = some (.cells cs 96 (0, 0))) (hs : cs.size = 32) (h : K (a.put o.dst (.agg cs)) x) : o.wp Try.prog a x K Q := by
  have hrun : (Instr.loadAt 96 (.pointer (some ⟨g, 0, none⟩))).run Try.prog x = .ok (.agg cs) x := by
    simp only [Instr.loadAt, Instr.sureAddr, Sem.run_bind, Sem.run_pure, Result.andThen]
    exact run_loadVar_row x g 96 96 cs (0, 0) _ hg Try.underlying96 rfl (by rw [size96, hs])
  unfold Oper.wp
  simp [execOp, ho, hp, hrun, Result.andThen]
  exact h
theorem exec_load96 {x : World} {a : Act} {o : Oper} (p : Operand) (ho : o.op = .load 96 p) (g : Nat) (cs : Array Value) (hp : a.eval p = .pointer (some ⟨g, 0, none⟩)) (hg : x.heap[g]? = some (.cells cs 96 (0, 0))) (hs : cs.size = 32) : (execOp a.eval o).run Try.prog x = .ok (.value (.agg cs)) x := by
  have hrun : (Instr.loadAt 96 (.pointer (some ⟨g, 0, none⟩))).run Try.prog x = .ok (.agg cs) x := by
    simp only [Instr.loadAt, Instr.sureAddr, Sem.run_bind, Sem.run_pure, Result.andThen]
    exact run_loadVar_row x g 96 96 cs (0, 0) _ hg Try.underlying96 rfl (by rw [size96, hs])
  simp [execOp, ho, hp, hrun, Result.andThen]
theorem exec_eql96 {x : World} {a : Act} {o : Oper} (p q : Operand) (r : TypeId) (ho : o.op = .binOp .eql 96 p q r) (ps qs : List (Option Nat)) (hp : a.eval p = .agg (U96 ps)) (hq : a.eval q = .agg (U96 qs)) (ha : ps.length = 32) (hb : qs.length = 32) (ht : ∀ j, j < 32 → Tell (ps.getD j none) (qs.getD j none)) : (execOp a.eval o).run Try.prog x = .ok (.value (.bool (decide (ps = qs)))) x := by
  have hrun := eql96 x ps qs ha hb ht
  have hg := eqGuard96 x p q (U96 ps) (U96 qs)
  simp [execOp, ho, hp, hq, hg, hrun, Result.andThen]
/-- The row of a node whose first pointer alone there is. -/
def alone (row : List (Option Nat)) : List (Option Nat) := row.getD 0 none :: List.replicate 31 none
theorem a96_alone (row : List (Option Nat)) : A96 (ptr (row.getD 0 none)) = U96 (alone row) := rfl
theorem tell_alone (row : List (Option Nat)) (j : Nat) : Tell (row.getD j none) ((alone row).getD j none) := by
  cases j with
  | zero => exact Or.inl rfl
  | succ j =>
    refine Or.inr ?_
    show (List.replicate 31 none).getD j none = none
    rw [List.getD_eq_getElem?_getD, List.getElem?_replicate]
    split <;> rfl
theorem ptr_addr (o : Option Nat) : ∃ q, ptr o = .pointer q := by cases o with | none => exact ⟨none, rfl⟩ | some g => exact ⟨_, rfl⟩
set_option maxHeartbeats 4000000 in
set_option maxRecDepth 100000 in
theorem leads_any (g : Nat) (row : List (Option Nat)) (w : World) (hr : row.length = 32) (h : w.heap[g]? = some (.cells (U96 row) 96 (0, 0))) :
    Calls Try.prog 61 #[.pointer (some ⟨g, 0, none⟩)] w fun e w' => e = .returned (.bool (decide (row = alone row))) ∧ Below w.heap.size w w' := by
  have hg := lt_of_block h
  obtain ⟨q, hq⟩ := ptr_addr (row.getD 0 none)
  have x0 : w.cell? ⟨g, 0, none⟩ = some (.pointer q) := by rw [cell_of_row _ _ 0 _ 96 (0, 0) h, u96_get _ _ (by omega), hq]
  have hal := a96_alone row
  rw [hq] at hal
  obtain ⟨CS, hCS⟩ : ∃ CS, U96 row = CS := ⟨_, rfl⟩
  obtain ⟨AL, hAL⟩ : ∃ AL, U96 (alone row) = AL := ⟨_, rfl⟩
  rw [hAL] at hal
  have hsz : CS.size = 32 := by rw [← hCS, u96_size, hr]
  have hsz2 : AL.size = 32 := by rw [← hAL, u96_size]; simp [alone]
  rw [hCS] at h
  have HAL : Hid _ := And.intro hal hAL
  have HCS : Hid _ := hCS
  have HS : Hid _ := And.intro hsz hsz2
  have HR : Hid _ := hr
  have HG : Hid _ := hg
  have H0 : Hid _ := And.intro h x0
  clear hal hAL hCS hsz hsz2 hr hq hg x0
  go_enter Try.func61, Try.ntmps61
  go_upto_region 1 with fail
  refine wp_region_held_drew (S := (fun x => x.heap[g]? = some (.cells CS 96 (0, 0)) ∧ x.cell? ⟨g, 0, none⟩ = some (.pointer q))) (by kernel_rfl) (H0.out) (fun hHeld => ?_)
  refine wpAnyH_take (i := 0) (oi := { dst := some 3, op := Op.move (Operand.tmp 0), type := 70, pos := "node.go:61", after := #[], guard := none }) (v := ?v0p) rfl (by kernel_rfl) (by kernel_rfl) (by kernel_rfl) (fun _ _ _ h => h) (Or.inl ⟨by rfl, ?y0p⟩) (by assumption) ?r0p
  case y0p => (intro x hx; (try dsimp only at hx); go_simp; try with_reducible rfl)
  try simp only [Act.put, List.setIfInBounds_toArray, List.set_cons_zero, List.set_cons_succ]
  refine wpAnyH_take (i := 1) (oi := { dst := some 4, op := Op.nilCheck (Operand.tmp 3), type := 0, pos := "node.go:61", after := #[{ on := 0, ground := Ground.data }], guard := none }) (v := ?v1p) rfl (by kernel_rfl) (by kernel_rfl) (by kernel_rfl) (fun _ _ _ h => h) (Or.inl ⟨by rfl, ?y1p⟩) (by assumption) ?r1p
  case y1p => (intro x hx; (try dsimp only at hx); go_simp; try with_reducible rfl)
  try simp only [Act.put, List.setIfInBounds_toArray, List.set_cons_zero, List.set_cons_succ]
  refine wpAnyH_take (i := 2) (oi := { dst := some 5, op := Op.load 96 (Operand.tmp 4), type := 96, pos := "node.go:61", after := #[{ on := 1, ground := Ground.data }], guard := none }) (v := .agg CS) rfl (by kernel_rfl) (by kernel_rfl) (by kernel_rfl) (fun _ _ _ h => h) (Or.inl ⟨by rfl, ?y2p⟩) (by assumption) ?r2p
  case y2p => (intro x hx; exact exec_load96 (.tmp 4) (by rfl) g CS (by rfl) hx.1 HS.out.1)
  try simp only [Act.put, List.setIfInBounds_toArray, List.set_cons_zero, List.set_cons_succ]
  refine wpAnyH_take (i := 3) (oi := { dst := some 6, op := Op.move (Operand.tmp 0), type := 70, pos := "node.go:61", after := #[], guard := none }) (v := ?v3p) rfl (by kernel_rfl) (by kernel_rfl) (by kernel_rfl) (fun _ _ _ h => h) (Or.inl ⟨by rfl, ?y3p⟩) (by assumption) ?r3p
  case y3p => (intro x hx; (try dsimp only at hx); go_simp; try with_reducible rfl)
  try simp only [Act.put, List.setIfInBounds_toArray, List.set_cons_zero, List.set_cons_succ]
  refine wpAnyH_take (i := 4) (oi := { dst := some 7, op := Op.nilCheck (Operand.tmp 6), type := 0, pos := "node.go:61", after := #[{ on := 3, ground := Ground.data }], guard := none }) (v := ?v4p) rfl (by kernel_rfl) (by kernel_rfl) (by kernel_rfl) (fun _ _ _ h => h) (Or.inl ⟨by rfl, ?y4p⟩) (by assumption) ?r4p
  case y4p => (intro x hx; (try dsimp only at hx); go_simp; try with_reducible rfl)
  try simp only [Act.put, List.setIfInBounds_toArray, List.set_cons_zero, List.set_cons_succ]
  refine wpAnyH_take (i := 5) (oi := { dst := some 8, op := Op.fieldAddr 96 (Operand.tmp 7) 0, type := 0, pos := "node.go:61", after := #[{ on := 4, ground := Ground.data }], guard := none }) (v := ?v5p) rfl (by kernel_rfl) (by kernel_rfl) (by kernel_rfl) (fun _ _ _ h => h) (Or.inl ⟨by rfl, ?y5p⟩) (by assumption) ?r5p
  case y5p => (intro x hx; (try dsimp only at hx); go_simp; try with_reducible rfl)
  try simp only [Act.put, List.setIfInBounds_toArray, List.set_cons_zero, List.set_cons_succ]
  refine wpAnyH_take (i := 6) (oi := { dst := some 9, op := Op.indexAddr 93 (Operand.tmp 8) (Operand.const (Value.int IntKind.i64 0)), type := 0, pos := "node.go:61", after := #[{ on := 5, ground := Ground.data }], guard := none }) (v := ?v6p) rfl (by kernel_rfl) (by kernel_rfl) (by kernel_rfl) (fun _ _ _ h => h) (Or.inl ⟨by rfl, ?y6p⟩) (by assumption) ?r6p
  case y6p => (intro x hx; (try dsimp only at hx); go_simp; try with_reducible rfl)
  try simp only [Act.put, List.setIfInBounds_toArray, List.set_cons_zero, List.set_cons_succ]
  refine wpAnyH_take (i := 7) (oi := { dst := some 10, op := Op.load 70 (Operand.tmp 9), type := 70, pos := "node.go:61", after := #[{ on := 6, ground := Ground.data }], guard := none }) (v := ?v7p) rfl (by kernel_rfl) (by kernel_rfl) (by kernel_rfl) (fun _ _ _ h => h) (Or.inl ⟨by rfl, ?y7p⟩) (by assumption) ?r7p
  case y7p => (intro x hx; have hx2 := hx.2; go_simp; try with_reducible rfl)
  try simp only [Act.put, List.setIfInBounds_toArray, List.set_cons_zero, List.set_cons_succ]
  refine wpAnyH_ready (rs := [8]) (by kernel_rfl) (by simp) ?_
  refine AllReadyH.cons (o := { dst := some 11, op := Op.call { callee := Callee.value (Operand.func 56), args := #[Operand.tmp 10], argTypes := #[70] }, type := 70, pos := "node.go:61", after := #[{ on := 7, ground := Ground.data }], guard := none }) rfl (fun K hK => ?_) AllReadyH.nil
  go_simp
  go_at_call 56
  refine (above_ptr q _).mono ?_
  rintro e u ⟨rfl, rfl⟩
  have hSnew : ((w.drew.alloc (.cells (A96 (.pointer q)) 96)).heap[g]? = some (.cells CS 96 (0, 0)) ∧ (w.drew.alloc (.cells (A96 (.pointer q)) 96)).cell? ⟨g, 0, none⟩ = some (.pointer q)) := (by have hb := (below_new w.drew (.cells (A96 (.pointer q)) 96)).block g HG.out; exact ⟨hb.trans H0.out.1, (World.cell?_of_block hb).trans H0.out.2⟩)
  go_wp2_with fail
  refine hK.out _ _ hSnew (fun hHeld8 => ?_)
  clear hK K hSnew
  clear hHeld
  have hHeld := hHeld8
  clear hHeld8
  try simp only [Act.put, List.setIfInBounds_toArray, List.set_cons_zero, List.set_cons_succ]
  refine wpAnyH_take (i := 9) (oi := { dst := some 12, op := Op.nilCheck (Operand.tmp 11), type := 0, pos := "node.go:61", after := #[{ on := 8, ground := Ground.data }], guard := none }) (v := ?v9p) rfl (by kernel_rfl) (by kernel_rfl) (by kernel_rfl) (fun _ _ _ h => h) (Or.inl ⟨by rfl, ?y9p⟩) (by assumption) ?r9p
  case y9p => (intro x hx; (try dsimp only at hx); go_simp; try with_reducible rfl)
  try simp only [Act.put, List.setIfInBounds_toArray, List.set_cons_zero, List.set_cons_succ]
  refine wpAnyH_ready (rs := [10]) (by kernel_rfl) (by simp) ?_
  refine AllReadyH.cons (o := { dst := some 13, op := Op.load 96 (Operand.tmp 12), type := 96, pos := "node.go:61", after := #[{ on := 9, ground := Ground.data }], guard := none }) rfl (fun K hK => ?_) AllReadyH.nil
  rw [if_pos (by rfl)]
  refine wpOp_load96 (.tmp 12) rfl w.heap.size AL rfl (by rw [← HAL.out.1]; exact heap_alloc_last _ _) HS.out.2 ?_
  refine hK.out _ _ hHeld (fun hHeld10 => ?_)
  clear hK K hHeld10
  try simp only [Act.put, List.setIfInBounds_toArray, List.set_cons_zero, List.set_cons_succ]
  refine wpAnyH_take (i := 11) (oi := { dst := some 14, op := Op.binOp BinOp.eql 96 (Operand.tmp 5) (Operand.tmp 13) 96, type := 4, pos := "node.go:61", after := #[{ on := 2, ground := Ground.data }, { on := 10, ground := Ground.data }], guard := none }) (v := .bool (decide (row = alone row))) rfl (by kernel_rfl) (by kernel_rfl) (by kernel_rfl) (fun _ _ _ h => h) (Or.inl ⟨by rfl, ?y11p⟩) (by assumption) ?r11p
  case y11p => (intro x hx; exact exec_eql96 (.tmp 5) (.tmp 13) 96 (by rfl) row (alone row) (by rw [HCS.out]; rfl) (by rw [HAL.out.2]; rfl) HR.out (by simp [alone]) (fun j _ => tell_alone row j))
  try simp only [Act.put, List.setIfInBounds_toArray, List.set_cons_zero, List.set_cons_succ]
  refine wpAnyH_take (i := 12) (oi := { dst := some 2, op := Op.assign (Operand.tmp 14), type := 4, pos := "node.go:61", after := #[{ on := 11, ground := Ground.data }, { on := 8, ground := Ground.chain }, { on := 0, ground := Ground.phase }, { on := 1, ground := Ground.phase }, { on := 2, ground := Ground.phase }, { on := 3, ground := Ground.phase }, { on := 4, ground := Ground.phase }, { on := 5, ground := Ground.phase }, { on := 6, ground := Ground.phase }, { on := 7, ground := Ground.phase }, { on := 8, ground := Ground.phase }, { on := 9, ground := Ground.phase }, { on := 10, ground := Ground.phase }, { on := 11, ground := Ground.phase }], guard := none }) (v := ?v12p) rfl (by kernel_rfl) (by kernel_rfl) (by kernel_rfl) (fun _ _ _ h => h) (Or.inl ⟨by rfl, ?y12p⟩) (by assumption) ?r12p
  case y12p => (intro x hx; (try dsimp only at hx); go_simp; try with_reducible rfl)
  try simp only [Act.put, List.setIfInBounds_toArray, List.set_cons_zero, List.set_cons_succ]
  refine wpAnyH_done (by kernel_rfl) ?_ _
  go_wp2
  go_ret
  exact ⟨rfl, ((Below.refl _ _).drew.alloc (Nat.le_refl _) _)⟩

end Go.Proofs.Ytjginocbbnmgaaa
