/-
  SEAT Ytjginocbbnmgaaa: with.
-/
import Derived.Test.YtjginocbbnmgaaaTnA
import Derived.Deep.WholeRow
import Derived.Deep.DeepCutAuto
namespace Go.Proofs.Ytjginocbbnmgaaa
open Go.RowKit
set_option linter.unusedVariables false

theorem size96 : (Try.prog.info? 96).map (·.size) = some 32 := by kernel_rfl
abbrev Z96 : Array Value := #[.pointer none, .pointer none, .pointer none, .pointer none, .pointer none, .pointer none, .pointer none, .pointer none, .pointer none, .pointer none, .pointer none, .pointer none, .pointer none, .pointer none, .pointer none, .pointer none, .pointer none, .pointer none, .pointer none, .pointer none, .pointer none, .pointer none, .pointer none, .pointer none, .pointer none, .pointer none, .pointer none, .pointer none, .pointer none, .pointer none, .pointer none, .pointer none]
/-- A whole node out of its block: one step. -/
theorem wpList_load96 {w : World} {ops : Array Oper} {rest : List Oper} {o : Oper} {a : Act} {Q : Exit → Act → World → Prop} (hgd : o.guard = none) (x : Operand) (ho : o.op = .load 96 x)
    (g : Nat) (cs : Array Value) (hx : a.eval x = .pointer (some ⟨g, 0, none⟩)) (hg : w.heap[g]? = some (.cells cs 96 (0, 0))) (hs : cs.size = 32)
    (h : wpList Try.prog ops Q rest (a.put o.dst (.agg cs)) w) : wpList Try.prog ops Q (o :: rest) a w := by
  have hrun : (Instr.loadAt 96 (.pointer (some ⟨g, 0, none⟩))).run Try.prog w = .ok (.agg cs) w := by
    simp only [Instr.loadAt, Instr.sureAddr, Sem.run_bind, Sem.run_pure, Result.andThen]
    exact run_loadVar_row w g 96 96 cs (0, 0) _ hg Try.underlying96 rfl (by rw [size96, hs])
  refine wpList_plain hgd fun K hK => ?_
  unfold Oper.wp
  simp [execOp, ho, hx, hrun, Result.andThen]
  exact hK _ _ h
/-- A whole node into the block that was made last: one step. -/
theorem wpList_store96 {u : World} {ops : Array Oper} {rest : List Oper} {o : Oper} {a : Act} {Q : Exit → Act → World → Prop} (hgd : o.guard = none) (x y : Operand) (ho : o.op = .store 96 x y)
    (g : Nat) (zs cs : Array Value) (hg : u.heap.size = g) (hx : a.eval x = .pointer (some ⟨g, 0, none⟩)) (hy : a.eval y = .agg cs) (hz : zs.size = 32) (hs : cs.size = 32) (h1 : cs.all (·.oneCell') = true)
    (h : wpList Try.prog ops Q rest (a.put o.dst undef) (u.alloc (.cells cs 96))) : wpList Try.prog ops Q (o :: rest) a (u.alloc (.cells zs 96)) := by
  subst hg
  have hrun := run_storeAt_new (P := Try.prog) u 96 zs cs (by rw [size96, hs]) (by rw [hz, hs]) h1
  refine wpList_plain hgd fun K hK => ?_
  unfold Oper.wp
  simp [execOp, ho, hx, hy, hrun, Result.andThen]
  exact hK _ _ h
theorem node_cell {u : World} {cs : Array Value} {j : Nat} (hj : j < cs.size) : ∃ y, (u.alloc (.cells cs 96)).cell? ⟨u.heap.size, j, none⟩ = some y :=
  ⟨cs[j], by rw [cell_of_row _ _ j cs 96 (0, 0) (heap_alloc_last u _), Array.getElem?_eq_getElem hj]⟩
theorem node_free (u : World) (cs : Array Value) (j : Nat) : (u.alloc (.cells cs 96)).frozen? ⟨u.heap.size, j, none⟩ = false := by
  have h := heap_alloc_last u (.cells cs 96)
  unfold World.frozen?
  simp only [h]
  simp
/-- The node that with answers at the level 0: its block and its thing's. -/
def put0 (w : World) (v : Int) (cs : Array Value) (D : Nat) : World := (w.alloc (.cells #[.int .i64 v] 3)).alloc (.cells (cs.setIfInBounds (16 + D) (.pointer (some ⟨w.heap.size, 0, none⟩))) 96)
set_option maxHeartbeats 2000000 in
set_option maxRecDepth 100000 in
theorem with0_some (k g0 : Nat) (v : Int) (cs : Array Value) (w : World) (hk : k < 1048576) (h : w.heap[g0]? = some (.cells cs 96 (0, 0))) (hs : cs.size = 32) (h1 : cs.all (·.oneCell') = true) :
    Calls Try.prog 38 #[.pointer (some ⟨g0, 0, none⟩), .int .i64 0, .int .i64 (k : Int), .int .i64 v] w fun e w' => e = .returned (.pointer (some ⟨w.heap.size + 1, 0, none⟩)) ∧ w' = put0 w v cs (dig k 0) := by
  have hlt := dig_lt k 0
  obtain ⟨D, hD⟩ : ∃ D, dig k 0 = D := ⟨_, rfl⟩
  rw [hD]
  have HD : Hid _ := hD
  rw [hD] at hlt
  clear hD
  have dl : (D : Int) < 16 := by omega
  have hg0 := lt_of_block h
  have hsz : (w.alloc (.cells #[.int .i64 v] 3)).heap.size = w.heap.size + 1 := by simp
  have hb2 : Below w.heap.size w ((w.alloc (.cells #[.int .i64 v] 3)).alloc (.cells Z96 96)) := ((Below.refl _ _).alloc (Nat.le_refl _) _).alloc (by simp) _
  have HL : Hid (((w.alloc (.cells #[.int .i64 v] 3)).alloc (.cells Z96 96)).heap[g0]? = some (.cells cs 96 (0, 0))) := (hb2.block g0 hg0).trans h
  obtain ⟨y, hy⟩ := node_cell (u := w.alloc (.cells #[.int .i64 v] 3)) (cs := cs) (j := 16 + D) (by omega)
  have hfz := node_free (w.alloc (.cells #[.int .i64 v] 3)) cs (16 + D)
  rw [hsz] at hy hfz
  have H1 : Hid _ := h1
  clear h h1 hb2 hsz
  go_enter Try.func38, Try.ntmps38
  go_wp2_with (first
    | (refine wpList_load96 rfl (.tmp 14) rfl g0 cs rfl HL.out hs ?_)
    | (refine wpList_store96 (u := w.alloc (.cells #[.int .i64 v] 3)) rfl (.tmp 9) (.tmp 15) rfl (w.heap.size + 1) Z96 cs (World.size_alloc _ _) rfl rfl rfl hs H1.out ?_)
    | (go_at_call 55; refine (digit_any k 0 _ (by omega) hk).mono ?_; rintro e u ⟨rfl, rfl⟩; rw [HD.out]))
  go_ret
  exact ⟨rfl, rfl⟩
set_option maxHeartbeats 2000000 in
set_option maxRecDepth 100000 in
theorem with0_none (k : Nat) (v : Int) (w : World) (hk : k < 1048576) :
    Calls Try.prog 38 #[.pointer none, .int .i64 0, .int .i64 (k : Int), .int .i64 v] w fun e w' => e = .returned (.pointer (some ⟨w.heap.size + 1, 0, none⟩)) ∧ w' = put0 w v Z96 (dig k 0) := by
  have hlt := dig_lt k 0
  obtain ⟨D, hD⟩ : ∃ D, dig k 0 = D := ⟨_, rfl⟩
  rw [hD]
  have HD : Hid _ := hD
  rw [hD] at hlt
  clear hD
  have dl : (D : Int) < 16 := by omega
  have hsz : (w.alloc (.cells #[.int .i64 v] 3)).heap.size = w.heap.size + 1 := by simp
  obtain ⟨y, hy⟩ := node_cell (u := w.alloc (.cells #[.int .i64 v] 3)) (cs := Z96) (j := 16 + D) (by simp; omega)
  have hfz := node_free (w.alloc (.cells #[.int .i64 v] 3)) Z96 (16 + D)
  rw [hsz] at hy hfz
  clear hsz
  go_enter Try.func38, Try.ntmps38
  go_wp2_with (first
    | (go_at_call 55; refine (digit_any k 0 _ (by omega) hk).mono ?_; rintro e u ⟨rfl, rfl⟩; rw [HD.out]))
  go_ret
  exact ⟨rfl, by unfold put0; first | rfl | simp⟩
end Go.Proofs.Ytjginocbbnmgaaa
