/-
  SEAT YtnjcjaaciphcgaaDoor: AuditThere, walked.
-/
import Derived.Test.YtnjcjaaciphcgaaDoorVl
namespace Go.Proofs.YtnjcjaaciphcgaaDoor
open Go.RowKit Go.Sort
set_option linter.unusedVariables false

theorem EV.below {w u : World} (h : EV w) (hb : Below w.heap.size w u) (h9 : 9 ≤ w.heap.size) : EV u := h.two (q := w.heap.size) (t := w.heap.size) (Two.of hb) h9 h9
theorem both14 {w W : World} {gb : Nat} {r : Rp} {a a2 : Option Addr} {n c n2 c2 : Nat} (h1 : W.heap[w.heap.size]? = some (.cells #[.int .u64 (r.fl : Int), .int .i64 r.c, .int .i64 r.l, .int .i64 r.u, .int .i64 r.b, .bool r.s, .slice a n c] 25 (0, 0))) (h2 : W.heap[gb]? = some (.cells #[.int .u64 (r.fl : Int), .int .i64 r.c, .int .i64 r.l, .int .i64 r.u, .int .i64 r.b, .bool r.s, .slice a2 n2 c2] 25 (0, 0))) : W.cell? ⟨w.heap.size, 0, none⟩ = some (.int .u64 (r.fl : Int)) ∧ W.cell? ⟨w.heap.size, 1, none⟩ = some (.int .i64 r.c) ∧ W.cell? ⟨w.heap.size, 2, none⟩ = some (.int .i64 r.l) ∧ W.cell? ⟨w.heap.size, 3, none⟩ = some (.int .i64 r.u) ∧ W.cell? ⟨w.heap.size, 4, none⟩ = some (.int .i64 r.b) ∧ W.cell? ⟨w.heap.size, 5, none⟩ = some (.bool r.s) ∧ W.cell? ⟨w.heap.size, 6, none⟩ = some (.slice a n c) ∧ W.cell? ⟨gb, 0, none⟩ = some (.int .u64 (r.fl : Int)) ∧ W.cell? ⟨gb, 1, none⟩ = some (.int .i64 r.c) ∧ W.cell? ⟨gb, 2, none⟩ = some (.int .i64 r.l) ∧ W.cell? ⟨gb, 3, none⟩ = some (.int .i64 r.u) ∧ W.cell? ⟨gb, 4, none⟩ = some (.int .i64 r.b) ∧ W.cell? ⟨gb, 5, none⟩ = some (.bool r.s) ∧ W.cell? ⟨gb, 6, none⟩ = some (.slice a2 n2 c2) := by
  obtain ⟨a0, a1, a2, a3, a4, a5, a6⟩ := cells7 h1
  obtain ⟨b0, b1, b2, b3, b4, b5, b6⟩ := cells7 h2
  exact ⟨a0, a1, a2, a3, a4, a5, a6, b0, b1, b2, b3, b4, b5, b6⟩

theorem show_len (r : Rp) (h : r.Ok) : (showB r).length < 4294967281 := by
  have h1 := head_len r h
  have h2 := rows_len r.fs h.fs
  have h3 := h.few
  unfold showB
  rw [List.length_append]
  omega

set_option maxHeartbeats 8000000 in
set_option maxRecDepth 100000 in
theorem there_bad (r : Rp) (a : Option Addr) (n c : Nat) (tx : List UInt8) (w : World) (hr : ReadsF w a n r.fs) (ho : r.Ok) (htl : tx.length ≤ 1048576) (ht : P10 w) (hw : KW w) (hv : EV w) (hw9 : 9 ≤ w.heap.size) (m : Nat) (hx : rp tx = (none, m)) :
    Calls Tryd.prog 5 #[.agg #[.int .u64 (r.fl : Int), .int .i64 r.c, .int .i64 r.l, .int .i64 r.u, .int .i64 r.b, .bool r.s, .slice a n c], .string ⟨tx.toArray⟩] w fun e w' => e = .returned (.bool true) ∧ Below w.heap.size w w' := by
  have hn : n ≤ 1048576 := by rw [← hr.1]; exact ho.few
  have HB0 : Hid (Below w.heap.size w (w.alloc (.cells #[.int .u64 (r.fl : Int), .int .i64 r.c, .int .i64 r.l, .int .i64 r.u, .int .i64 r.b, .bool r.s, .slice a n c] 25))) := below_alloc' w _
  have HF0 : Hid ((w.alloc (.cells #[.int .u64 (r.fl : Int), .int .i64 r.c, .int .i64 r.l, .int .i64 r.u, .int .i64 r.b, .bool r.s, .slice a n c] 25)).heap[w.heap.size]? = some (.cells #[.int .u64 (r.fl : Int), .int .i64 r.c, .int .i64 r.l, .int .i64 r.u, .int .i64 r.b, .bool r.s, .slice a n c] 25 (0, 0))) := heap_alloc_new w _
  have HRA0 : Hid (ReadsF w a n r.fs) := hr
  have HV : Hid (∀ u : World, Below w.heap.size w u → P10 u ∧ KW u ∧ EV u ∧ 9 ≤ u.heap.size) := fun u hu => ⟨p10_below ht hu, hw.below hu, hv.below hu hw9, Nat.le_trans hw9 hu.size⟩
  have HO : Hid r.Ok := ho
  have HSL : Hid ((showB r).length < 4294967281) := show_len r ho
  have HRP : Hid (rp (showB r) = (some r, 6 + r.fs.length)) := rp_show r ho
  have HX : Hid (rp tx = (none, m)) := hx
  have hm1 : (1 : Int) ≤ (m : Int) := by have := rp_one hx; omega
  obtain ⟨A, hA⟩ : ∃ A, (!r.fs.any fun f => bad1 f.k) = A := ⟨_, rfl⟩
  have HSD : Hid ((!r.fs.any fun f => bad1 f.k) = A) := hA
  obtain ⟨S, hS⟩ : ∃ S, showB r = S := ⟨_, rfl⟩
  rw [hS] at HSL HRP
  have HS : Hid (showB r = S) := hS
  clear hr ho ht hw hv hx hA hS
  obtain ⟨x0, x1, x2, x3, x4, x5, x6⟩ := cells7 HF0.out
  go_enter Tryd.func5, Tryd.ntmps5
  go_upto_region 3 with (first
    | (go_at_call 6; refine (show_any r a n c _ (HRA0.out.below HB0.out) HO.out (HV.out _ HB0.out).1 (HV.out _ HB0.out).2.1).mono ?_; rintro e t1 ⟨rfl, bl⟩; rw [HS.out]
       have HB1 : Hid (Below w.heap.size w t1) := HB0.out.trans (below_low bl HB0.out.size)
       have HF1 : Hid (t1.heap[w.heap.size]? = some (.cells #[.int .u64 (r.fl : Int), .int .i64 r.c, .int .i64 r.l, .int .i64 r.u, .int .i64 r.b, .bool r.s, .slice a n c] 25 (0, 0))) := (bl.block _ (Array.getElem?_eq_some_iff.1 HF0.out).1).trans HF0.out
       clear bl x0 x1 x2 x3 x4 x5 x6)
    | (go_at_call 10; refine (read_good S _ HSL.out (HV.out _ HB1.out).1 (HV.out _ HB1.out).2.2.1 (HV.out _ HB1.out).2.1 (HV.out _ HB1.out).2.2.2 _ r HRP.out).mono ?_; rintro e t2 ⟨⟨a2, n2, c2, rfl, hrg⟩, bl⟩
       have HB2 : Hid (Below w.heap.size w t2) := HB1.out.trans (below_low bl HB1.out.size)
       have HF2 : Hid (t2.heap[w.heap.size]? = some (.cells #[.int .u64 (r.fl : Int), .int .i64 r.c, .int .i64 r.l, .int .i64 r.u, .int .i64 r.b, .bool r.s, .slice a n c] 25 (0, 0))) := (bl.block _ (Array.getElem?_eq_some_iff.1 HF1.out).1).trans HF1.out
       have HRG2 : Hid (ReadsF t2 a2 n2 r.fs) := hrg
       clear bl hrg))
  have hnn : n = n2 := HRA0.out.1.symm.trans HRG2.out.1
  subst hnn
  have HGT : Hid ((t2.alloc (.cells #[.int .u64 (r.fl : Int), .int .i64 r.c, .int .i64 r.l, .int .i64 r.u, .int .i64 r.b, .bool r.s, .slice a2 n c2] 25)).heap[t2.heap.size]? = some (.cells #[.int .u64 (r.fl : Int), .int .i64 r.c, .int .i64 r.l, .int .i64 r.u, .int .i64 r.b, .bool r.s, .slice a2 n c2] 25 (0, 0))) := heap_alloc_new _ _
  have HFT : Hid ((t2.alloc (.cells #[.int .u64 (r.fl : Int), .int .i64 r.c, .int .i64 r.l, .int .i64 r.u, .int .i64 r.b, .bool r.s, .slice a2 n c2] 25)).heap[w.heap.size]? = some (.cells #[.int .u64 (r.fl : Int), .int .i64 r.c, .int .i64 r.l, .int .i64 r.u, .int .i64 r.b, .bool r.s, .slice a n c] 25 (0, 0))) := (Below.heap_alloc _ _ _ (Array.getElem?_eq_some_iff.1 HF2.out).1).trans HF2.out
  have HBT : Hid (Below w.heap.size w (t2.alloc (.cells #[.int .u64 (r.fl : Int), .int .i64 r.c, .int .i64 r.l, .int .i64 r.u, .int .i64 r.b, .bool r.s, .slice a2 n c2] 25))) := HB2.out.alloc HB2.out.size _
  have HRG : Hid (ReadsF (t2.alloc (.cells #[.int .u64 (r.fl : Int), .int .i64 r.c, .int .i64 r.l, .int .i64 r.u, .int .i64 r.b, .bool r.s, .slice a2 n c2] 25)) a2 n r.fs) := HRG2.out.below (below_alloc' _ _)
  obtain ⟨t3, ht3⟩ : ∃ t3, t2.alloc (.cells #[.int .u64 (r.fl : Int), .int .i64 r.c, .int .i64 r.l, .int .i64 r.u, .int .i64 r.b, .bool r.s, .slice a2 n c2] 25) = t3 := ⟨_, rfl⟩
  obtain ⟨gb, hgb⟩ : ∃ gb, t2.heap.size = gb := ⟨_, rfl⟩
  rw [ht3] at HGT HFT HBT HRG
  rw [hgb] at HGT
  try rw [ht3]
  try rw [hgb]
  have HRA : Hid (ReadsF w a n r.fs) := HRA0.out
  have hn2 : n ≤ 140737488355000 := by omega
  clear HB0 HF0 HB1 HF1 HB2 HF2 HRG2 HSL HRP HS HRA0 ht3 hgb
  have HBD : Hid (Below t3.heap.size t3 t3.drew) := (Below.refl _ _).drew
  have HFD : Hid (t3.drew.heap[w.heap.size]? = some (.cells #[.int .u64 (r.fl : Int), .int .i64 r.c, .int .i64 r.l, .int .i64 r.u, .int .i64 r.b, .bool r.s, .slice a n c] 25 (0, 0))) := HFT.out
  have HGD : Hid (t3.drew.heap[gb]? = some (.cells #[.int .u64 (r.fl : Int), .int .i64 r.c, .int .i64 r.l, .int .i64 r.u, .int .i64 r.b, .bool r.s, .slice a2 n c2] 25 (0, 0))) := HGT.out
  refine wp_region_held_drew (S := (fun y : World => y.cell? ⟨w.heap.size, 0, none⟩ = some (.int .u64 (r.fl : Int)) ∧ y.cell? ⟨w.heap.size, 1, none⟩ = some (.int .i64 r.c) ∧ y.cell? ⟨w.heap.size, 2, none⟩ = some (.int .i64 r.l) ∧ y.cell? ⟨w.heap.size, 3, none⟩ = some (.int .i64 r.u) ∧ y.cell? ⟨w.heap.size, 4, none⟩ = some (.int .i64 r.b) ∧ y.cell? ⟨w.heap.size, 5, none⟩ = some (.bool r.s) ∧ y.cell? ⟨w.heap.size, 6, none⟩ = some (.slice a n c) ∧ y.cell? ⟨gb, 0, none⟩ = some (.int .u64 (r.fl : Int)) ∧ y.cell? ⟨gb, 1, none⟩ = some (.int .i64 r.c) ∧ y.cell? ⟨gb, 2, none⟩ = some (.int .i64 r.l) ∧ y.cell? ⟨gb, 3, none⟩ = some (.int .i64 r.u) ∧ y.cell? ⟨gb, 4, none⟩ = some (.int .i64 r.b) ∧ y.cell? ⟨gb, 5, none⟩ = some (.bool r.s) ∧ y.cell? ⟨gb, 6, none⟩ = some (.slice a2 n c2))) (by kernel_rfl) (both14 HFD.out HGD.out) (fun hHeld => ?_)
  refine wpAnyH_take (i := 0) (oi := { dst := some 19, op := Op.move (Operand.tmp 7), type := 35, pos := "law.go:160", after := #[], guard := none }) (v := ?v0q) rfl (by kernel_rfl) (by kernel_rfl) (by kernel_rfl) (fun _ _ _ h => h) (Or.inl ⟨by rfl, ?y0q⟩) (by assumption) ?r0q
  case y0q => (intro x hx; (try dsimp only at hx); go_simp; try with_reducible rfl)
  try simp only [Act.put, List.setIfInBounds_toArray, List.set_cons_zero, List.set_cons_succ]
  refine wpAnyH_take (i := 1) (oi := { dst := some 20, op := Op.binOp BinOp.neq 3 (Operand.tmp 19) (Operand.const (Value.int IntKind.i64 0)) 3, type := 4, pos := "law.go:160", after := #[{ on := 0, ground := Ground.data }], guard := none }) (v := ?v1q) rfl (by kernel_rfl) (by kernel_rfl) (by kernel_rfl) (fun _ _ _ h => h) (Or.inl ⟨by rfl, ?y1q⟩) (by assumption) ?r1q
  case y1q => (intro x hx; (try dsimp only at hx); go_simp; try with_reducible rfl)
  try simp only [Act.put, List.setIfInBounds_toArray, List.set_cons_zero, List.set_cons_succ]
  refine wpAnyH_take (i := 2) (oi := { dst := some 21, op := Op.move (Operand.tmp 20), type := 4, pos := "law.go:160", after := #[{ on := 1, ground := Ground.data }], guard := none }) (v := ?v2q) rfl (by kernel_rfl) (by kernel_rfl) (by kernel_rfl) (fun _ _ _ h => h) (Or.inl ⟨by rfl, ?y2q⟩) (by assumption) ?r2q
  case y2q => (intro x hx; (try dsimp only at hx); go_simp; try with_reducible rfl)
  try simp only [Act.put, List.setIfInBounds_toArray, List.set_cons_zero, List.set_cons_succ]
  refine wpAnyH_take (i := 3) (oi := { dst := some 22, op := Op.move (Operand.tmp 8), type := 3, pos := "law.go:160", after := #[{ on := 2, ground := Ground.guard }], guard := some (2, false) }) (v := ?v3q) rfl (by kernel_rfl) (by kernel_rfl) (by kernel_rfl) (fun _ _ _ h => h) (Or.inl ⟨by rfl, ?y3q⟩) (by assumption) ?r3q
  case y3q => (intro x hx; (try dsimp only at hx); go_simp; try with_reducible rfl)
  try simp only [Act.put, List.setIfInBounds_toArray, List.set_cons_zero, List.set_cons_succ]
  refine wpAnyH_take (i := 4) (oi := { dst := some 23, op := Op.binOp BinOp.neq 3 (Operand.tmp 22) (Operand.const (Value.int IntKind.i64 0)) 3, type := 4, pos := "law.go:160", after := #[{ on := 3, ground := Ground.data }, { on := 2, ground := Ground.guard }], guard := some (2, false) }) (v := ?v4q) rfl (by kernel_rfl) (by kernel_rfl) (by kernel_rfl) (fun _ _ _ h => h) (Or.inl ⟨by rfl, ?y4q⟩) (by assumption) ?r4q
  case y4q => (intro x hx; (try dsimp only at hx); go_simp; try with_reducible rfl)
  try simp only [Act.put, List.setIfInBounds_toArray, List.set_cons_zero, List.set_cons_succ]
  refine wpAnyH_take (i := 5) (oi := { dst := some 24, op := Op.pick (Operand.tmp 21) (Operand.const (Value.bool true)) (Operand.tmp 23), type := 4, pos := "law.go:160", after := #[{ on := 2, ground := Ground.data }, { on := 4, ground := Ground.data }], guard := none }) (v := ?v5q) rfl (by kernel_rfl) (by kernel_rfl) (by kernel_rfl) (fun _ _ _ h => h) (Or.inl ⟨by rfl, ?y5q⟩) (by assumption) ?r5q
  case y5q => (intro x hx; (try dsimp only at hx); go_simp; try with_reducible rfl)
  try simp only [Act.put, List.setIfInBounds_toArray, List.set_cons_zero, List.set_cons_succ]
  refine wpAnyH_take (i := 6) (oi := { dst := some 25, op := Op.move (Operand.tmp 24), type := 4, pos := "law.go:160", after := #[{ on := 5, ground := Ground.data }, { on := 2, ground := Ground.chain }], guard := none }) (v := ?v6q) rfl (by kernel_rfl) (by kernel_rfl) (by kernel_rfl) (fun _ _ _ h => h) (Or.inl ⟨by rfl, ?y6q⟩) (by assumption) ?r6q
  case y6q => (intro x hx; (try dsimp only at hx); go_simp; try with_reducible rfl)
  try simp only [Act.put, List.setIfInBounds_toArray, List.set_cons_zero, List.set_cons_succ]
  refine wpAnyH_take (i := 7) (oi := { dst := some 26, op := Op.load 25 (Operand.tmp 6), type := 25, pos := "law.go:160", after := #[{ on := 6, ground := Ground.guard }], guard := some (6, false) }) (v := ?v7q) rfl (by kernel_rfl) (by kernel_rfl) (by kernel_rfl) (fun _ _ _ h => h) (Or.inl ⟨by rfl, ?y7q⟩) (by assumption) ?r7q
  case y7q => (intro x hx; (try dsimp only at hx); go_simp; try with_reducible rfl)
  try simp only [Act.put, List.setIfInBounds_toArray, List.set_cons_zero, List.set_cons_succ]
  refine wpAnyH_take (i := 8) (oi := { dst := some 27, op := Op.load 25 (Operand.tmp 2), type := 25, pos := "law.go:160", after := #[{ on := 6, ground := Ground.guard }], guard := some (6, false) }) (v := ?v8q) rfl (by kernel_rfl) (by kernel_rfl) (by kernel_rfl) (fun _ _ _ h => h) (Or.inl ⟨by rfl, ?y8q⟩) (by assumption) ?r8q
  case y8q => (intro x hx; (try dsimp only at hx); go_simp; try with_reducible rfl)
  try simp only [Act.put, List.setIfInBounds_toArray, List.set_cons_zero, List.set_cons_succ]
  refine wpAnyH_ready (rs := [9]) (by kernel_rfl) (by simp) ?_
  refine AllReadyH.cons (o := { dst := some 28, op := Op.call { callee := Callee.value (Operand.func 8), args := #[Operand.tmp 26, Operand.tmp 27], argTypes := #[25, 25] }, type := 4, pos := "law.go:160", after := #[{ on := 7, ground := Ground.data }, { on := 8, ground := Ground.data }, { on := 6, ground := Ground.chain }, { on := 6, ground := Ground.guard }], guard := some (6, false) }) rfl (fun K hK => ?_) AllReadyH.nil
  go_simp
  refine (same_any _ _ _ _ _ _ a2 a n c2 c r.fs _ (HRG.out.below HBD.out) (HRA.out.below (below_trans HBT.out HBD.out)) hn2).mono ?_; rintro e z1 ⟨rfl, bl⟩
  have HB1 : Hid (Below t3.heap.size t3 z1) := below_trans HBD.out bl
  have HF1 : Hid (z1.heap[w.heap.size]? = some (.cells #[.int .u64 (r.fl : Int), .int .i64 r.c, .int .i64 r.l, .int .i64 r.u, .int .i64 r.b, .bool r.s, .slice a n c] 25 (0, 0))) := (bl.block _ (Array.getElem?_eq_some_iff.1 HFD.out).1).trans HFD.out
  have HG1 : Hid (z1.heap[gb]? = some (.cells #[.int .u64 (r.fl : Int), .int .i64 r.c, .int .i64 r.l, .int .i64 r.u, .int .i64 r.b, .bool r.s, .slice a2 n c2] 25 (0, 0))) := (bl.block _ (Array.getElem?_eq_some_iff.1 HGD.out).1).trans HGD.out
  have hSnew := both14 HF1.out HG1.out
  clear bl
  go_wp2_with fail
  refine hK.out _ _ hSnew (fun hHeld9 => ?_)
  clear hK K hSnew
  clear hHeld
  have hHeld := hHeld9
  clear hHeld9
  try simp only [Act.put, List.setIfInBounds_toArray, List.set_cons_zero, List.set_cons_succ]
  refine wpAnyH_take (i := 10) (oi := { dst := some 29, op := Op.unOp UnOp.not 4 (Operand.tmp 28), type := 4, pos := "law.go:160", after := #[{ on := 9, ground := Ground.data }, { on := 6, ground := Ground.guard }], guard := some (6, false) }) (v := ?v10q) rfl (by kernel_rfl) (by kernel_rfl) (by kernel_rfl) (fun _ _ _ h => h) (Or.inl ⟨by rfl, ?y10q⟩) (by assumption) ?r10q
  case y10q => (intro x hx; (try dsimp only at hx); go_simp; try with_reducible rfl)
  try simp only [Act.put, List.setIfInBounds_toArray, List.set_cons_zero, List.set_cons_succ]
  refine wpAnyH_take (i := 11) (oi := { dst := some 30, op := Op.pick (Operand.tmp 25) (Operand.const (Value.bool true)) (Operand.tmp 29), type := 4, pos := "law.go:160", after := #[{ on := 6, ground := Ground.data }, { on := 10, ground := Ground.data }], guard := none }) (v := ?v11q) rfl (by kernel_rfl) (by kernel_rfl) (by kernel_rfl) (fun _ _ _ h => h) (Or.inl ⟨by rfl, ?y11q⟩) (by assumption) ?r11q
  case y11q => (intro x hx; (try dsimp only at hx); go_simp; try with_reducible rfl)
  try simp only [Act.put, List.setIfInBounds_toArray, List.set_cons_zero, List.set_cons_succ]
  refine wpAnyH_take (i := 12) (oi := { dst := some 31, op := Op.move (Operand.tmp 30), type := 4, pos := "law.go:160", after := #[{ on := 11, ground := Ground.data }, { on := 9, ground := Ground.chain }], guard := none }) (v := ?v12q) rfl (by kernel_rfl) (by kernel_rfl) (by kernel_rfl) (fun _ _ _ h => h) (Or.inl ⟨by rfl, ?y12q⟩) (by assumption) ?r12q
  case y12q => (intro x hx; (try dsimp only at hx); go_simp; try with_reducible rfl)
  try simp only [Act.put, List.setIfInBounds_toArray, List.set_cons_zero, List.set_cons_succ]
  refine wpAnyH_take (i := 13) (oi := { dst := some 32, op := Op.load 25 (Operand.tmp 6), type := 25, pos := "law.go:160", after := #[{ on := 12, ground := Ground.guard }], guard := some (12, false) }) (v := ?v13q) rfl (by kernel_rfl) (by kernel_rfl) (by kernel_rfl) (fun _ _ _ h => h) (Or.inl ⟨by rfl, ?y13q⟩) (by assumption) ?r13q
  case y13q => (intro x hx; (try dsimp only at hx); go_simp; try with_reducible rfl)
  try simp only [Act.put, List.setIfInBounds_toArray, List.set_cons_zero, List.set_cons_succ]
  refine wpAnyH_take (i := 15) (oi := { dst := some 34, op := Op.load 25 (Operand.tmp 2), type := 25, pos := "law.go:160", after := #[{ on := 12, ground := Ground.guard }], guard := some (12, false) }) (v := ?v15q) rfl (by kernel_rfl) (by kernel_rfl) (by kernel_rfl) (fun _ _ _ h => h) (Or.inl ⟨by rfl, ?y15q⟩) (by assumption) ?r15q
  case y15q => (intro x hx; (try dsimp only at hx); go_simp; try with_reducible rfl)
  try simp only [Act.put, List.setIfInBounds_toArray, List.set_cons_zero, List.set_cons_succ]
  refine wpAnyH_ready (rs := [14]) (by kernel_rfl) (by simp) ?_
  refine AllReadyH.cons (o := { dst := some 33, op := Op.call { callee := Callee.value (Operand.func 12), args := #[Operand.tmp 32], argTypes := #[25] }, type := 4, pos := "law.go:160", after := #[{ on := 13, ground := Ground.data }, { on := 12, ground := Ground.chain }, { on := 12, ground := Ground.guard }], guard := some (12, false) }) rfl (fun K hK => ?_) AllReadyH.nil
  go_simp
  refine (sound_any _ _ _ _ _ _ a2 n c2 r.fs _ (HRG.out.below HB1.out) hn2).mono ?_; rintro e z2 ⟨rfl, bl⟩; rw [HSD.out]
  have HB2 : Hid (Below t3.heap.size t3 z2) := below_trans HB1.out bl
  have HF2 : Hid (z2.heap[w.heap.size]? = some (.cells #[.int .u64 (r.fl : Int), .int .i64 r.c, .int .i64 r.l, .int .i64 r.u, .int .i64 r.b, .bool r.s, .slice a n c] 25 (0, 0))) := (bl.block _ (Array.getElem?_eq_some_iff.1 HF1.out).1).trans HF1.out
  have HG2 : Hid (z2.heap[gb]? = some (.cells #[.int .u64 (r.fl : Int), .int .i64 r.c, .int .i64 r.l, .int .i64 r.u, .int .i64 r.b, .bool r.s, .slice a2 n c2] 25 (0, 0))) := (bl.block _ (Array.getElem?_eq_some_iff.1 HG1.out).1).trans HG1.out
  have hSnew := both14 HF2.out HG2.out
  clear bl
  go_wp2_with fail
  refine hK.out _ _ hSnew (fun hHeld14 => ?_)
  clear hK K hSnew
  clear hHeld
  have hHeld := hHeld14
  clear hHeld14
  try simp only [Act.put, List.setIfInBounds_toArray, List.set_cons_zero, List.set_cons_succ]
  refine wpAnyH_ready (rs := [16]) (by kernel_rfl) (by simp) ?_
  refine AllReadyH.cons (o := { dst := some 35, op := Op.call { callee := Callee.value (Operand.func 12), args := #[Operand.tmp 34], argTypes := #[25] }, type := 4, pos := "law.go:160", after := #[{ on := 15, ground := Ground.data }, { on := 14, ground := Ground.chain }, { on := 12, ground := Ground.guard }], guard := some (12, false) }) rfl (fun K hK => ?_) AllReadyH.nil
  go_simp
  refine (sound_any _ _ _ _ _ _ a n c r.fs _ (HRA.out.below (below_trans HBT.out HB2.out)) hn2).mono ?_; rintro e z3 ⟨rfl, bl⟩; rw [HSD.out]
  have HB3 : Hid (Below t3.heap.size t3 z3) := below_trans HB2.out bl
  have HF3 : Hid (z3.heap[w.heap.size]? = some (.cells #[.int .u64 (r.fl : Int), .int .i64 r.c, .int .i64 r.l, .int .i64 r.u, .int .i64 r.b, .bool r.s, .slice a n c] 25 (0, 0))) := (bl.block _ (Array.getElem?_eq_some_iff.1 HF2.out).1).trans HF2.out
  have HG3 : Hid (z3.heap[gb]? = some (.cells #[.int .u64 (r.fl : Int), .int .i64 r.c, .int .i64 r.l, .int .i64 r.u, .int .i64 r.b, .bool r.s, .slice a2 n c2] 25 (0, 0))) := (bl.block _ (Array.getElem?_eq_some_iff.1 HG2.out).1).trans HG2.out
  have hSnew := both14 HF3.out HG3.out
  clear bl
  go_wp2_with fail
  refine hK.out _ _ hSnew (fun hHeld16 => ?_)
  clear hK K hSnew
  clear hHeld
  have hHeld := hHeld16
  clear hHeld16
  try simp only [Act.put, List.setIfInBounds_toArray, List.set_cons_zero, List.set_cons_succ]
  refine wpAnyH_take (i := 17) (oi := { dst := some 36, op := Op.binOp BinOp.neq 4 (Operand.tmp 33) (Operand.tmp 35) 4, type := 4, pos := "law.go:160", after := #[{ on := 14, ground := Ground.data }, { on := 16, ground := Ground.data }, { on := 12, ground := Ground.guard }], guard := some (12, false) }) (v := ?v17q) rfl (by kernel_rfl) (by kernel_rfl) (by kernel_rfl) (fun _ _ _ h => h) (Or.inl ⟨by rfl, ?y17q⟩) (by assumption) ?r17q
  case y17q => (intro x hx; (try dsimp only at hx); go_simp; try with_reducible rfl)
  try simp only [Act.put, List.setIfInBounds_toArray, List.set_cons_zero, List.set_cons_succ]
  refine wpAnyH_take (i := 18) (oi := { dst := some 37, op := Op.pick (Operand.tmp 31) (Operand.const (Value.bool true)) (Operand.tmp 36), type := 4, pos := "law.go:160", after := #[{ on := 12, ground := Ground.data }, { on := 17, ground := Ground.data }], guard := none }) (v := ?v18q) rfl (by kernel_rfl) (by kernel_rfl) (by kernel_rfl) (fun _ _ _ h => h) (Or.inl ⟨by rfl, ?y18q⟩) (by assumption) ?r18q
  case y18q => (intro x hx; (try dsimp only at hx); go_simp; try with_reducible rfl)
  try simp only [Act.put, List.setIfInBounds_toArray, List.set_cons_zero, List.set_cons_succ]
  refine wpAnyH_take (i := 19) (oi := { dst := some 38, op := Op.move (Operand.tmp 37), type := 4, pos := "law.go:160", after := #[{ on := 18, ground := Ground.data }, { on := 16, ground := Ground.chain }], guard := none }) (v := ?v19q) rfl (by kernel_rfl) (by kernel_rfl) (by kernel_rfl) (fun _ _ _ h => h) (Or.inl ⟨by rfl, ?y19q⟩) (by assumption) ?r19q
  case y19q => (intro x hx; (try dsimp only at hx); go_simp; try with_reducible rfl)
  try simp only [Act.put, List.setIfInBounds_toArray, List.set_cons_zero, List.set_cons_succ]
  refine wpAnyH_take (i := 20) (oi := { dst := some 39, op := Op.load 25 (Operand.tmp 2), type := 25, pos := "law.go:160", after := #[{ on := 19, ground := Ground.guard }], guard := some (19, false) }) (v := ?v20q) rfl (by kernel_rfl) (by kernel_rfl) (by kernel_rfl) (fun _ _ _ h => h) (Or.inl ⟨by rfl, ?y20q⟩) (by assumption) ?r20q
  case y20q => (intro x hx; (try dsimp only at hx); go_simp; try with_reducible rfl)
  try simp only [Act.put, List.setIfInBounds_toArray, List.set_cons_zero, List.set_cons_succ]
  refine wpAnyH_take (i := 22) (oi := { dst := some 41, op := Op.load 25 (Operand.tmp 2), type := 25, pos := "law.go:160", after := #[{ on := 19, ground := Ground.guard }], guard := some (19, false) }) (v := ?v22q) rfl (by kernel_rfl) (by kernel_rfl) (by kernel_rfl) (fun _ _ _ h => h) (Or.inl ⟨by rfl, ?y22q⟩) (by assumption) ?r22q
  case y22q => (intro x hx; (try dsimp only at hx); go_simp; try with_reducible rfl)
  try simp only [Act.put, List.setIfInBounds_toArray, List.set_cons_zero, List.set_cons_succ]
  refine wpAnyH_ready (rs := [21]) (by kernel_rfl) (by simp) ?_
  refine AllReadyH.cons (o := { dst := some 40, op := Op.call { callee := Callee.value (Operand.func 12), args := #[Operand.tmp 39], argTypes := #[25] }, type := 4, pos := "law.go:160", after := #[{ on := 20, ground := Ground.data }, { on := 19, ground := Ground.chain }, { on := 19, ground := Ground.guard }], guard := some (19, false) }) rfl (fun K hK => ?_) AllReadyH.nil
  go_simp
  refine (sound_any _ _ _ _ _ _ a n c r.fs _ (HRA.out.below (below_trans HBT.out HB3.out)) hn2).mono ?_; rintro e z4 ⟨rfl, bl⟩; rw [HSD.out]
  have HB4 : Hid (Below t3.heap.size t3 z4) := below_trans HB3.out bl
  have HF4 : Hid (z4.heap[w.heap.size]? = some (.cells #[.int .u64 (r.fl : Int), .int .i64 r.c, .int .i64 r.l, .int .i64 r.u, .int .i64 r.b, .bool r.s, .slice a n c] 25 (0, 0))) := (bl.block _ (Array.getElem?_eq_some_iff.1 HF3.out).1).trans HF3.out
  have HG4 : Hid (z4.heap[gb]? = some (.cells #[.int .u64 (r.fl : Int), .int .i64 r.c, .int .i64 r.l, .int .i64 r.u, .int .i64 r.b, .bool r.s, .slice a2 n c2] 25 (0, 0))) := (bl.block _ (Array.getElem?_eq_some_iff.1 HG3.out).1).trans HG3.out
  have hSnew := both14 HF4.out HG4.out
  clear bl
  go_wp2_with fail
  refine hK.out _ _ hSnew (fun hHeld21 => ?_)
  clear hK K hSnew
  clear hHeld
  have hHeld := hHeld21
  clear hHeld21
  try simp only [Act.put, List.setIfInBounds_toArray, List.set_cons_zero, List.set_cons_succ]
  refine wpAnyH_ready (rs := [23]) (by kernel_rfl) (by simp) ?_
  refine AllReadyH.cons (o := { dst := some 42, op := Op.call { callee := Callee.value (Operand.func 13), args := #[Operand.tmp 41], argTypes := #[25] }, type := 4, pos := "law.go:160", after := #[{ on := 22, ground := Ground.data }, { on := 21, ground := Ground.chain }, { on := 19, ground := Ground.guard }], guard := some (19, false) }) rfl (fun K hK => ?_) AllReadyH.nil
  go_simp
  refine (rsound_any _ _ _ _ _ _ a n c r.fs _ (HRA.out.below (below_trans HBT.out HB4.out)) hn2).mono ?_; rintro e z5 ⟨rfl, bl⟩; rw [HSD.out]
  have HB5 : Hid (Below t3.heap.size t3 z5) := below_trans HB4.out bl
  have HF5 : Hid (z5.heap[w.heap.size]? = some (.cells #[.int .u64 (r.fl : Int), .int .i64 r.c, .int .i64 r.l, .int .i64 r.u, .int .i64 r.b, .bool r.s, .slice a n c] 25 (0, 0))) := (bl.block _ (Array.getElem?_eq_some_iff.1 HF4.out).1).trans HF4.out
  have HG5 : Hid (z5.heap[gb]? = some (.cells #[.int .u64 (r.fl : Int), .int .i64 r.c, .int .i64 r.l, .int .i64 r.u, .int .i64 r.b, .bool r.s, .slice a2 n c2] 25 (0, 0))) := (bl.block _ (Array.getElem?_eq_some_iff.1 HG4.out).1).trans HG4.out
  have hSnew := both14 HF5.out HG5.out
  clear bl
  go_wp2_with fail
  refine hK.out _ _ hSnew (fun hHeld23 => ?_)
  clear hK K hSnew
  clear hHeld
  have hHeld := hHeld23
  clear hHeld23
  try simp only [Act.put, List.setIfInBounds_toArray, List.set_cons_zero, List.set_cons_succ]
  refine wpAnyH_take (i := 24) (oi := { dst := some 43, op := Op.binOp BinOp.neq 4 (Operand.tmp 40) (Operand.tmp 42) 4, type := 4, pos := "law.go:160", after := #[{ on := 21, ground := Ground.data }, { on := 23, ground := Ground.data }, { on := 19, ground := Ground.guard }], guard := some (19, false) }) (v := ?v24q) rfl (by kernel_rfl) (by kernel_rfl) (by kernel_rfl) (fun _ _ _ h => h) (Or.inl ⟨by rfl, ?y24q⟩) (by assumption) ?r24q
  case y24q => (intro x hx; (try dsimp only at hx); go_simp; try with_reducible rfl)
  try simp only [Act.put, List.setIfInBounds_toArray, List.set_cons_zero, List.set_cons_succ]
  refine wpAnyH_take (i := 25) (oi := { dst := some 44, op := Op.pick (Operand.tmp 38) (Operand.const (Value.bool true)) (Operand.tmp 43), type := 4, pos := "law.go:160", after := #[{ on := 19, ground := Ground.data }, { on := 24, ground := Ground.data }], guard := none }) (v := ?v25q) rfl (by kernel_rfl) (by kernel_rfl) (by kernel_rfl) (fun _ _ _ h => h) (Or.inl ⟨by rfl, ?y25q⟩) (by assumption) ?r25q
  case y25q => (intro x hx; (try dsimp only at hx); go_simp; try with_reducible rfl)
  try simp only [Act.put, List.setIfInBounds_toArray, List.set_cons_zero, List.set_cons_succ]
  refine wpAnyH_done (by kernel_rfl) ?_ _
  have HBZ : Hid (Below w.heap.size w z5) := below_trans HBT.out HB5.out
  clear HB1 HB2 HB3 HB4 HF1 HF2 HF3 HF4 HF5 HG1 HG2 HG3 HG4 HG5 HBD HFD HGD HB5 HGT HFT HBT
  go_wp2_with (first
    | (go_at_call 10; refine (read_bad tx _ (by omega) (HV.out _ HBZ.out).1 (HV.out _ HBZ.out).2.2.1 (HV.out _ HBZ.out).2.1 (HV.out _ HBZ.out).2.2.2 m HX.out).mono ?_; rintro e t6 ⟨rfl, bl⟩
       have HB6 : Hid (Below w.heap.size w t6) := HBZ.out.trans (below_low bl HBZ.out.size)
       clear bl
       have HG6 : Hid ((t6.alloc (.cells #[.int .u64 0, .int .i64 0, .int .i64 0, .int .i64 0, .int .i64 0, .bool false, .slice none 0 0] 25)).heap[t6.heap.size]? = some (.cells #[.int .u64 0, .int .i64 0, .int .i64 0, .int .i64 0, .int .i64 0, .bool false, .slice none 0 0] 25 (0, 0))) := heap_alloc_new _ _
       have HB7 : Hid (Below w.heap.size w (t6.alloc (.cells #[.int .u64 0, .int .i64 0, .int .i64 0, .int .i64 0, .int .i64 0, .bool false, .slice none 0 0] 25))) := HB6.out.alloc HB6.out.size _
       obtain ⟨x0, x1, x2, x3, x4, x5, x6⟩ := cells7 HG6.out))
  go_ret
  exact ⟨rfl, HB7.out⟩

set_option maxHeartbeats 8000000 in
set_option maxRecDepth 100000 in
theorem there_good (r : Rp) (a : Option Addr) (n c : Nat) (tx : List UInt8) (w : World) (hr : ReadsF w a n r.fs) (ho : r.Ok) (htl : tx.length ≤ 1048576) (ht : P10 w) (hw : KW w) (hv : EV w) (hw9 : 9 ≤ w.heap.size) (m : Nat) (r2 : Rp) (hx : rp tx = (some r2, m)) (ho2 : r2.Ok) (hs2 : showB r2 = tx) :
    Calls Tryd.prog 5 #[.agg #[.int .u64 (r.fl : Int), .int .i64 r.c, .int .i64 r.l, .int .i64 r.u, .int .i64 r.b, .bool r.s, .slice a n c], .string ⟨tx.toArray⟩] w fun e w' => e = .returned (.bool true) ∧ Below w.heap.size w w' := by
  have hn : n ≤ 1048576 := by rw [← hr.1]; exact ho.few
  have HB0 : Hid (Below w.heap.size w (w.alloc (.cells #[.int .u64 (r.fl : Int), .int .i64 r.c, .int .i64 r.l, .int .i64 r.u, .int .i64 r.b, .bool r.s, .slice a n c] 25))) := below_alloc' w _
  have HF0 : Hid ((w.alloc (.cells #[.int .u64 (r.fl : Int), .int .i64 r.c, .int .i64 r.l, .int .i64 r.u, .int .i64 r.b, .bool r.s, .slice a n c] 25)).heap[w.heap.size]? = some (.cells #[.int .u64 (r.fl : Int), .int .i64 r.c, .int .i64 r.l, .int .i64 r.u, .int .i64 r.b, .bool r.s, .slice a n c] 25 (0, 0))) := heap_alloc_new w _
  have HRA0 : Hid (ReadsF w a n r.fs) := hr
  have HV : Hid (∀ u : World, Below w.heap.size w u → P10 u ∧ KW u ∧ EV u ∧ 9 ≤ u.heap.size) := fun u hu => ⟨p10_below ht hu, hw.below hu, hv.below hu hw9, Nat.le_trans hw9 hu.size⟩
  have HO : Hid r.Ok := ho
  have HSL : Hid ((showB r).length < 4294967281) := show_len r ho
  have HRP : Hid (rp (showB r) = (some r, 6 + r.fs.length)) := rp_show r ho
  have HX : Hid (rp tx = (some r2, m)) := hx
  have HO2 : Hid r2.Ok := ho2
  have HS2 : Hid (showB r2 = tx) := hs2
  obtain ⟨A, hA⟩ : ∃ A, (!r.fs.any fun f => bad1 f.k) = A := ⟨_, rfl⟩
  have HSD : Hid ((!r.fs.any fun f => bad1 f.k) = A) := hA
  obtain ⟨S, hS⟩ : ∃ S, showB r = S := ⟨_, rfl⟩
  rw [hS] at HSL HRP
  have HS : Hid (showB r = S) := hS
  clear hr ho ht hw hv hx hA hS ho2 hs2
  obtain ⟨x0, x1, x2, x3, x4, x5, x6⟩ := cells7 HF0.out
  go_enter Tryd.func5, Tryd.ntmps5
  go_upto_region 3 with (first
    | (go_at_call 6; refine (show_any r a n c _ (HRA0.out.below HB0.out) HO.out (HV.out _ HB0.out).1 (HV.out _ HB0.out).2.1).mono ?_; rintro e t1 ⟨rfl, bl⟩; rw [HS.out]
       have HB1 : Hid (Below w.heap.size w t1) := HB0.out.trans (below_low bl HB0.out.size)
       have HF1 : Hid (t1.heap[w.heap.size]? = some (.cells #[.int .u64 (r.fl : Int), .int .i64 r.c, .int .i64 r.l, .int .i64 r.u, .int .i64 r.b, .bool r.s, .slice a n c] 25 (0, 0))) := (bl.block _ (Array.getElem?_eq_some_iff.1 HF0.out).1).trans HF0.out
       clear bl x0 x1 x2 x3 x4 x5 x6)
    | (go_at_call 10; refine (read_good S _ HSL.out (HV.out _ HB1.out).1 (HV.out _ HB1.out).2.2.1 (HV.out _ HB1.out).2.1 (HV.out _ HB1.out).2.2.2 _ r HRP.out).mono ?_; rintro e t2 ⟨⟨a2, n2, c2, rfl, hrg⟩, bl⟩
       have HB2 : Hid (Below w.heap.size w t2) := HB1.out.trans (below_low bl HB1.out.size)
       have HF2 : Hid (t2.heap[w.heap.size]? = some (.cells #[.int .u64 (r.fl : Int), .int .i64 r.c, .int .i64 r.l, .int .i64 r.u, .int .i64 r.b, .bool r.s, .slice a n c] 25 (0, 0))) := (bl.block _ (Array.getElem?_eq_some_iff.1 HF1.out).1).trans HF1.out
       have HRG2 : Hid (ReadsF t2 a2 n2 r.fs) := hrg
       clear bl hrg))
  have hnn : n = n2 := HRA0.out.1.symm.trans HRG2.out.1
  subst hnn
  have HGT : Hid ((t2.alloc (.cells #[.int .u64 (r.fl : Int), .int .i64 r.c, .int .i64 r.l, .int .i64 r.u, .int .i64 r.b, .bool r.s, .slice a2 n c2] 25)).heap[t2.heap.size]? = some (.cells #[.int .u64 (r.fl : Int), .int .i64 r.c, .int .i64 r.l, .int .i64 r.u, .int .i64 r.b, .bool r.s, .slice a2 n c2] 25 (0, 0))) := heap_alloc_new _ _
  have HFT : Hid ((t2.alloc (.cells #[.int .u64 (r.fl : Int), .int .i64 r.c, .int .i64 r.l, .int .i64 r.u, .int .i64 r.b, .bool r.s, .slice a2 n c2] 25)).heap[w.heap.size]? = some (.cells #[.int .u64 (r.fl : Int), .int .i64 r.c, .int .i64 r.l, .int .i64 r.u, .int .i64 r.b, .bool r.s, .slice a n c] 25 (0, 0))) := (Below.heap_alloc _ _ _ (Array.getElem?_eq_some_iff.1 HF2.out).1).trans HF2.out
  have HBT : Hid (Below w.heap.size w (t2.alloc (.cells #[.int .u64 (r.fl : Int), .int .i64 r.c, .int .i64 r.l, .int .i64 r.u, .int .i64 r.b, .bool r.s, .slice a2 n c2] 25))) := HB2.out.alloc HB2.out.size _
  have HRG : Hid (ReadsF (t2.alloc (.cells #[.int .u64 (r.fl : Int), .int .i64 r.c, .int .i64 r.l, .int .i64 r.u, .int .i64 r.b, .bool r.s, .slice a2 n c2] 25)) a2 n r.fs) := HRG2.out.below (below_alloc' _ _)
  obtain ⟨t3, ht3⟩ : ∃ t3, t2.alloc (.cells #[.int .u64 (r.fl : Int), .int .i64 r.c, .int .i64 r.l, .int .i64 r.u, .int .i64 r.b, .bool r.s, .slice a2 n c2] 25) = t3 := ⟨_, rfl⟩
  obtain ⟨gb, hgb⟩ : ∃ gb, t2.heap.size = gb := ⟨_, rfl⟩
  rw [ht3] at HGT HFT HBT HRG
  rw [hgb] at HGT
  try rw [ht3]
  try rw [hgb]
  have HRA : Hid (ReadsF w a n r.fs) := HRA0.out
  have hn2 : n ≤ 140737488355000 := by omega
  clear HB0 HF0 HB1 HF1 HB2 HF2 HRG2 HSL HRP HS HRA0 ht3 hgb
  have HBD : Hid (Below t3.heap.size t3 t3.drew) := (Below.refl _ _).drew
  have HFD : Hid (t3.drew.heap[w.heap.size]? = some (.cells #[.int .u64 (r.fl : Int), .int .i64 r.c, .int .i64 r.l, .int .i64 r.u, .int .i64 r.b, .bool r.s, .slice a n c] 25 (0, 0))) := HFT.out
  have HGD : Hid (t3.drew.heap[gb]? = some (.cells #[.int .u64 (r.fl : Int), .int .i64 r.c, .int .i64 r.l, .int .i64 r.u, .int .i64 r.b, .bool r.s, .slice a2 n c2] 25 (0, 0))) := HGT.out
  refine wp_region_held_drew (S := (fun y : World => y.cell? ⟨w.heap.size, 0, none⟩ = some (.int .u64 (r.fl : Int)) ∧ y.cell? ⟨w.heap.size, 1, none⟩ = some (.int .i64 r.c) ∧ y.cell? ⟨w.heap.size, 2, none⟩ = some (.int .i64 r.l) ∧ y.cell? ⟨w.heap.size, 3, none⟩ = some (.int .i64 r.u) ∧ y.cell? ⟨w.heap.size, 4, none⟩ = some (.int .i64 r.b) ∧ y.cell? ⟨w.heap.size, 5, none⟩ = some (.bool r.s) ∧ y.cell? ⟨w.heap.size, 6, none⟩ = some (.slice a n c) ∧ y.cell? ⟨gb, 0, none⟩ = some (.int .u64 (r.fl : Int)) ∧ y.cell? ⟨gb, 1, none⟩ = some (.int .i64 r.c) ∧ y.cell? ⟨gb, 2, none⟩ = some (.int .i64 r.l) ∧ y.cell? ⟨gb, 3, none⟩ = some (.int .i64 r.u) ∧ y.cell? ⟨gb, 4, none⟩ = some (.int .i64 r.b) ∧ y.cell? ⟨gb, 5, none⟩ = some (.bool r.s) ∧ y.cell? ⟨gb, 6, none⟩ = some (.slice a2 n c2))) (by kernel_rfl) (both14 HFD.out HGD.out) (fun hHeld => ?_)
  refine wpAnyH_take (i := 0) (oi := { dst := some 19, op := Op.move (Operand.tmp 7), type := 35, pos := "law.go:160", after := #[], guard := none }) (v := ?v0q) rfl (by kernel_rfl) (by kernel_rfl) (by kernel_rfl) (fun _ _ _ h => h) (Or.inl ⟨by rfl, ?y0q⟩) (by assumption) ?r0q
  case y0q => (intro x hx; (try dsimp only at hx); go_simp; try with_reducible rfl)
  try simp only [Act.put, List.setIfInBounds_toArray, List.set_cons_zero, List.set_cons_succ]
  refine wpAnyH_take (i := 1) (oi := { dst := some 20, op := Op.binOp BinOp.neq 3 (Operand.tmp 19) (Operand.const (Value.int IntKind.i64 0)) 3, type := 4, pos := "law.go:160", after := #[{ on := 0, ground := Ground.data }], guard := none }) (v := ?v1q) rfl (by kernel_rfl) (by kernel_rfl) (by kernel_rfl) (fun _ _ _ h => h) (Or.inl ⟨by rfl, ?y1q⟩) (by assumption) ?r1q
  case y1q => (intro x hx; (try dsimp only at hx); go_simp; try with_reducible rfl)
  try simp only [Act.put, List.setIfInBounds_toArray, List.set_cons_zero, List.set_cons_succ]
  refine wpAnyH_take (i := 2) (oi := { dst := some 21, op := Op.move (Operand.tmp 20), type := 4, pos := "law.go:160", after := #[{ on := 1, ground := Ground.data }], guard := none }) (v := ?v2q) rfl (by kernel_rfl) (by kernel_rfl) (by kernel_rfl) (fun _ _ _ h => h) (Or.inl ⟨by rfl, ?y2q⟩) (by assumption) ?r2q
  case y2q => (intro x hx; (try dsimp only at hx); go_simp; try with_reducible rfl)
  try simp only [Act.put, List.setIfInBounds_toArray, List.set_cons_zero, List.set_cons_succ]
  refine wpAnyH_take (i := 3) (oi := { dst := some 22, op := Op.move (Operand.tmp 8), type := 3, pos := "law.go:160", after := #[{ on := 2, ground := Ground.guard }], guard := some (2, false) }) (v := ?v3q) rfl (by kernel_rfl) (by kernel_rfl) (by kernel_rfl) (fun _ _ _ h => h) (Or.inl ⟨by rfl, ?y3q⟩) (by assumption) ?r3q
  case y3q => (intro x hx; (try dsimp only at hx); go_simp; try with_reducible rfl)
  try simp only [Act.put, List.setIfInBounds_toArray, List.set_cons_zero, List.set_cons_succ]
  refine wpAnyH_take (i := 4) (oi := { dst := some 23, op := Op.binOp BinOp.neq 3 (Operand.tmp 22) (Operand.const (Value.int IntKind.i64 0)) 3, type := 4, pos := "law.go:160", after := #[{ on := 3, ground := Ground.data }, { on := 2, ground := Ground.guard }], guard := some (2, false) }) (v := ?v4q) rfl (by kernel_rfl) (by kernel_rfl) (by kernel_rfl) (fun _ _ _ h => h) (Or.inl ⟨by rfl, ?y4q⟩) (by assumption) ?r4q
  case y4q => (intro x hx; (try dsimp only at hx); go_simp; try with_reducible rfl)
  try simp only [Act.put, List.setIfInBounds_toArray, List.set_cons_zero, List.set_cons_succ]
  refine wpAnyH_take (i := 5) (oi := { dst := some 24, op := Op.pick (Operand.tmp 21) (Operand.const (Value.bool true)) (Operand.tmp 23), type := 4, pos := "law.go:160", after := #[{ on := 2, ground := Ground.data }, { on := 4, ground := Ground.data }], guard := none }) (v := ?v5q) rfl (by kernel_rfl) (by kernel_rfl) (by kernel_rfl) (fun _ _ _ h => h) (Or.inl ⟨by rfl, ?y5q⟩) (by assumption) ?r5q
  case y5q => (intro x hx; (try dsimp only at hx); go_simp; try with_reducible rfl)
  try simp only [Act.put, List.setIfInBounds_toArray, List.set_cons_zero, List.set_cons_succ]
  refine wpAnyH_take (i := 6) (oi := { dst := some 25, op := Op.move (Operand.tmp 24), type := 4, pos := "law.go:160", after := #[{ on := 5, ground := Ground.data }, { on := 2, ground := Ground.chain }], guard := none }) (v := ?v6q) rfl (by kernel_rfl) (by kernel_rfl) (by kernel_rfl) (fun _ _ _ h => h) (Or.inl ⟨by rfl, ?y6q⟩) (by assumption) ?r6q
  case y6q => (intro x hx; (try dsimp only at hx); go_simp; try with_reducible rfl)
  try simp only [Act.put, List.setIfInBounds_toArray, List.set_cons_zero, List.set_cons_succ]
  refine wpAnyH_take (i := 7) (oi := { dst := some 26, op := Op.load 25 (Operand.tmp 6), type := 25, pos := "law.go:160", after := #[{ on := 6, ground := Ground.guard }], guard := some (6, false) }) (v := ?v7q) rfl (by kernel_rfl) (by kernel_rfl) (by kernel_rfl) (fun _ _ _ h => h) (Or.inl ⟨by rfl, ?y7q⟩) (by assumption) ?r7q
  case y7q => (intro x hx; (try dsimp only at hx); go_simp; try with_reducible rfl)
  try simp only [Act.put, List.setIfInBounds_toArray, List.set_cons_zero, List.set_cons_succ]
  refine wpAnyH_take (i := 8) (oi := { dst := some 27, op := Op.load 25 (Operand.tmp 2), type := 25, pos := "law.go:160", after := #[{ on := 6, ground := Ground.guard }], guard := some (6, false) }) (v := ?v8q) rfl (by kernel_rfl) (by kernel_rfl) (by kernel_rfl) (fun _ _ _ h => h) (Or.inl ⟨by rfl, ?y8q⟩) (by assumption) ?r8q
  case y8q => (intro x hx; (try dsimp only at hx); go_simp; try with_reducible rfl)
  try simp only [Act.put, List.setIfInBounds_toArray, List.set_cons_zero, List.set_cons_succ]
  refine wpAnyH_ready (rs := [9]) (by kernel_rfl) (by simp) ?_
  refine AllReadyH.cons (o := { dst := some 28, op := Op.call { callee := Callee.value (Operand.func 8), args := #[Operand.tmp 26, Operand.tmp 27], argTypes := #[25, 25] }, type := 4, pos := "law.go:160", after := #[{ on := 7, ground := Ground.data }, { on := 8, ground := Ground.data }, { on := 6, ground := Ground.chain }, { on := 6, ground := Ground.guard }], guard := some (6, false) }) rfl (fun K hK => ?_) AllReadyH.nil
  go_simp
  refine (same_any _ _ _ _ _ _ a2 a n c2 c r.fs _ (HRG.out.below HBD.out) (HRA.out.below (below_trans HBT.out HBD.out)) hn2).mono ?_; rintro e z1 ⟨rfl, bl⟩
  have HB1 : Hid (Below t3.heap.size t3 z1) := below_trans HBD.out bl
  have HF1 : Hid (z1.heap[w.heap.size]? = some (.cells #[.int .u64 (r.fl : Int), .int .i64 r.c, .int .i64 r.l, .int .i64 r.u, .int .i64 r.b, .bool r.s, .slice a n c] 25 (0, 0))) := (bl.block _ (Array.getElem?_eq_some_iff.1 HFD.out).1).trans HFD.out
  have HG1 : Hid (z1.heap[gb]? = some (.cells #[.int .u64 (r.fl : Int), .int .i64 r.c, .int .i64 r.l, .int .i64 r.u, .int .i64 r.b, .bool r.s, .slice a2 n c2] 25 (0, 0))) := (bl.block _ (Array.getElem?_eq_some_iff.1 HGD.out).1).trans HGD.out
  have hSnew := both14 HF1.out HG1.out
  clear bl
  go_wp2_with fail
  refine hK.out _ _ hSnew (fun hHeld9 => ?_)
  clear hK K hSnew
  clear hHeld
  have hHeld := hHeld9
  clear hHeld9
  try simp only [Act.put, List.setIfInBounds_toArray, List.set_cons_zero, List.set_cons_succ]
  refine wpAnyH_take (i := 10) (oi := { dst := some 29, op := Op.unOp UnOp.not 4 (Operand.tmp 28), type := 4, pos := "law.go:160", after := #[{ on := 9, ground := Ground.data }, { on := 6, ground := Ground.guard }], guard := some (6, false) }) (v := ?v10q) rfl (by kernel_rfl) (by kernel_rfl) (by kernel_rfl) (fun _ _ _ h => h) (Or.inl ⟨by rfl, ?y10q⟩) (by assumption) ?r10q
  case y10q => (intro x hx; (try dsimp only at hx); go_simp; try with_reducible rfl)
  try simp only [Act.put, List.setIfInBounds_toArray, List.set_cons_zero, List.set_cons_succ]
  refine wpAnyH_take (i := 11) (oi := { dst := some 30, op := Op.pick (Operand.tmp 25) (Operand.const (Value.bool true)) (Operand.tmp 29), type := 4, pos := "law.go:160", after := #[{ on := 6, ground := Ground.data }, { on := 10, ground := Ground.data }], guard := none }) (v := ?v11q) rfl (by kernel_rfl) (by kernel_rfl) (by kernel_rfl) (fun _ _ _ h => h) (Or.inl ⟨by rfl, ?y11q⟩) (by assumption) ?r11q
  case y11q => (intro x hx; (try dsimp only at hx); go_simp; try with_reducible rfl)
  try simp only [Act.put, List.setIfInBounds_toArray, List.set_cons_zero, List.set_cons_succ]
  refine wpAnyH_take (i := 12) (oi := { dst := some 31, op := Op.move (Operand.tmp 30), type := 4, pos := "law.go:160", after := #[{ on := 11, ground := Ground.data }, { on := 9, ground := Ground.chain }], guard := none }) (v := ?v12q) rfl (by kernel_rfl) (by kernel_rfl) (by kernel_rfl) (fun _ _ _ h => h) (Or.inl ⟨by rfl, ?y12q⟩) (by assumption) ?r12q
  case y12q => (intro x hx; (try dsimp only at hx); go_simp; try with_reducible rfl)
  try simp only [Act.put, List.setIfInBounds_toArray, List.set_cons_zero, List.set_cons_succ]
  refine wpAnyH_take (i := 13) (oi := { dst := some 32, op := Op.load 25 (Operand.tmp 6), type := 25, pos := "law.go:160", after := #[{ on := 12, ground := Ground.guard }], guard := some (12, false) }) (v := ?v13q) rfl (by kernel_rfl) (by kernel_rfl) (by kernel_rfl) (fun _ _ _ h => h) (Or.inl ⟨by rfl, ?y13q⟩) (by assumption) ?r13q
  case y13q => (intro x hx; (try dsimp only at hx); go_simp; try with_reducible rfl)
  try simp only [Act.put, List.setIfInBounds_toArray, List.set_cons_zero, List.set_cons_succ]
  refine wpAnyH_take (i := 15) (oi := { dst := some 34, op := Op.load 25 (Operand.tmp 2), type := 25, pos := "law.go:160", after := #[{ on := 12, ground := Ground.guard }], guard := some (12, false) }) (v := ?v15q) rfl (by kernel_rfl) (by kernel_rfl) (by kernel_rfl) (fun _ _ _ h => h) (Or.inl ⟨by rfl, ?y15q⟩) (by assumption) ?r15q
  case y15q => (intro x hx; (try dsimp only at hx); go_simp; try with_reducible rfl)
  try simp only [Act.put, List.setIfInBounds_toArray, List.set_cons_zero, List.set_cons_succ]
  refine wpAnyH_ready (rs := [14]) (by kernel_rfl) (by simp) ?_
  refine AllReadyH.cons (o := { dst := some 33, op := Op.call { callee := Callee.value (Operand.func 12), args := #[Operand.tmp 32], argTypes := #[25] }, type := 4, pos := "law.go:160", after := #[{ on := 13, ground := Ground.data }, { on := 12, ground := Ground.chain }, { on := 12, ground := Ground.guard }], guard := some (12, false) }) rfl (fun K hK => ?_) AllReadyH.nil
  go_simp
  refine (sound_any _ _ _ _ _ _ a2 n c2 r.fs _ (HRG.out.below HB1.out) hn2).mono ?_; rintro e z2 ⟨rfl, bl⟩; rw [HSD.out]
  have HB2 : Hid (Below t3.heap.size t3 z2) := below_trans HB1.out bl
  have HF2 : Hid (z2.heap[w.heap.size]? = some (.cells #[.int .u64 (r.fl : Int), .int .i64 r.c, .int .i64 r.l, .int .i64 r.u, .int .i64 r.b, .bool r.s, .slice a n c] 25 (0, 0))) := (bl.block _ (Array.getElem?_eq_some_iff.1 HF1.out).1).trans HF1.out
  have HG2 : Hid (z2.heap[gb]? = some (.cells #[.int .u64 (r.fl : Int), .int .i64 r.c, .int .i64 r.l, .int .i64 r.u, .int .i64 r.b, .bool r.s, .slice a2 n c2] 25 (0, 0))) := (bl.block _ (Array.getElem?_eq_some_iff.1 HG1.out).1).trans HG1.out
  have hSnew := both14 HF2.out HG2.out
  clear bl
  go_wp2_with fail
  refine hK.out _ _ hSnew (fun hHeld14 => ?_)
  clear hK K hSnew
  clear hHeld
  have hHeld := hHeld14
  clear hHeld14
  try simp only [Act.put, List.setIfInBounds_toArray, List.set_cons_zero, List.set_cons_succ]
  refine wpAnyH_ready (rs := [16]) (by kernel_rfl) (by simp) ?_
  refine AllReadyH.cons (o := { dst := some 35, op := Op.call { callee := Callee.value (Operand.func 12), args := #[Operand.tmp 34], argTypes := #[25] }, type := 4, pos := "law.go:160", after := #[{ on := 15, ground := Ground.data }, { on := 14, ground := Ground.chain }, { on := 12, ground := Ground.guard }], guard := some (12, false) }) rfl (fun K hK => ?_) AllReadyH.nil
  go_simp
  refine (sound_any _ _ _ _ _ _ a n c r.fs _ (HRA.out.below (below_trans HBT.out HB2.out)) hn2).mono ?_; rintro e z3 ⟨rfl, bl⟩; rw [HSD.out]
  have HB3 : Hid (Below t3.heap.size t3 z3) := below_trans HB2.out bl
  have HF3 : Hid (z3.heap[w.heap.size]? = some (.cells #[.int .u64 (r.fl : Int), .int .i64 r.c, .int .i64 r.l, .int .i64 r.u, .int .i64 r.b, .bool r.s, .slice a n c] 25 (0, 0))) := (bl.block _ (Array.getElem?_eq_some_iff.1 HF2.out).1).trans HF2.out
  have HG3 : Hid (z3.heap[gb]? = some (.cells #[.int .u64 (r.fl : Int), .int .i64 r.c, .int .i64 r.l, .int .i64 r.u, .int .i64 r.b, .bool r.s, .slice a2 n c2] 25 (0, 0))) := (bl.block _ (Array.getElem?_eq_some_iff.1 HG2.out).1).trans HG2.out
  have hSnew := both14 HF3.out HG3.out
  clear bl
  go_wp2_with fail
  refine hK.out _ _ hSnew (fun hHeld16 => ?_)
  clear hK K hSnew
  clear hHeld
  have hHeld := hHeld16
  clear hHeld16
  try simp only [Act.put, List.setIfInBounds_toArray, List.set_cons_zero, List.set_cons_succ]
  refine wpAnyH_take (i := 17) (oi := { dst := some 36, op := Op.binOp BinOp.neq 4 (Operand.tmp 33) (Operand.tmp 35) 4, type := 4, pos := "law.go:160", after := #[{ on := 14, ground := Ground.data }, { on := 16, ground := Ground.data }, { on := 12, ground := Ground.guard }], guard := some (12, false) }) (v := ?v17q) rfl (by kernel_rfl) (by kernel_rfl) (by kernel_rfl) (fun _ _ _ h => h) (Or.inl ⟨by rfl, ?y17q⟩) (by assumption) ?r17q
  case y17q => (intro x hx; (try dsimp only at hx); go_simp; try with_reducible rfl)
  try simp only [Act.put, List.setIfInBounds_toArray, List.set_cons_zero, List.set_cons_succ]
  refine wpAnyH_take (i := 18) (oi := { dst := some 37, op := Op.pick (Operand.tmp 31) (Operand.const (Value.bool true)) (Operand.tmp 36), type := 4, pos := "law.go:160", after := #[{ on := 12, ground := Ground.data }, { on := 17, ground := Ground.data }], guard := none }) (v := ?v18q) rfl (by kernel_rfl) (by kernel_rfl) (by kernel_rfl) (fun _ _ _ h => h) (Or.inl ⟨by rfl, ?y18q⟩) (by assumption) ?r18q
  case y18q => (intro x hx; (try dsimp only at hx); go_simp; try with_reducible rfl)
  try simp only [Act.put, List.setIfInBounds_toArray, List.set_cons_zero, List.set_cons_succ]
  refine wpAnyH_take (i := 19) (oi := { dst := some 38, op := Op.move (Operand.tmp 37), type := 4, pos := "law.go:160", after := #[{ on := 18, ground := Ground.data }, { on := 16, ground := Ground.chain }], guard := none }) (v := ?v19q) rfl (by kernel_rfl) (by kernel_rfl) (by kernel_rfl) (fun _ _ _ h => h) (Or.inl ⟨by rfl, ?y19q⟩) (by assumption) ?r19q
  case y19q => (intro x hx; (try dsimp only at hx); go_simp; try with_reducible rfl)
  try simp only [Act.put, List.setIfInBounds_toArray, List.set_cons_zero, List.set_cons_succ]
  refine wpAnyH_take (i := 20) (oi := { dst := some 39, op := Op.load 25 (Operand.tmp 2), type := 25, pos := "law.go:160", after := #[{ on := 19, ground := Ground.guard }], guard := some (19, false) }) (v := ?v20q) rfl (by kernel_rfl) (by kernel_rfl) (by kernel_rfl) (fun _ _ _ h => h) (Or.inl ⟨by rfl, ?y20q⟩) (by assumption) ?r20q
  case y20q => (intro x hx; (try dsimp only at hx); go_simp; try with_reducible rfl)
  try simp only [Act.put, List.setIfInBounds_toArray, List.set_cons_zero, List.set_cons_succ]
  refine wpAnyH_take (i := 22) (oi := { dst := some 41, op := Op.load 25 (Operand.tmp 2), type := 25, pos := "law.go:160", after := #[{ on := 19, ground := Ground.guard }], guard := some (19, false) }) (v := ?v22q) rfl (by kernel_rfl) (by kernel_rfl) (by kernel_rfl) (fun _ _ _ h => h) (Or.inl ⟨by rfl, ?y22q⟩) (by assumption) ?r22q
  case y22q => (intro x hx; (try dsimp only at hx); go_simp; try with_reducible rfl)
  try simp only [Act.put, List.setIfInBounds_toArray, List.set_cons_zero, List.set_cons_succ]
  refine wpAnyH_ready (rs := [21]) (by kernel_rfl) (by simp) ?_
  refine AllReadyH.cons (o := { dst := some 40, op := Op.call { callee := Callee.value (Operand.func 12), args := #[Operand.tmp 39], argTypes := #[25] }, type := 4, pos := "law.go:160", after := #[{ on := 20, ground := Ground.data }, { on := 19, ground := Ground.chain }, { on := 19, ground := Ground.guard }], guard := some (19, false) }) rfl (fun K hK => ?_) AllReadyH.nil
  go_simp
  refine (sound_any _ _ _ _ _ _ a n c r.fs _ (HRA.out.below (below_trans HBT.out HB3.out)) hn2).mono ?_; rintro e z4 ⟨rfl, bl⟩; rw [HSD.out]
  have HB4 : Hid (Below t3.heap.size t3 z4) := below_trans HB3.out bl
  have HF4 : Hid (z4.heap[w.heap.size]? = some (.cells #[.int .u64 (r.fl : Int), .int .i64 r.c, .int .i64 r.l, .int .i64 r.u, .int .i64 r.b, .bool r.s, .slice a n c] 25 (0, 0))) := (bl.block _ (Array.getElem?_eq_some_iff.1 HF3.out).1).trans HF3.out
  have HG4 : Hid (z4.heap[gb]? = some (.cells #[.int .u64 (r.fl : Int), .int .i64 r.c, .int .i64 r.l, .int .i64 r.u, .int .i64 r.b, .bool r.s, .slice a2 n c2] 25 (0, 0))) := (bl.block _ (Array.getElem?_eq_some_iff.1 HG3.out).1).trans HG3.out
  have hSnew := both14 HF4.out HG4.out
  clear bl
  go_wp2_with fail
  refine hK.out _ _ hSnew (fun hHeld21 => ?_)
  clear hK K hSnew
  clear hHeld
  have hHeld := hHeld21
  clear hHeld21
  try simp only [Act.put, List.setIfInBounds_toArray, List.set_cons_zero, List.set_cons_succ]
  refine wpAnyH_ready (rs := [23]) (by kernel_rfl) (by simp) ?_
  refine AllReadyH.cons (o := { dst := some 42, op := Op.call { callee := Callee.value (Operand.func 13), args := #[Operand.tmp 41], argTypes := #[25] }, type := 4, pos := "law.go:160", after := #[{ on := 22, ground := Ground.data }, { on := 21, ground := Ground.chain }, { on := 19, ground := Ground.guard }], guard := some (19, false) }) rfl (fun K hK => ?_) AllReadyH.nil
  go_simp
  refine (rsound_any _ _ _ _ _ _ a n c r.fs _ (HRA.out.below (below_trans HBT.out HB4.out)) hn2).mono ?_; rintro e z5 ⟨rfl, bl⟩; rw [HSD.out]
  have HB5 : Hid (Below t3.heap.size t3 z5) := below_trans HB4.out bl
  have HF5 : Hid (z5.heap[w.heap.size]? = some (.cells #[.int .u64 (r.fl : Int), .int .i64 r.c, .int .i64 r.l, .int .i64 r.u, .int .i64 r.b, .bool r.s, .slice a n c] 25 (0, 0))) := (bl.block _ (Array.getElem?_eq_some_iff.1 HF4.out).1).trans HF4.out
  have HG5 : Hid (z5.heap[gb]? = some (.cells #[.int .u64 (r.fl : Int), .int .i64 r.c, .int .i64 r.l, .int .i64 r.u, .int .i64 r.b, .bool r.s, .slice a2 n c2] 25 (0, 0))) := (bl.block _ (Array.getElem?_eq_some_iff.1 HG4.out).1).trans HG4.out
  have hSnew := both14 HF5.out HG5.out
  clear bl
  go_wp2_with fail
  refine hK.out _ _ hSnew (fun hHeld23 => ?_)
  clear hK K hSnew
  clear hHeld
  have hHeld := hHeld23
  clear hHeld23
  try simp only [Act.put, List.setIfInBounds_toArray, List.set_cons_zero, List.set_cons_succ]
  refine wpAnyH_take (i := 24) (oi := { dst := some 43, op := Op.binOp BinOp.neq 4 (Operand.tmp 40) (Operand.tmp 42) 4, type := 4, pos := "law.go:160", after := #[{ on := 21, ground := Ground.data }, { on := 23, ground := Ground.data }, { on := 19, ground := Ground.guard }], guard := some (19, false) }) (v := ?v24q) rfl (by kernel_rfl) (by kernel_rfl) (by kernel_rfl) (fun _ _ _ h => h) (Or.inl ⟨by rfl, ?y24q⟩) (by assumption) ?r24q
  case y24q => (intro x hx; (try dsimp only at hx); go_simp; try with_reducible rfl)
  try simp only [Act.put, List.setIfInBounds_toArray, List.set_cons_zero, List.set_cons_succ]
  refine wpAnyH_take (i := 25) (oi := { dst := some 44, op := Op.pick (Operand.tmp 38) (Operand.const (Value.bool true)) (Operand.tmp 43), type := 4, pos := "law.go:160", after := #[{ on := 19, ground := Ground.data }, { on := 24, ground := Ground.data }], guard := none }) (v := ?v25q) rfl (by kernel_rfl) (by kernel_rfl) (by kernel_rfl) (fun _ _ _ h => h) (Or.inl ⟨by rfl, ?y25q⟩) (by assumption) ?r25q
  case y25q => (intro x hx; (try dsimp only at hx); go_simp; try with_reducible rfl)
  try simp only [Act.put, List.setIfInBounds_toArray, List.set_cons_zero, List.set_cons_succ]
  refine wpAnyH_done (by kernel_rfl) ?_ _
  have HBZ : Hid (Below w.heap.size w z5) := below_trans HBT.out HB5.out
  clear HB1 HB2 HB3 HB4 HF1 HF2 HF3 HF4 HF5 HG1 HG2 HG3 HG4 HG5 HBD HFD HGD HB5 HGT HFT HBT
  go_upto_region 8 with (first
    | (go_at_call 10; refine (read_good tx _ (by omega) (HV.out _ HBZ.out).1 (HV.out _ HBZ.out).2.2.1 (HV.out _ HBZ.out).2.1 (HV.out _ HBZ.out).2.2.2 m r2 HX.out).mono ?_; rintro e t6 ⟨⟨a3, n3, c3, rfl, hrg⟩, bl⟩
       have HB6 : Hid (Below w.heap.size w t6) := HBZ.out.trans (below_low bl HBZ.out.size)
       have HR6 : Hid (ReadsF t6 a3 n3 r2.fs) := hrg
       clear bl hrg))
  have HG6 : Hid ((t6.alloc (.cells #[.int .u64 (r2.fl : Int), .int .i64 r2.c, .int .i64 r2.l, .int .i64 r2.u, .int .i64 r2.b, .bool r2.s, .slice a3 n3 c3] 25)).heap[t6.heap.size]? = some (.cells #[.int .u64 (r2.fl : Int), .int .i64 r2.c, .int .i64 r2.l, .int .i64 r2.u, .int .i64 r2.b, .bool r2.s, .slice a3 n3 c3] 25 (0, 0))) := heap_alloc_new _ _
  have HB7 : Hid (Below w.heap.size w (t6.alloc (.cells #[.int .u64 (r2.fl : Int), .int .i64 r2.c, .int .i64 r2.l, .int .i64 r2.u, .int .i64 r2.b, .bool r2.s, .slice a3 n3 c3] 25))) := HB6.out.alloc HB6.out.size _
  have HR7 : Hid (ReadsF (t6.alloc (.cells #[.int .u64 (r2.fl : Int), .int .i64 r2.c, .int .i64 r2.l, .int .i64 r2.u, .int .i64 r2.b, .bool r2.s, .slice a3 n3 c3] 25)) a3 n3 r2.fs) := HR6.out.below (below_alloc' _ _)
  obtain ⟨x0, x1, x2, x3, x4, x5, x6⟩ := cells7 HG6.out
  go_wp2_with (first
    | (go_at_call 6; refine (show_any r2 a3 n3 c3 _ HR7.out HO2.out (HV.out _ HB7.out).1 (HV.out _ HB7.out).2.1).mono ?_; rintro e t7 ⟨rfl, bl⟩; rw [HS2.out]
       have HB8 : Hid (Below w.heap.size w t7) := HB7.out.trans (below_low bl HB7.out.size)
       clear bl x0 x1 x2 x3 x4 x5 x6))
  go_ret
  exact ⟨by first | rfl | simp, HB8.out⟩

theorem thereWalk (r : Rp) (a : Option Addr) (n c : Nat) (tx : List UInt8) (w : World) (hr : ReadsF w a n r.fs) (ho : r.Ok) (htl : tx.length ≤ 1048576) (ht : P10 w) (hw : KW w) (hv : EV w) (hw9 : 9 ≤ w.heap.size) :
    Calls Tryd.prog 5 #[.agg #[.int .u64 (r.fl : Int), .int .i64 r.c, .int .i64 r.l, .int .i64 r.u, .int .i64 r.b, .bool r.s, .slice a n c], .string ⟨tx.toArray⟩] w fun e w' => e = .returned (.bool true) ∧ Below w.heap.size w w' := by
  obtain ⟨⟨o, m⟩, hx⟩ : ∃ x, rp tx = x := ⟨_, rfl⟩
  cases o with
  | none => exact there_bad r a n c tx w hr ho htl ht hw hv hw9 m hx
  | some r2 => exact there_good r a n c tx w hr ho htl ht hw hv hw9 m r2 hx (rp_sound hx htl).2 (rp_sound hx htl).1

end Go.Proofs.YtnjcjaaciphcgaaDoor
