/-
  SEAT Ytjginocbbnmgaaa: with above the lowest level.
-/
import Derived.Test.YtjginocbbnmgaaaTnB
namespace Go.Proofs.Ytjginocbbnmgaaa
open Go.RowKit
set_option linter.unusedVariables false

/-- The world ahead of the call of the level below. -/
def mid1 (w : World) (v : Int) (cs : Array Value) : World := (w.alloc (.cells #[.int .i64 v] 3)).alloc (.cells cs 96)
theorem mid1_size (w : World) (v : Int) (cs : Array Value) : (mid1 w v cs).heap.size = w.heap.size + 2 := by simp [mid1]
theorem mid1_below (w : World) (v : Int) (cs : Array Value) : Below w.heap.size w (mid1 w v cs) := ((Below.refl _ _).alloc (Nat.le_refl _) _).alloc (by simp) _
theorem mid1_node (w : World) (v : Int) (cs : Array Value) : (mid1 w v cs).heap[w.heap.size + 1]? = some (.cells cs 96 (0, 0)) := by
  have h := heap_alloc_last (w.alloc (.cells #[.int .i64 v] 3)) (.cells cs 96)
  rw [World.size_alloc] at h
  exact h
theorem mid1_thing (w : World) (v : Int) (cs : Array Value) : (mid1 w v cs).heap[w.heap.size]? = some (.cells #[.int .i64 v] 3 (0, 0)) := by
  have h := heap_alloc_last w (.cells #[.int .i64 v] 3)
  have hb : Below (w.alloc (.cells #[.int .i64 v] 3)).heap.size (w.alloc (.cells #[.int .i64 v] 3)) (mid1 w v cs) := (Below.refl _ _).alloc (Nat.le_refl _) _
  exact (hb.block _ (by simp)).trans h

set_option maxHeartbeats 2000000 in
set_option maxRecDepth 100000 in
theorem withS_some (l k g0 : Nat) (v : Int) (cs : Array Value) (w : World) (b : Option Nat) (R : Nat → World → Prop) (hk : k < 1048576) (hl : l + 1 ≤ 4) (h : w.heap[g0]? = some (.cells cs 96 (0, 0))) (hs : cs.size = 32) (h1 : cs.all (·.oneCell') = true) (hb : cs[dig k (l + 1)]? = some (ptr b))
    (IH : Calls Try.prog 38 #[ptr b, .int .i64 (l : Int), .int .i64 (k : Int), .int .i64 v] (mid1 w v cs).drew fun e w1 => ∃ g', e = .returned (.pointer (some ⟨g', 0, none⟩)) ∧ Below (mid1 w v cs).heap.size (mid1 w v cs) w1 ∧ R g' w1) :
    Calls Try.prog 38 #[.pointer (some ⟨g0, 0, none⟩), .int .i64 ((l + 1 : Nat) : Int), .int .i64 (k : Int), .int .i64 v] w fun e w' => ∃ g' w1, e = .returned (.pointer (some ⟨w.heap.size + 1, 0, none⟩)) ∧ R g' w1 ∧ Below (mid1 w v cs).heap.size (mid1 w v cs) w1 ∧ w' = w1.setCell ⟨w.heap.size + 1, dig k (l + 1), none⟩ (.pointer (some ⟨g', 0, none⟩)) := by
  have hlt := dig_lt k (l + 1)
  obtain ⟨D, hD⟩ : ∃ D, dig k (l + 1) = D := ⟨_, rfl⟩
  rw [hD] at hb hlt ⊢
  have HD : Hid (dig k (l + 1) = D) := hD
  have HIH : Hid (Calls Try.prog 38 _ _ _) := IH
  clear hD IH
  have dl : (D : Int) < 16 := by omega
  have dz : ((((l + 1 : Nat) : Int)) == 0) = false := by simp; omega
  have dsub : ((l + 1 : Nat) : Int) - 1 = (l : Int) := by omega
  have dw : IntKind.i64.wrap (l : Int) = (l : Int) := by
    have : l = 0 ∨ l = 1 ∨ l = 2 ∨ l = 3 := by omega
    rcases this with rfl | rfl | rfl | rfl <;> rfl
  obtain ⟨P, hP⟩ : ∃ P, ptr b = P := ⟨_, rfl⟩
  rw [hP] at hb HIH
  clear hP
  have HY : Hid (∀ u, Below (mid1 w v cs).heap.size (mid1 w v cs) u → u.cell? ⟨w.heap.size + 1, D, none⟩ = some P ∧ u.frozen? ⟨w.heap.size + 1, D, none⟩ = false ∧ u.cell? ⟨w.heap.size, 0, none⟩ = some (.int .i64 v)) := fun u hu => by
    have n1 := (hu.block (w.heap.size + 1) (by rw [mid1_size]; omega)).trans (mid1_node w v cs)
    have n2 := (hu.block w.heap.size (by rw [mid1_size]; omega)).trans (mid1_thing w v cs)
    refine ⟨by rw [cell_of_row _ _ D cs 96 (0, 0) n1]; exact hb, ?_, by rw [cell_of_row _ _ 0 _ 3 (0, 0) n2]; rfl⟩
    unfold World.frozen?
    simp only [n1]
    simp
  clear hb
  have hg0 := lt_of_block h
  have hb2 : Below w.heap.size w ((w.alloc (.cells #[.int .i64 v] 3)).alloc (.cells Z96 96)) := ((Below.refl _ _).alloc (Nat.le_refl _) _).alloc (by simp) _
  have HL : Hid (((w.alloc (.cells #[.int .i64 v] 3)).alloc (.cells Z96 96)).heap[g0]? = some (.cells cs 96 (0, 0))) := (hb2.block g0 hg0).trans h
  have H1 : Hid _ := h1
  clear h h1 hb2
  go_enter Try.func38, Try.ntmps38
  go_upto_region 7 with (first
    | (refine wpList_load96 rfl (.tmp 14) rfl g0 cs rfl HL.out hs ?_)
    | (refine wpList_store96 (u := w.alloc (.cells #[.int .i64 v] 3)) rfl (.tmp 9) (.tmp 15) rfl (w.heap.size + 1) Z96 cs (World.size_alloc _ _) rfl rfl rfl hs H1.out ?_)
    | (go_at_call 55; refine (digit_any k (l + 1) _ hl hk).mono ?_; rintro e u ⟨rfl, rfl⟩; rw [HD.out]))
  rw [show (w.alloc (.cells #[.int .i64 v] 3)).alloc (.cells cs 96) = mid1 w v cs from rfl]
  obtain ⟨X, hX⟩ : ∃ X, mid1 w v cs = X := ⟨_, rfl⟩
  rw [hX] at HY HIH ⊢
  have HXX : Hid _ := hX
  clear hX
  obtain ⟨x0, x1, x2⟩ := HY.out _ (Below.refl _ _).drew
  refine wp_region_held_drew (S := (fun x => x.cell? ⟨w.heap.size, 0, none⟩ = some (.int .i64 v))) (by kernel_rfl) (x2) (fun hHeld => ?_)
  refine wpAnyH_take (i := 0) (oi := { dst := some 24, op := Op.move (Operand.tmp 10), type := 3, pos := "node.go:34", after := #[], guard := none }) (v := ?v0w) rfl (by kernel_rfl) (by kernel_rfl) (by kernel_rfl) (fun _ _ _ h => h) (Or.inl ⟨by rfl, ?y0w⟩) (by assumption) ?r0w
  case y0w => (intro x hx; (try dsimp only at hx); go_simp; try with_reducible rfl)
  try simp only [Act.put, List.setIfInBounds_toArray, List.set_cons_zero, List.set_cons_succ]
  refine wpAnyH_take (i := 1) (oi := { dst := some 25, op := Op.move (Operand.tmp 10), type := 3, pos := "node.go:34", after := #[], guard := none }) (v := ?v1w) rfl (by kernel_rfl) (by kernel_rfl) (by kernel_rfl) (fun _ _ _ h => h) (Or.inl ⟨by rfl, ?y1w⟩) (by assumption) ?r1w
  case y1w => (intro x hx; (try dsimp only at hx); go_simp; try with_reducible rfl)
  try simp only [Act.put, List.setIfInBounds_toArray, List.set_cons_zero, List.set_cons_succ]
  refine wpAnyH_take (i := 2) (oi := { dst := some 26, op := Op.fieldAddr 96 (Operand.tmp 9) 0, type := 0, pos := "node.go:34", after := #[], guard := none }) (v := ?v2w) rfl (by kernel_rfl) (by kernel_rfl) (by kernel_rfl) (fun _ _ _ h => h) (Or.inl ⟨by rfl, ?y2w⟩) (by assumption) ?r2w
  case y2w => (intro x hx; (try dsimp only at hx); go_simp; try with_reducible rfl)
  try simp only [Act.put, List.setIfInBounds_toArray, List.set_cons_zero, List.set_cons_succ]
  refine wpAnyH_take (i := 3) (oi := { dst := some 27, op := Op.indexAddr 93 (Operand.tmp 26) (Operand.tmp 25), type := 0, pos := "node.go:34", after := #[{ on := 2, ground := Ground.data }, { on := 1, ground := Ground.data }], guard := none }) (v := ?v3w) rfl (by kernel_rfl) (by kernel_rfl) (by kernel_rfl) (fun _ _ _ h => h) (Or.inl ⟨by rfl, ?y3w⟩) (by assumption) ?r3w
  case y3w => (intro x hx; (try dsimp only at hx); go_simp; try with_reducible rfl)
  try simp only [Act.put, List.setIfInBounds_toArray, List.set_cons_zero, List.set_cons_succ]
  refine wpAnyH_take (i := 5) (oi := { dst := some 29, op := Op.move (Operand.tmp 1), type := 3, pos := "node.go:34", after := #[], guard := none }) (v := ?v5w) rfl (by kernel_rfl) (by kernel_rfl) (by kernel_rfl) (fun _ _ _ h => h) (Or.inl ⟨by rfl, ?y5w⟩) (by assumption) ?r5w
  case y5w => (intro x hx; (try dsimp only at hx); go_simp; try with_reducible rfl)
  try simp only [Act.put, List.setIfInBounds_toArray, List.set_cons_zero, List.set_cons_succ]
  refine wpAnyH_take (i := 6) (oi := { dst := some 30, op := Op.binOp BinOp.sub 3 (Operand.tmp 29) (Operand.const (Value.int IntKind.i64 1)) 3, type := 3, pos := "node.go:34", after := #[{ on := 5, ground := Ground.data }], guard := none }) (v := ?v6w) rfl (by kernel_rfl) (by kernel_rfl) (by kernel_rfl) (fun _ _ _ h => h) (Or.inl ⟨by rfl, ?y6w⟩) (by assumption) ?r6w
  case y6w => (intro x hx; (try dsimp only at hx); go_simp; try with_reducible rfl)
  try simp only [Act.put, List.setIfInBounds_toArray, List.set_cons_zero, List.set_cons_succ]
  refine wpAnyH_take (i := 7) (oi := { dst := some 31, op := Op.move (Operand.tmp 2), type := 3, pos := "node.go:34", after := #[], guard := none }) (v := ?v7w) rfl (by kernel_rfl) (by kernel_rfl) (by kernel_rfl) (fun _ _ _ h => h) (Or.inl ⟨by rfl, ?y7w⟩) (by assumption) ?r7w
  case y7w => (intro x hx; (try dsimp only at hx); go_simp; try with_reducible rfl)
  try simp only [Act.put, List.setIfInBounds_toArray, List.set_cons_zero, List.set_cons_succ]
  refine wpAnyH_take (i := 8) (oi := { dst := some 32, op := Op.load 3 (Operand.tmp 7), type := 3, pos := "node.go:34", after := #[], guard := none }) (v := ?v8w) rfl (by kernel_rfl) (by kernel_rfl) (by kernel_rfl) (fun _ _ _ h => h) (Or.inl ⟨by rfl, ?y8w⟩) (by assumption) ?r8w
  case y8w => (intro x hx; (try dsimp only at hx); go_simp; try with_reducible rfl)
  try simp only [Act.put, List.setIfInBounds_toArray, List.set_cons_zero, List.set_cons_succ]
  refine wpAnyH_take (i := 10) (oi := { dst := some 34, op := Op.fieldAddr 96 (Operand.tmp 9) 0, type := 0, pos := "node.go:34", after := #[], guard := none }) (v := ?v10w) rfl (by kernel_rfl) (by kernel_rfl) (by kernel_rfl) (fun _ _ _ h => h) (Or.inl ⟨by rfl, ?y10w⟩) (by assumption) ?r10w
  case y10w => (intro x hx; (try dsimp only at hx); go_simp; try with_reducible rfl)
  try simp only [Act.put, List.setIfInBounds_toArray, List.set_cons_zero, List.set_cons_succ]
  refine wpAnyH_ready (rs := [4]) (by kernel_rfl) (by simp) ?_
  refine AllReadyH.cons (o := { dst := some 28, op := Op.load 70 (Operand.tmp 27), type := 70, pos := "node.go:34", after := #[{ on := 3, ground := Ground.data }], guard := none }) rfl (fun K hK => ?_) AllReadyH.nil
  go_simp
  go_wp2_with fail
  refine hK.out _ _ hHeld (fun hHeld4 => ?_)
  clear hK K
  clear hHeld4
  try simp only [Act.put, List.setIfInBounds_toArray, List.set_cons_zero, List.set_cons_succ]
  refine wpAnyH_ready (rs := [9]) (by kernel_rfl) (by simp) ?_
  refine AllReadyH.cons (o := { dst := some 33, op := Op.call { callee := Callee.value (Operand.func 38), args := #[Operand.tmp 28, Operand.tmp 30, Operand.tmp 31, Operand.tmp 32], argTypes := #[70, 3, 3, 3] }, type := 70, pos := "node.go:34", after := #[{ on := 4, ground := Ground.data }, { on := 6, ground := Ground.data }, { on := 7, ground := Ground.data }, { on := 8, ground := Ground.data }], guard := none }) rfl (fun K hK => ?_) AllReadyH.nil
  go_simp
  try rw [dw]
  go_at_call 38
  refine Calls.mono HIH.out ?_
  rintro e t1 ⟨g', rfl, q1, r1⟩
  have R1 : Hid _ := r1
  have Q1 : Hid _ := q1
  obtain ⟨z0, z1, z2⟩ := HY.out _ q1
  have hSnew := z2
  clear r1 q1
  go_wp2_with fail
  refine hK.out _ _ hSnew (fun hHeld9 => ?_)
  clear hK K hSnew
  clear hHeld
  have hHeld := hHeld9
  clear hHeld9
  try simp only [Act.put, List.setIfInBounds_toArray, List.set_cons_zero, List.set_cons_succ]
  refine wpAnyH_take (i := 11) (oi := { dst := some 35, op := Op.indexAddr 93 (Operand.tmp 34) (Operand.tmp 24), type := 0, pos := "node.go:34", after := #[{ on := 10, ground := Ground.data }, { on := 0, ground := Ground.data }, { on := 0, ground := Ground.phase }, { on := 1, ground := Ground.phase }, { on := 2, ground := Ground.phase }, { on := 3, ground := Ground.phase }, { on := 4, ground := Ground.phase }, { on := 5, ground := Ground.phase }, { on := 6, ground := Ground.phase }, { on := 7, ground := Ground.phase }, { on := 8, ground := Ground.phase }, { on := 9, ground := Ground.phase }], guard := none }) (v := ?v11w) rfl (by kernel_rfl) (by kernel_rfl) (by kernel_rfl) (fun _ _ _ h => h) (Or.inl ⟨by rfl, ?y11w⟩) (by assumption) ?r11w
  case y11w => (intro x hx; (try dsimp only at hx); go_simp; try with_reducible rfl)
  try simp only [Act.put, List.setIfInBounds_toArray, List.set_cons_zero, List.set_cons_succ]
  refine wpAnyH_ready (rs := [12]) (by kernel_rfl) (by simp) ?_
  refine AllReadyH.cons (o := { dst := none, op := Op.store 70 (Operand.tmp 35) (Operand.tmp 33), type := 0, pos := "node.go:34", after := #[{ on := 11, ground := Ground.data }, { on := 9, ground := Ground.data }, { on := 9, ground := Ground.chain }, { on := 0, ground := Ground.phase }, { on := 1, ground := Ground.phase }, { on := 2, ground := Ground.phase }, { on := 3, ground := Ground.phase }, { on := 4, ground := Ground.phase }, { on := 5, ground := Ground.phase }, { on := 6, ground := Ground.phase }, { on := 7, ground := Ground.phase }, { on := 8, ground := Ground.phase }, { on := 9, ground := Ground.phase }], guard := none }) rfl (fun K hK => ?_) AllReadyH.nil
  go_simp
  have hSnew : (t1.setCell ⟨w.heap.size + 1, D, none⟩ (.pointer (some ⟨g', 0, none⟩))).cell? ⟨w.heap.size, 0, none⟩ = some (.int .i64 v) := by
    rw [World.cell?_of_block (heap_setCell_other t1 ⟨w.heap.size + 1, D, none⟩ w.heap.size _ (by simp))]
    exact z2
  go_wp2_with fail
  refine hK.out _ _ hSnew (fun hHeld12 => ?_)
  clear hK K hSnew
  clear hHeld
  have hHeld := hHeld12
  clear hHeld12
  try simp only [Act.put, List.setIfInBounds_toArray, List.set_cons_zero, List.set_cons_succ]
  refine wpAnyH_done (by kernel_rfl) ?_ _
  go_wp2
  go_ret
  exact ⟨g', t1, rfl, R1.out, by rw [HXX.out]; exact Q1.out, rfl⟩

set_option maxHeartbeats 2000000 in
set_option maxRecDepth 100000 in
theorem withS_none (l k : Nat) (v : Int) (w : World) (b : Option Nat) (R : Nat → World → Prop) (hk : k < 1048576) (hl : l + 1 ≤ 4) (hb : (Z96 : Array Value)[dig k (l + 1)]? = some (ptr b))
    (IH : Calls Try.prog 38 #[ptr b, .int .i64 (l : Int), .int .i64 (k : Int), .int .i64 v] (mid1 w v Z96).drew fun e w1 => ∃ g', e = .returned (.pointer (some ⟨g', 0, none⟩)) ∧ Below (mid1 w v Z96).heap.size (mid1 w v Z96) w1 ∧ R g' w1) :
    Calls Try.prog 38 #[.pointer none, .int .i64 ((l + 1 : Nat) : Int), .int .i64 (k : Int), .int .i64 v] w fun e w' => ∃ g' w1, e = .returned (.pointer (some ⟨w.heap.size + 1, 0, none⟩)) ∧ R g' w1 ∧ Below (mid1 w v Z96).heap.size (mid1 w v Z96) w1 ∧ w' = w1.setCell ⟨w.heap.size + 1, dig k (l + 1), none⟩ (.pointer (some ⟨g', 0, none⟩)) := by
  have hlt := dig_lt k (l + 1)
  obtain ⟨D, hD⟩ : ∃ D, dig k (l + 1) = D := ⟨_, rfl⟩
  rw [hD] at hb hlt ⊢
  have HD : Hid (dig k (l + 1) = D) := hD
  have HIH : Hid (Calls Try.prog 38 _ _ _) := IH
  clear hD IH
  have dl : (D : Int) < 16 := by omega
  have dz : ((((l + 1 : Nat) : Int)) == 0) = false := by simp; omega
  have dsub : ((l + 1 : Nat) : Int) - 1 = (l : Int) := by omega
  have dw : IntKind.i64.wrap (l : Int) = (l : Int) := by
    have : l = 0 ∨ l = 1 ∨ l = 2 ∨ l = 3 := by omega
    rcases this with rfl | rfl | rfl | rfl <;> rfl
  obtain ⟨P, hP⟩ : ∃ P, ptr b = P := ⟨_, rfl⟩
  rw [hP] at hb HIH
  clear hP
  have HY : Hid (∀ u, Below (mid1 w v Z96).heap.size (mid1 w v Z96) u → u.cell? ⟨w.heap.size + 1, D, none⟩ = some P ∧ u.frozen? ⟨w.heap.size + 1, D, none⟩ = false ∧ u.cell? ⟨w.heap.size, 0, none⟩ = some (.int .i64 v)) := fun u hu => by
    have n1 := (hu.block (w.heap.size + 1) (by rw [mid1_size]; omega)).trans (mid1_node w v Z96)
    have n2 := (hu.block w.heap.size (by rw [mid1_size]; omega)).trans (mid1_thing w v Z96)
    refine ⟨by rw [cell_of_row _ _ D Z96 96 (0, 0) n1]; exact hb, ?_, by rw [cell_of_row _ _ 0 _ 3 (0, 0) n2]; rfl⟩
    unfold World.frozen?
    simp only [n1]
    simp
  clear hb
  go_enter Try.func38, Try.ntmps38
  go_upto_region 7 with (first
    | (go_at_call 55; refine (digit_any k (l + 1) _ hl hk).mono ?_; rintro e u ⟨rfl, rfl⟩; rw [HD.out]))
  rw [show (w.alloc (.cells #[.int .i64 v] 3)).alloc (.cells Z96 96) = mid1 w v Z96 from rfl]
  obtain ⟨X, hX⟩ : ∃ X, mid1 w v Z96 = X := ⟨_, rfl⟩
  rw [hX] at HY HIH ⊢
  have HXX : Hid _ := hX
  clear hX
  obtain ⟨x0, x1, x2⟩ := HY.out _ (Below.refl _ _).drew
  refine wp_region_held_drew (S := (fun x => x.cell? ⟨w.heap.size, 0, none⟩ = some (.int .i64 v))) (by kernel_rfl) (x2) (fun hHeld => ?_)
  refine wpAnyH_take (i := 0) (oi := { dst := some 24, op := Op.move (Operand.tmp 10), type := 3, pos := "node.go:34", after := #[], guard := none }) (v := ?v0z) rfl (by kernel_rfl) (by kernel_rfl) (by kernel_rfl) (fun _ _ _ h => h) (Or.inl ⟨by rfl, ?y0z⟩) (by assumption) ?r0z
  case y0z => (intro x hx; (try dsimp only at hx); go_simp; try with_reducible rfl)
  try simp only [Act.put, List.setIfInBounds_toArray, List.set_cons_zero, List.set_cons_succ]
  refine wpAnyH_take (i := 1) (oi := { dst := some 25, op := Op.move (Operand.tmp 10), type := 3, pos := "node.go:34", after := #[], guard := none }) (v := ?v1z) rfl (by kernel_rfl) (by kernel_rfl) (by kernel_rfl) (fun _ _ _ h => h) (Or.inl ⟨by rfl, ?y1z⟩) (by assumption) ?r1z
  case y1z => (intro x hx; (try dsimp only at hx); go_simp; try with_reducible rfl)
  try simp only [Act.put, List.setIfInBounds_toArray, List.set_cons_zero, List.set_cons_succ]
  refine wpAnyH_take (i := 2) (oi := { dst := some 26, op := Op.fieldAddr 96 (Operand.tmp 9) 0, type := 0, pos := "node.go:34", after := #[], guard := none }) (v := ?v2z) rfl (by kernel_rfl) (by kernel_rfl) (by kernel_rfl) (fun _ _ _ h => h) (Or.inl ⟨by rfl, ?y2z⟩) (by assumption) ?r2z
  case y2z => (intro x hx; (try dsimp only at hx); go_simp; try with_reducible rfl)
  try simp only [Act.put, List.setIfInBounds_toArray, List.set_cons_zero, List.set_cons_succ]
  refine wpAnyH_take (i := 3) (oi := { dst := some 27, op := Op.indexAddr 93 (Operand.tmp 26) (Operand.tmp 25), type := 0, pos := "node.go:34", after := #[{ on := 2, ground := Ground.data }, { on := 1, ground := Ground.data }], guard := none }) (v := ?v3z) rfl (by kernel_rfl) (by kernel_rfl) (by kernel_rfl) (fun _ _ _ h => h) (Or.inl ⟨by rfl, ?y3z⟩) (by assumption) ?r3z
  case y3z => (intro x hx; (try dsimp only at hx); go_simp; try with_reducible rfl)
  try simp only [Act.put, List.setIfInBounds_toArray, List.set_cons_zero, List.set_cons_succ]
  refine wpAnyH_take (i := 5) (oi := { dst := some 29, op := Op.move (Operand.tmp 1), type := 3, pos := "node.go:34", after := #[], guard := none }) (v := ?v5z) rfl (by kernel_rfl) (by kernel_rfl) (by kernel_rfl) (fun _ _ _ h => h) (Or.inl ⟨by rfl, ?y5z⟩) (by assumption) ?r5z
  case y5z => (intro x hx; (try dsimp only at hx); go_simp; try with_reducible rfl)
  try simp only [Act.put, List.setIfInBounds_toArray, List.set_cons_zero, List.set_cons_succ]
  refine wpAnyH_take (i := 6) (oi := { dst := some 30, op := Op.binOp BinOp.sub 3 (Operand.tmp 29) (Operand.const (Value.int IntKind.i64 1)) 3, type := 3, pos := "node.go:34", after := #[{ on := 5, ground := Ground.data }], guard := none }) (v := ?v6z) rfl (by kernel_rfl) (by kernel_rfl) (by kernel_rfl) (fun _ _ _ h => h) (Or.inl ⟨by rfl, ?y6z⟩) (by assumption) ?r6z
  case y6z => (intro x hx; (try dsimp only at hx); go_simp; try with_reducible rfl)
  try simp only [Act.put, List.setIfInBounds_toArray, List.set_cons_zero, List.set_cons_succ]
  refine wpAnyH_take (i := 7) (oi := { dst := some 31, op := Op.move (Operand.tmp 2), type := 3, pos := "node.go:34", after := #[], guard := none }) (v := ?v7z) rfl (by kernel_rfl) (by kernel_rfl) (by kernel_rfl) (fun _ _ _ h => h) (Or.inl ⟨by rfl, ?y7z⟩) (by assumption) ?r7z
  case y7z => (intro x hx; (try dsimp only at hx); go_simp; try with_reducible rfl)
  try simp only [Act.put, List.setIfInBounds_toArray, List.set_cons_zero, List.set_cons_succ]
  refine wpAnyH_take (i := 8) (oi := { dst := some 32, op := Op.load 3 (Operand.tmp 7), type := 3, pos := "node.go:34", after := #[], guard := none }) (v := ?v8z) rfl (by kernel_rfl) (by kernel_rfl) (by kernel_rfl) (fun _ _ _ h => h) (Or.inl ⟨by rfl, ?y8z⟩) (by assumption) ?r8z
  case y8z => (intro x hx; (try dsimp only at hx); go_simp; try with_reducible rfl)
  try simp only [Act.put, List.setIfInBounds_toArray, List.set_cons_zero, List.set_cons_succ]
  refine wpAnyH_take (i := 10) (oi := { dst := some 34, op := Op.fieldAddr 96 (Operand.tmp 9) 0, type := 0, pos := "node.go:34", after := #[], guard := none }) (v := ?v10z) rfl (by kernel_rfl) (by kernel_rfl) (by kernel_rfl) (fun _ _ _ h => h) (Or.inl ⟨by rfl, ?y10z⟩) (by assumption) ?r10z
  case y10z => (intro x hx; (try dsimp only at hx); go_simp; try with_reducible rfl)
  try simp only [Act.put, List.setIfInBounds_toArray, List.set_cons_zero, List.set_cons_succ]
  refine wpAnyH_ready (rs := [4]) (by kernel_rfl) (by simp) ?_
  refine AllReadyH.cons (o := { dst := some 28, op := Op.load 70 (Operand.tmp 27), type := 70, pos := "node.go:34", after := #[{ on := 3, ground := Ground.data }], guard := none }) rfl (fun K hK => ?_) AllReadyH.nil
  go_simp
  go_wp2_with fail
  refine hK.out _ _ hHeld (fun hHeld4 => ?_)
  clear hK K
  clear hHeld4
  try simp only [Act.put, List.setIfInBounds_toArray, List.set_cons_zero, List.set_cons_succ]
  refine wpAnyH_ready (rs := [9]) (by kernel_rfl) (by simp) ?_
  refine AllReadyH.cons (o := { dst := some 33, op := Op.call { callee := Callee.value (Operand.func 38), args := #[Operand.tmp 28, Operand.tmp 30, Operand.tmp 31, Operand.tmp 32], argTypes := #[70, 3, 3, 3] }, type := 70, pos := "node.go:34", after := #[{ on := 4, ground := Ground.data }, { on := 6, ground := Ground.data }, { on := 7, ground := Ground.data }, { on := 8, ground := Ground.data }], guard := none }) rfl (fun K hK => ?_) AllReadyH.nil
  go_simp
  try rw [dw]
  go_at_call 38
  refine Calls.mono HIH.out ?_
  rintro e t1 ⟨g', rfl, q1, r1⟩
  have R1 : Hid _ := r1
  have Q1 : Hid _ := q1
  obtain ⟨z0, z1, z2⟩ := HY.out _ q1
  have hSnew := z2
  clear r1 q1
  go_wp2_with fail
  refine hK.out _ _ hSnew (fun hHeld9 => ?_)
  clear hK K hSnew
  clear hHeld
  have hHeld := hHeld9
  clear hHeld9
  try simp only [Act.put, List.setIfInBounds_toArray, List.set_cons_zero, List.set_cons_succ]
  refine wpAnyH_take (i := 11) (oi := { dst := some 35, op := Op.indexAddr 93 (Operand.tmp 34) (Operand.tmp 24), type := 0, pos := "node.go:34", after := #[{ on := 10, ground := Ground.data }, { on := 0, ground := Ground.data }, { on := 0, ground := Ground.phase }, { on := 1, ground := Ground.phase }, { on := 2, ground := Ground.phase }, { on := 3, ground := Ground.phase }, { on := 4, ground := Ground.phase }, { on := 5, ground := Ground.phase }, { on := 6, ground := Ground.phase }, { on := 7, ground := Ground.phase }, { on := 8, ground := Ground.phase }, { on := 9, ground := Ground.phase }], guard := none }) (v := ?v11z) rfl (by kernel_rfl) (by kernel_rfl) (by kernel_rfl) (fun _ _ _ h => h) (Or.inl ⟨by rfl, ?y11z⟩) (by assumption) ?r11z
  case y11z => (intro x hx; (try dsimp only at hx); go_simp; try with_reducible rfl)
  try simp only [Act.put, List.setIfInBounds_toArray, List.set_cons_zero, List.set_cons_succ]
  refine wpAnyH_ready (rs := [12]) (by kernel_rfl) (by simp) ?_
  refine AllReadyH.cons (o := { dst := none, op := Op.store 70 (Operand.tmp 35) (Operand.tmp 33), type := 0, pos := "node.go:34", after := #[{ on := 11, ground := Ground.data }, { on := 9, ground := Ground.data }, { on := 9, ground := Ground.chain }, { on := 0, ground := Ground.phase }, { on := 1, ground := Ground.phase }, { on := 2, ground := Ground.phase }, { on := 3, ground := Ground.phase }, { on := 4, ground := Ground.phase }, { on := 5, ground := Ground.phase }, { on := 6, ground := Ground.phase }, { on := 7, ground := Ground.phase }, { on := 8, ground := Ground.phase }, { on := 9, ground := Ground.phase }], guard := none }) rfl (fun K hK => ?_) AllReadyH.nil
  go_simp
  have hSnew : (t1.setCell ⟨w.heap.size + 1, D, none⟩ (.pointer (some ⟨g', 0, none⟩))).cell? ⟨w.heap.size, 0, none⟩ = some (.int .i64 v) := by
    rw [World.cell?_of_block (heap_setCell_other t1 ⟨w.heap.size + 1, D, none⟩ w.heap.size _ (by simp))]
    exact z2
  go_wp2_with fail
  refine hK.out _ _ hSnew (fun hHeld12 => ?_)
  clear hK K hSnew
  clear hHeld
  have hHeld := hHeld12
  clear hHeld12
  try simp only [Act.put, List.setIfInBounds_toArray, List.set_cons_zero, List.set_cons_succ]
  refine wpAnyH_done (by kernel_rfl) ?_ _
  go_wp2
  go_ret
  exact ⟨g', t1, rfl, R1.out, by rw [HXX.out]; exact Q1.out, rfl⟩
end Go.Proofs.Ytjginocbbnmgaaa
