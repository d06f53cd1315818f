/-
  SEAT Ytgijbpkfheillaa: do.
-/
import Derived.Test.YtgijbpkfheillaaPlP
import Derived.Test.YtgijbpkfheillaaPlO
namespace Go.Proofs.Ytgijbpkfheillaa
open Go.RowKit
set_option linter.unusedVariables false

theorem box50 {w u : World} {k b m h : Int} (q : Below (w.alloc (.cells #[.int .i64 k, .int .i64 b, .int .i64 m, .int .u64 h] 50)).heap.size (w.alloc (.cells #[.int .i64 k, .int .i64 b, .int .i64 m, .int .u64 h] 50)) u) :
    u.cell? ⟨w.heap.size, 0, none⟩ = some (.int .i64 k) ∧ u.cell? ⟨w.heap.size, 1, none⟩ = some (.int .i64 b) ∧ u.cell? ⟨w.heap.size, 2, none⟩ = some (.int .i64 m) ∧ u.cell? ⟨w.heap.size, 3, none⟩ = some (.int .u64 h) := by
  refine ⟨?_, ?_, ?_, ?_⟩ <;> (rw [q.cell (by simp)]; simp)


set_option maxHeartbeats 4000000 in
set_option maxRecDepth 100000 in
theorem do_1 (U : World) (B gb gk gr gl g c : Nat) (P : Int) (es : List Ent) (cur last : Int) (vo : Option Nat) (w : World) (h : Two w B gb gk gr gl g c P es cur last vo) (hu : Below B U w) (hB : B ≤ w.heap.size) (hp : 4 ≤ P ∧ P ≤ 256) (b m hd : Int) (hm : Wf m) (hh : 0 ≤ hd) :
    Calls Try.prog 30 #[.pointer (some ⟨gb, 0, none⟩), .pointer (some ⟨gr, 0, none⟩), .agg #[.int .i64 1, .int .i64 b, .int .i64 m, .int .u64 hd]] w fun e w' => e = .returned (.bool true) ∧ NextT U w' B gb gk gr gl g c P := by
  have HA : Hid (Below w.heap.size w (w.alloc (.cells #[.int .i64 1, .int .i64 b, .int .i64 m, .int .u64 hd] 50))) := ba (Below.refl _ _)
  have HTA : Hid (Two (w.alloc (.cells #[.int .i64 1, .int .i64 b, .int .i64 m, .int .u64 hd] 50)) B gb gk gr gl g c P es cur last vo) := h.below HA.out
  have HUA : Hid (Below B U (w.alloc (.cells #[.int .i64 1, .int .i64 b, .int .i64 m, .int .u64 hd] 50))) := hu.trans (HA.out.mono hB)
  have HBA : Hid (B ≤ (w.alloc (.cells #[.int .i64 1, .int .i64 b, .int .i64 m, .int .u64 hd] 50)).heap.size) := by unfold Hid; simp; omega
  have hgb := lt_of_block h.bk.box
  have hgk := lt_of_block h.bk.row
  obtain ⟨hgr, hgl, hgg⟩ := h.rf.lt
  clear h hu
  obtain ⟨x, y, hpp⟩ := pair_pick HTA.out HUA.out HBA.out hp
  have HPP : Hid (Calls Try.prog 10 _ _ _) := hpp
  clear hpp
  go_enter Try.func30, Try.ntmps30
  go_wp2_with (first
    | (go_at_call 10; refine Calls.mono HPP.out ?_; rintro e t1 ⟨rfl, g1, nx⟩; have NX : Hid (Calls Try.prog 55 _ t1 _) := nx; clear nx g1)
    | (go_at_call 55; refine Calls.mono NX.out ?_; rintro e t2 ⟨rfl, g2, fin⟩; have FIN : Hid _ := fin; clear fin g2))
  go_ret
  exact ⟨by first | rfl | simp, FIN.out⟩


set_option maxHeartbeats 4000000 in
set_option maxRecDepth 100000 in
theorem do_2 (U : World) (B gb gk gr gl g c : Nat) (P : Int) (es : List Ent) (cur last : Int) (vo : Option Nat) (w : World) (h : Two w B gb gk gr gl g c P es cur last vo) (hu : Below B U w) (hB : B ≤ w.heap.size) (hp : 4 ≤ P ∧ P ≤ 256) (b m hd : Int) (hm : Wf m) (hh : 0 ≤ hd) :
    Calls Try.prog 30 #[.pointer (some ⟨gb, 0, none⟩), .pointer (some ⟨gr, 0, none⟩), .agg #[.int .i64 2, .int .i64 b, .int .i64 m, .int .u64 hd]] w fun e w' => e = .returned (.bool true) ∧ NextT U w' B gb gk gr gl g c P := by
  have HA : Hid (Below w.heap.size w (w.alloc (.cells #[.int .i64 2, .int .i64 b, .int .i64 m, .int .u64 hd] 50))) := ba (Below.refl _ _)
  have HTA : Hid (Two (w.alloc (.cells #[.int .i64 2, .int .i64 b, .int .i64 m, .int .u64 hd] 50)) B gb gk gr gl g c P es cur last vo) := h.below HA.out
  have HUA : Hid (Below B U (w.alloc (.cells #[.int .i64 2, .int .i64 b, .int .i64 m, .int .u64 hd] 50))) := hu.trans (HA.out.mono hB)
  have HBA : Hid (B ≤ (w.alloc (.cells #[.int .i64 2, .int .i64 b, .int .i64 m, .int .u64 hd] 50)).heap.size) := by unfold Hid; simp; omega
  have hgb := lt_of_block h.bk.box
  have hgk := lt_of_block h.bk.row
  obtain ⟨hgr, hgl, hgg⟩ := h.rf.lt
  clear h hu
  have HSH : Hid (∀ u, Below (w.alloc (.cells #[.int .i64 2, .int .i64 b, .int .i64 m, .int .u64 hd] 50)).heap.size (w.alloc (.cells #[.int .i64 2, .int .i64 b, .int .i64 m, .int .u64 hd] 50)) u → (fun x => x.cell? ⟨w.heap.size, 1, none⟩ = some (.int .i64 b) ∧ x.cell? ⟨w.heap.size, 2, none⟩ = some (.int .i64 m) ∧ x.cell? ⟨w.heap.size, 3, none⟩ = some (.int .u64 hd)) u) := fun u hu => (box50 hu).2
  obtain ⟨er, hpp⟩ := pair_start (HTA.out.below (Below.refl _ _).drew) HUA.out.drew HBA.out hp b hd hh
  have HPP : Hid (Calls Try.prog 42 _ _ _) := hpp
  clear hpp
  go_enter Try.func30, Try.ntmps30
  go_upto_region 7 with fail
  refine wp_region_held_drew (S := (fun x => x.cell? ⟨w.heap.size, 1, none⟩ = some (.int .i64 b) ∧ x.cell? ⟨w.heap.size, 2, none⟩ = some (.int .i64 m) ∧ x.cell? ⟨w.heap.size, 3, none⟩ = some (.int .u64 hd))) (by kernel_rfl) (HSH.out _ (Below.refl _ _).drew) (fun hHeld => ?_)
  refine wpAnyH_take (i := 0) (oi := { dst := some 45, op := Op.move (Operand.tmp 0), type := 25, pos := "law.go:98", after := #[], guard := none }) (v := ?v0d) rfl (by kernel_rfl) (by kernel_rfl) (by kernel_rfl) (fun _ _ _ h => h) (Or.inl ⟨by rfl, ?y0d⟩) (by assumption) ?r0d
  case y0d => (intro x hx; (try dsimp only at hx); go_simp; try with_reducible rfl)
  try simp only [Act.put, List.setIfInBounds_toArray, List.set_cons_zero, List.set_cons_succ]
  refine wpAnyH_take (i := 1) (oi := { dst := some 46, op := Op.fieldAddr 50 (Operand.tmp 5) 1, type := 0, pos := "law.go:98", after := #[], guard := none }) (v := ?v1d) rfl (by kernel_rfl) (by kernel_rfl) (by kernel_rfl) (fun _ _ _ h => h) (Or.inl ⟨by rfl, ?y1d⟩) (by assumption) ?r1d
  case y1d => (intro x hx; (try dsimp only at hx); go_simp; try with_reducible rfl)
  try simp only [Act.put, List.setIfInBounds_toArray, List.set_cons_zero, List.set_cons_succ]
  refine wpAnyH_take (i := 2) (oi := { dst := some 47, op := Op.load 3 (Operand.tmp 46), type := 3, pos := "law.go:98", after := #[{ on := 1, ground := Ground.data }], guard := none }) (v := ?v2d) rfl (by kernel_rfl) (by kernel_rfl) (by kernel_rfl) (fun _ _ _ h => h) (Or.inl ⟨by rfl, ?y2d⟩) (by assumption) ?r2d
  case y2d => (intro x hx; (try dsimp only at hx); go_simp; try with_reducible rfl)
  try simp only [Act.put, List.setIfInBounds_toArray, List.set_cons_zero, List.set_cons_succ]
  refine wpAnyH_take (i := 3) (oi := { dst := some 48, op := Op.fieldAddr 50 (Operand.tmp 5) 3, type := 0, pos := "law.go:98", after := #[], guard := none }) (v := ?v3d) rfl (by kernel_rfl) (by kernel_rfl) (by kernel_rfl) (fun _ _ _ h => h) (Or.inl ⟨by rfl, ?y3d⟩) (by assumption) ?r3d
  case y3d => (intro x hx; (try dsimp only at hx); go_simp; try with_reducible rfl)
  try simp only [Act.put, List.setIfInBounds_toArray, List.set_cons_zero, List.set_cons_succ]
  refine wpAnyH_take (i := 4) (oi := { dst := some 49, op := Op.load 32 (Operand.tmp 48), type := 32, pos := "law.go:98", after := #[{ on := 3, ground := Ground.data }], guard := none }) (v := ?v4d) rfl (by kernel_rfl) (by kernel_rfl) (by kernel_rfl) (fun _ _ _ h => h) (Or.inl ⟨by rfl, ?y4d⟩) (by assumption) ?r4d
  case y4d => (intro x hx; (try dsimp only at hx); go_simp; try with_reducible rfl)
  try simp only [Act.put, List.setIfInBounds_toArray, List.set_cons_zero, List.set_cons_succ]
  refine wpAnyH_take (i := 6) (oi := { dst := some 51, op := Op.move (Operand.tmp 1), type := 26, pos := "law.go:98", after := #[], guard := none }) (v := ?v6d) rfl (by kernel_rfl) (by kernel_rfl) (by kernel_rfl) (fun _ _ _ h => h) (Or.inl ⟨by rfl, ?y6d⟩) (by assumption) ?r6d
  case y6d => (intro x hx; (try dsimp only at hx); go_simp; try with_reducible rfl)
  try simp only [Act.put, List.setIfInBounds_toArray, List.set_cons_zero, List.set_cons_succ]
  refine wpAnyH_take (i := 7) (oi := { dst := some 52, op := Op.fieldAddr 50 (Operand.tmp 5) 1, type := 0, pos := "law.go:98", after := #[], guard := none }) (v := ?v7d) rfl (by kernel_rfl) (by kernel_rfl) (by kernel_rfl) (fun _ _ _ h => h) (Or.inl ⟨by rfl, ?y7d⟩) (by assumption) ?r7d
  case y7d => (intro x hx; (try dsimp only at hx); go_simp; try with_reducible rfl)
  try simp only [Act.put, List.setIfInBounds_toArray, List.set_cons_zero, List.set_cons_succ]
  refine wpAnyH_take (i := 8) (oi := { dst := some 53, op := Op.load 3 (Operand.tmp 52), type := 3, pos := "law.go:98", after := #[{ on := 7, ground := Ground.data }], guard := none }) (v := ?v8d) rfl (by kernel_rfl) (by kernel_rfl) (by kernel_rfl) (fun _ _ _ h => h) (Or.inl ⟨by rfl, ?y8d⟩) (by assumption) ?r8d
  case y8d => (intro x hx; (try dsimp only at hx); go_simp; try with_reducible rfl)
  try simp only [Act.put, List.setIfInBounds_toArray, List.set_cons_zero, List.set_cons_succ]
  refine wpAnyH_take (i := 9) (oi := { dst := some 54, op := Op.fieldAddr 50 (Operand.tmp 5) 3, type := 0, pos := "law.go:98", after := #[], guard := none }) (v := ?v9d) rfl (by kernel_rfl) (by kernel_rfl) (by kernel_rfl) (fun _ _ _ h => h) (Or.inl ⟨by rfl, ?y9d⟩) (by assumption) ?r9d
  case y9d => (intro x hx; (try dsimp only at hx); go_simp; try with_reducible rfl)
  try simp only [Act.put, List.setIfInBounds_toArray, List.set_cons_zero, List.set_cons_succ]
  refine wpAnyH_take (i := 10) (oi := { dst := some 55, op := Op.load 32 (Operand.tmp 54), type := 32, pos := "law.go:98", after := #[{ on := 9, ground := Ground.data }], guard := none }) (v := ?v10d) rfl (by kernel_rfl) (by kernel_rfl) (by kernel_rfl) (fun _ _ _ h => h) (Or.inl ⟨by rfl, ?y10d⟩) (by assumption) ?r10d
  case y10d => (intro x hx; (try dsimp only at hx); go_simp; try with_reducible rfl)
  try simp only [Act.put, List.setIfInBounds_toArray, List.set_cons_zero, List.set_cons_succ]
  refine wpAnyH_ready (rs := [5]) (by kernel_rfl) (by simp) ?_
  refine AllReadyH.cons (o := { dst := some 50, op := Op.call { callee := Callee.value (Operand.func 42), args := #[Operand.tmp 45, Operand.tmp 47, Operand.tmp 49], argTypes := #[25, 3, 32] }, type := 38, pos := "law.go:98", after := #[{ on := 0, ground := Ground.data }, { on := 2, ground := Ground.data }, { on := 4, ground := Ground.data }], guard := none }) rfl (fun K hK => ?_) AllReadyH.nil
  go_simp
  go_at_call 42
  refine Calls.mono HPP.out ?_
  rintro e t1 ⟨rfl, g1, nx⟩
  have NX : Hid (Calls Try.prog 56 _ t1 _) := nx
  have hcb := fun j => World.cell?_of_block (a := ⟨w.heap.size, j, none⟩) (g1.block w.heap.size (by simp) (by omega) (by omega))
  have hSnew : (fun x => x.cell? ⟨w.heap.size, 1, none⟩ = some (.int .i64 b) ∧ x.cell? ⟨w.heap.size, 2, none⟩ = some (.int .i64 m) ∧ x.cell? ⟨w.heap.size, 3, none⟩ = some (.int .u64 hd)) t1 := ⟨(hcb 1).trans hHeld.1, (hcb 2).trans hHeld.2.1, (hcb 3).trans hHeld.2.2⟩
  have hsz1 := g1.size
  clear nx g1 hcb
  go_wp2_with fail
  refine hK.out _ _ hSnew (fun hHeld5 => ?_)
  clear hK K hSnew
  clear hHeld
  have hHeld := hHeld5
  clear hHeld5
  try simp only [Act.put, List.setIfInBounds_toArray, List.set_cons_zero, List.set_cons_succ]
  refine wpAnyH_ready (rs := [11]) (by kernel_rfl) (by simp) ?_
  refine AllReadyH.cons (o := { dst := some 56, op := Op.call { callee := Callee.value (Operand.func 56), args := #[Operand.tmp 51, Operand.tmp 53, Operand.tmp 55], argTypes := #[26, 3, 32] }, type := 3, pos := "law.go:98", after := #[{ on := 6, ground := Ground.data }, { on := 8, ground := Ground.data }, { on := 10, ground := Ground.data }, { on := 5, ground := Ground.chain }], guard := none }) rfl (fun K hK => ?_) AllReadyH.nil
  go_simp
  go_at_call 56
  refine Calls.mono NX.out ?_
  rintro e t2 ⟨rfl, g2, fin⟩
  have FIN : Hid _ := fin
  have hcb := fun j => World.cell?_of_block (a := ⟨w.heap.size, j, none⟩) (g2.block w.heap.size (by simp at hsz1; omega) (by omega) (by omega) (by omega))
  have hSnew : (fun x => x.cell? ⟨w.heap.size, 1, none⟩ = some (.int .i64 b) ∧ x.cell? ⟨w.heap.size, 2, none⟩ = some (.int .i64 m) ∧ x.cell? ⟨w.heap.size, 3, none⟩ = some (.int .u64 hd)) t2 := ⟨(hcb 1).trans hHeld.1, (hcb 2).trans hHeld.2.1, (hcb 3).trans hHeld.2.2⟩
  clear fin g2 hcb
  go_wp2_with fail
  refine hK.out _ _ hSnew (fun hHeld11 => ?_)
  clear hK K hSnew
  clear hHeld
  have hHeld := hHeld11
  clear hHeld11
  try simp only [Act.put, List.setIfInBounds_toArray, List.set_cons_zero, List.set_cons_succ]
  refine wpAnyH_take (i := 12) (oi := { dst := some 57, op := Op.binOp BinOp.eql 3 (Operand.tmp 50) (Operand.tmp 56) 3, type := 4, pos := "law.go:98", after := #[{ on := 5, ground := Ground.data }, { on := 11, ground := Ground.data }], guard := none }) (v := ?v12d) rfl (by kernel_rfl) (by kernel_rfl) (by kernel_rfl) (fun _ _ _ h => h) (Or.inl ⟨by rfl, ?y12d⟩) (by assumption) ?r12d
  case y12d => (intro x hx; (try dsimp only at hx); go_simp; try with_reducible rfl)
  try simp only [Act.put, List.setIfInBounds_toArray, List.set_cons_zero, List.set_cons_succ]
  refine wpAnyH_take (i := 13) (oi := { dst := some 6, op := Op.assign (Operand.tmp 57), type := 4, pos := "law.go:98", after := #[{ on := 12, ground := Ground.data }, { on := 11, ground := Ground.chain }, { on := 0, ground := Ground.phase }, { on := 1, ground := Ground.phase }, { on := 2, ground := Ground.phase }, { on := 3, ground := Ground.phase }, { on := 4, ground := Ground.phase }, { on := 5, ground := Ground.phase }, { on := 6, ground := Ground.phase }, { on := 7, ground := Ground.phase }, { on := 8, ground := Ground.phase }, { on := 9, ground := Ground.phase }, { on := 10, ground := Ground.phase }, { on := 11, ground := Ground.phase }, { on := 12, ground := Ground.phase }], guard := none }) (v := ?v13d) rfl (by kernel_rfl) (by kernel_rfl) (by kernel_rfl) (fun _ _ _ h => h) (Or.inl ⟨by rfl, ?y13d⟩) (by assumption) ?r13d
  case y13d => (intro x hx; (try dsimp only at hx); go_simp; try with_reducible rfl)
  try simp only [Act.put, List.setIfInBounds_toArray, List.set_cons_zero, List.set_cons_succ]
  refine wpAnyH_done (by kernel_rfl) ?_ _
  all_goals go_wp2
  all_goals go_ret
  all_goals exact ⟨by first | rfl | simp, FIN.out⟩


set_option maxHeartbeats 4000000 in
set_option maxRecDepth 100000 in
theorem do_3 (U : World) (B gb gk gr gl g c : Nat) (P : Int) (es : List Ent) (cur last : Int) (vo : Option Nat) (w : World) (h : Two w B gb gk gr gl g c P es cur last vo) (hu : Below B U w) (hB : B ≤ w.heap.size) (hp : 4 ≤ P ∧ P ≤ 256) (b m hd : Int) (hm : Wf m) (hh : 0 ≤ hd) :
    Calls Try.prog 30 #[.pointer (some ⟨gb, 0, none⟩), .pointer (some ⟨gr, 0, none⟩), .agg #[.int .i64 3, .int .i64 b, .int .i64 m, .int .u64 hd]] w fun e w' => e = .returned (.bool true) ∧ NextT U w' B gb gk gr gl g c P := by
  have HA : Hid (Below w.heap.size w (w.alloc (.cells #[.int .i64 3, .int .i64 b, .int .i64 m, .int .u64 hd] 50))) := ba (Below.refl _ _)
  have HTA : Hid (Two (w.alloc (.cells #[.int .i64 3, .int .i64 b, .int .i64 m, .int .u64 hd] 50)) B gb gk gr gl g c P es cur last vo) := h.below HA.out
  have HUA : Hid (Below B U (w.alloc (.cells #[.int .i64 3, .int .i64 b, .int .i64 m, .int .u64 hd] 50))) := hu.trans (HA.out.mono hB)
  have HBA : Hid (B ≤ (w.alloc (.cells #[.int .i64 3, .int .i64 b, .int .i64 m, .int .u64 hd] 50)).heap.size) := by unfold Hid; simp; omega
  have hgb := lt_of_block h.bk.box
  have hgk := lt_of_block h.bk.row
  obtain ⟨hgr, hgl, hgg⟩ := h.rf.lt
  clear h hu
  obtain ⟨er, hpp⟩ := pair_real HTA.out HUA.out HBA.out hp
  have HPP : Hid (Calls Try.prog 43 _ _ _) := hpp
  clear hpp
  go_enter Try.func30, Try.ntmps30
  go_wp2_with (first
    | (go_at_call 43; refine Calls.mono HPP.out ?_; rintro e t1 ⟨rfl, g1, nx⟩; have NX : Hid (Calls Try.prog 57 _ t1 _) := nx; clear nx g1)
    | (go_at_call 57; refine Calls.mono NX.out ?_; rintro e t2 ⟨rfl, g2, fin⟩; have FIN : Hid _ := fin; clear fin g2))
  go_ret
  exact ⟨by first | rfl | simp, FIN.out⟩


set_option maxHeartbeats 4000000 in
set_option maxRecDepth 100000 in
theorem do_4 (U : World) (B gb gk gr gl g c : Nat) (P : Int) (es : List Ent) (cur last : Int) (vo : Option Nat) (w : World) (h : Two w B gb gk gr gl g c P es cur last vo) (hu : Below B U w) (hB : B ≤ w.heap.size) (hp : 4 ≤ P ∧ P ≤ 256) (b m hd : Int) (hm : Wf m) (hh : 0 ≤ hd) :
    Calls Try.prog 30 #[.pointer (some ⟨gb, 0, none⟩), .pointer (some ⟨gr, 0, none⟩), .agg #[.int .i64 4, .int .i64 b, .int .i64 m, .int .u64 hd]] w fun e w' => e = .returned (.bool true) ∧ NextT U w' B gb gk gr gl g c P := by
  have HA : Hid (Below w.heap.size w (w.alloc (.cells #[.int .i64 4, .int .i64 b, .int .i64 m, .int .u64 hd] 50))) := ba (Below.refl _ _)
  have HTA : Hid (Two (w.alloc (.cells #[.int .i64 4, .int .i64 b, .int .i64 m, .int .u64 hd] 50)) B gb gk gr gl g c P es cur last vo) := h.below HA.out
  have HUA : Hid (Below B U (w.alloc (.cells #[.int .i64 4, .int .i64 b, .int .i64 m, .int .u64 hd] 50))) := hu.trans (HA.out.mono hB)
  have HBA : Hid (B ≤ (w.alloc (.cells #[.int .i64 4, .int .i64 b, .int .i64 m, .int .u64 hd] 50)).heap.size) := by unfold Hid; simp; omega
  have hgb := lt_of_block h.bk.box
  have hgk := lt_of_block h.bk.row
  obtain ⟨hgr, hgl, hgg⟩ := h.rf.lt
  clear h hu
  have HSH : Hid (∀ u, Below (w.alloc (.cells #[.int .i64 4, .int .i64 b, .int .i64 m, .int .u64 hd] 50)).heap.size (w.alloc (.cells #[.int .i64 4, .int .i64 b, .int .i64 m, .int .u64 hd] 50)) u → (fun x => x.cell? ⟨w.heap.size, 1, none⟩ = some (.int .i64 b) ∧ x.cell? ⟨w.heap.size, 2, none⟩ = some (.int .i64 m) ∧ x.cell? ⟨w.heap.size, 3, none⟩ = some (.int .u64 hd)) u) := fun u hu => (box50 hu).2
  obtain ⟨er, hpp⟩ := pair_live (HTA.out.below (Below.refl _ _).drew) HUA.out.drew HBA.out hp b m hm
  have HPP : Hid (Calls Try.prog 17 _ _ _) := hpp
  clear hpp
  go_enter Try.func30, Try.ntmps30
  go_upto_region 11 with fail
  refine wp_region_held_drew (S := (fun x => x.cell? ⟨w.heap.size, 1, none⟩ = some (.int .i64 b) ∧ x.cell? ⟨w.heap.size, 2, none⟩ = some (.int .i64 m) ∧ x.cell? ⟨w.heap.size, 3, none⟩ = some (.int .u64 hd))) (by kernel_rfl) (HSH.out _ (Below.refl _ _).drew) (fun hHeld => ?_)
  refine wpAnyH_take (i := 0) (oi := { dst := some 67, op := Op.move (Operand.tmp 0), type := 25, pos := "law.go:102", after := #[], guard := none }) (v := ?v0d) rfl (by kernel_rfl) (by kernel_rfl) (by kernel_rfl) (fun _ _ _ h => h) (Or.inl ⟨by rfl, ?y0d⟩) (by assumption) ?r0d
  case y0d => (intro x hx; (try dsimp only at hx); go_simp; try with_reducible rfl)
  try simp only [Act.put, List.setIfInBounds_toArray, List.set_cons_zero, List.set_cons_succ]
  refine wpAnyH_take (i := 1) (oi := { dst := some 68, op := Op.fieldAddr 50 (Operand.tmp 5) 1, type := 0, pos := "law.go:102", after := #[], guard := none }) (v := ?v1d) rfl (by kernel_rfl) (by kernel_rfl) (by kernel_rfl) (fun _ _ _ h => h) (Or.inl ⟨by rfl, ?y1d⟩) (by assumption) ?r1d
  case y1d => (intro x hx; (try dsimp only at hx); go_simp; try with_reducible rfl)
  try simp only [Act.put, List.setIfInBounds_toArray, List.set_cons_zero, List.set_cons_succ]
  refine wpAnyH_take (i := 2) (oi := { dst := some 69, op := Op.load 3 (Operand.tmp 68), type := 3, pos := "law.go:102", after := #[{ on := 1, ground := Ground.data }], guard := none }) (v := ?v2d) rfl (by kernel_rfl) (by kernel_rfl) (by kernel_rfl) (fun _ _ _ h => h) (Or.inl ⟨by rfl, ?y2d⟩) (by assumption) ?r2d
  case y2d => (intro x hx; (try dsimp only at hx); go_simp; try with_reducible rfl)
  try simp only [Act.put, List.setIfInBounds_toArray, List.set_cons_zero, List.set_cons_succ]
  refine wpAnyH_take (i := 3) (oi := { dst := some 70, op := Op.fieldAddr 50 (Operand.tmp 5) 2, type := 0, pos := "law.go:102", after := #[], guard := none }) (v := ?v3d) rfl (by kernel_rfl) (by kernel_rfl) (by kernel_rfl) (fun _ _ _ h => h) (Or.inl ⟨by rfl, ?y3d⟩) (by assumption) ?r3d
  case y3d => (intro x hx; (try dsimp only at hx); go_simp; try with_reducible rfl)
  try simp only [Act.put, List.setIfInBounds_toArray, List.set_cons_zero, List.set_cons_succ]
  refine wpAnyH_take (i := 4) (oi := { dst := some 71, op := Op.load 3 (Operand.tmp 70), type := 3, pos := "law.go:102", after := #[{ on := 3, ground := Ground.data }], guard := none }) (v := ?v4d) rfl (by kernel_rfl) (by kernel_rfl) (by kernel_rfl) (fun _ _ _ h => h) (Or.inl ⟨by rfl, ?y4d⟩) (by assumption) ?r4d
  case y4d => (intro x hx; (try dsimp only at hx); go_simp; try with_reducible rfl)
  try simp only [Act.put, List.setIfInBounds_toArray, List.set_cons_zero, List.set_cons_succ]
  refine wpAnyH_take (i := 6) (oi := { dst := some 73, op := Op.move (Operand.tmp 1), type := 26, pos := "law.go:102", after := #[], guard := none }) (v := ?v6d) rfl (by kernel_rfl) (by kernel_rfl) (by kernel_rfl) (fun _ _ _ h => h) (Or.inl ⟨by rfl, ?y6d⟩) (by assumption) ?r6d
  case y6d => (intro x hx; (try dsimp only at hx); go_simp; try with_reducible rfl)
  try simp only [Act.put, List.setIfInBounds_toArray, List.set_cons_zero, List.set_cons_succ]
  refine wpAnyH_take (i := 7) (oi := { dst := some 74, op := Op.fieldAddr 50 (Operand.tmp 5) 1, type := 0, pos := "law.go:102", after := #[], guard := none }) (v := ?v7d) rfl (by kernel_rfl) (by kernel_rfl) (by kernel_rfl) (fun _ _ _ h => h) (Or.inl ⟨by rfl, ?y7d⟩) (by assumption) ?r7d
  case y7d => (intro x hx; (try dsimp only at hx); go_simp; try with_reducible rfl)
  try simp only [Act.put, List.setIfInBounds_toArray, List.set_cons_zero, List.set_cons_succ]
  refine wpAnyH_take (i := 8) (oi := { dst := some 75, op := Op.load 3 (Operand.tmp 74), type := 3, pos := "law.go:102", after := #[{ on := 7, ground := Ground.data }], guard := none }) (v := ?v8d) rfl (by kernel_rfl) (by kernel_rfl) (by kernel_rfl) (fun _ _ _ h => h) (Or.inl ⟨by rfl, ?y8d⟩) (by assumption) ?r8d
  case y8d => (intro x hx; (try dsimp only at hx); go_simp; try with_reducible rfl)
  try simp only [Act.put, List.setIfInBounds_toArray, List.set_cons_zero, List.set_cons_succ]
  refine wpAnyH_take (i := 9) (oi := { dst := some 76, op := Op.fieldAddr 50 (Operand.tmp 5) 2, type := 0, pos := "law.go:102", after := #[], guard := none }) (v := ?v9d) rfl (by kernel_rfl) (by kernel_rfl) (by kernel_rfl) (fun _ _ _ h => h) (Or.inl ⟨by rfl, ?y9d⟩) (by assumption) ?r9d
  case y9d => (intro x hx; (try dsimp only at hx); go_simp; try with_reducible rfl)
  try simp only [Act.put, List.setIfInBounds_toArray, List.set_cons_zero, List.set_cons_succ]
  refine wpAnyH_take (i := 10) (oi := { dst := some 77, op := Op.load 3 (Operand.tmp 76), type := 3, pos := "law.go:102", after := #[{ on := 9, ground := Ground.data }], guard := none }) (v := ?v10d) rfl (by kernel_rfl) (by kernel_rfl) (by kernel_rfl) (fun _ _ _ h => h) (Or.inl ⟨by rfl, ?y10d⟩) (by assumption) ?r10d
  case y10d => (intro x hx; (try dsimp only at hx); go_simp; try with_reducible rfl)
  try simp only [Act.put, List.setIfInBounds_toArray, List.set_cons_zero, List.set_cons_succ]
  refine wpAnyH_ready (rs := [5]) (by kernel_rfl) (by simp) ?_
  refine AllReadyH.cons (o := { dst := some 72, op := Op.call { callee := Callee.value (Operand.func 17), args := #[Operand.tmp 67, Operand.tmp 69, Operand.tmp 71], argTypes := #[25, 3, 3] }, type := 38, pos := "law.go:102", after := #[{ on := 0, ground := Ground.data }, { on := 2, ground := Ground.data }, { on := 4, ground := Ground.data }], guard := none }) rfl (fun K hK => ?_) AllReadyH.nil
  go_simp
  go_at_call 17
  refine Calls.mono HPP.out ?_
  rintro e t1 ⟨rfl, g1, nx⟩
  have NX : Hid (Calls Try.prog 58 _ t1 _) := nx
  have hcb := fun j => World.cell?_of_block (a := ⟨w.heap.size, j, none⟩) (g1.block w.heap.size (by simp) (by omega) (by omega))
  have hSnew : (fun x => x.cell? ⟨w.heap.size, 1, none⟩ = some (.int .i64 b) ∧ x.cell? ⟨w.heap.size, 2, none⟩ = some (.int .i64 m) ∧ x.cell? ⟨w.heap.size, 3, none⟩ = some (.int .u64 hd)) t1 := ⟨(hcb 1).trans hHeld.1, (hcb 2).trans hHeld.2.1, (hcb 3).trans hHeld.2.2⟩
  have hsz1 := g1.size
  clear nx g1 hcb
  go_wp2_with fail
  refine hK.out _ _ hSnew (fun hHeld5 => ?_)
  clear hK K hSnew
  clear hHeld
  have hHeld := hHeld5
  clear hHeld5
  try simp only [Act.put, List.setIfInBounds_toArray, List.set_cons_zero, List.set_cons_succ]
  refine wpAnyH_ready (rs := [11]) (by kernel_rfl) (by simp) ?_
  refine AllReadyH.cons (o := { dst := some 78, op := Op.call { callee := Callee.value (Operand.func 58), args := #[Operand.tmp 73, Operand.tmp 75, Operand.tmp 77], argTypes := #[26, 3, 3] }, type := 3, pos := "law.go:102", after := #[{ on := 6, ground := Ground.data }, { on := 8, ground := Ground.data }, { on := 10, ground := Ground.data }, { on := 5, ground := Ground.chain }], guard := none }) rfl (fun K hK => ?_) AllReadyH.nil
  go_simp
  go_at_call 58
  refine Calls.mono NX.out ?_
  rintro e t2 ⟨rfl, g2, fin⟩
  have FIN : Hid _ := fin
  have hcb := fun j => World.cell?_of_block (a := ⟨w.heap.size, j, none⟩) (g2.block w.heap.size (by simp at hsz1; omega) (by omega) (by omega) (by omega))
  have hSnew : (fun x => x.cell? ⟨w.heap.size, 1, none⟩ = some (.int .i64 b) ∧ x.cell? ⟨w.heap.size, 2, none⟩ = some (.int .i64 m) ∧ x.cell? ⟨w.heap.size, 3, none⟩ = some (.int .u64 hd)) t2 := ⟨(hcb 1).trans hHeld.1, (hcb 2).trans hHeld.2.1, (hcb 3).trans hHeld.2.2⟩
  clear fin g2 hcb
  go_wp2_with fail
  refine hK.out _ _ hSnew (fun hHeld11 => ?_)
  clear hK K hSnew
  clear hHeld
  have hHeld := hHeld11
  clear hHeld11
  try simp only [Act.put, List.setIfInBounds_toArray, List.set_cons_zero, List.set_cons_succ]
  refine wpAnyH_take (i := 12) (oi := { dst := some 79, op := Op.binOp BinOp.eql 3 (Operand.tmp 72) (Operand.tmp 78) 3, type := 4, pos := "law.go:102", after := #[{ on := 5, ground := Ground.data }, { on := 11, ground := Ground.data }], guard := none }) (v := ?v12d) rfl (by kernel_rfl) (by kernel_rfl) (by kernel_rfl) (fun _ _ _ h => h) (Or.inl ⟨by rfl, ?y12d⟩) (by assumption) ?r12d
  case y12d => (intro x hx; (try dsimp only at hx); go_simp; try with_reducible rfl)
  try simp only [Act.put, List.setIfInBounds_toArray, List.set_cons_zero, List.set_cons_succ]
  refine wpAnyH_take (i := 13) (oi := { dst := some 6, op := Op.assign (Operand.tmp 79), type := 4, pos := "law.go:102", after := #[{ on := 12, ground := Ground.data }, { on := 11, ground := Ground.chain }, { on := 0, ground := Ground.phase }, { on := 1, ground := Ground.phase }, { on := 2, ground := Ground.phase }, { on := 3, ground := Ground.phase }, { on := 4, ground := Ground.phase }, { on := 5, ground := Ground.phase }, { on := 6, ground := Ground.phase }, { on := 7, ground := Ground.phase }, { on := 8, ground := Ground.phase }, { on := 9, ground := Ground.phase }, { on := 10, ground := Ground.phase }, { on := 11, ground := Ground.phase }, { on := 12, ground := Ground.phase }], guard := none }) (v := ?v13d) rfl (by kernel_rfl) (by kernel_rfl) (by kernel_rfl) (fun _ _ _ h => h) (Or.inl ⟨by rfl, ?y13d⟩) (by assumption) ?r13d
  case y13d => (intro x hx; (try dsimp only at hx); go_simp; try with_reducible rfl)
  try simp only [Act.put, List.setIfInBounds_toArray, List.set_cons_zero, List.set_cons_succ]
  refine wpAnyH_done (by kernel_rfl) ?_ _
  all_goals go_wp2
  all_goals go_ret
  all_goals exact ⟨by first | rfl | simp, FIN.out⟩


set_option maxHeartbeats 4000000 in
set_option maxRecDepth 100000 in
theorem do_5 (U : World) (B gb gk gr gl g c : Nat) (P : Int) (es : List Ent) (cur last : Int) (vo : Option Nat) (w : World) (h : Two w B gb gk gr gl g c P es cur last vo) (hu : Below B U w) (hB : B ≤ w.heap.size) (hp : 4 ≤ P ∧ P ≤ 256) (b m hd : Int) (hm : Wf m) (hh : 0 ≤ hd) :
    Calls Try.prog 30 #[.pointer (some ⟨gb, 0, none⟩), .pointer (some ⟨gr, 0, none⟩), .agg #[.int .i64 5, .int .i64 b, .int .i64 m, .int .u64 hd]] w fun e w' => e = .returned (.bool true) ∧ NextT U w' B gb gk gr gl g c P := by
  have HA : Hid (Below w.heap.size w (w.alloc (.cells #[.int .i64 5, .int .i64 b, .int .i64 m, .int .u64 hd] 50))) := ba (Below.refl _ _)
  have HTA : Hid (Two (w.alloc (.cells #[.int .i64 5, .int .i64 b, .int .i64 m, .int .u64 hd] 50)) B gb gk gr gl g c P es cur last vo) := h.below HA.out
  have HUA : Hid (Below B U (w.alloc (.cells #[.int .i64 5, .int .i64 b, .int .i64 m, .int .u64 hd] 50))) := hu.trans (HA.out.mono hB)
  have HBA : Hid (B ≤ (w.alloc (.cells #[.int .i64 5, .int .i64 b, .int .i64 m, .int .u64 hd] 50)).heap.size) := by unfold Hid; simp; omega
  have hgb := lt_of_block h.bk.box
  have hgk := lt_of_block h.bk.row
  obtain ⟨hgr, hgl, hgg⟩ := h.rf.lt
  clear h hu
  obtain ⟨er, hpp⟩ := pair_shut HTA.out HUA.out HBA.out hp
  have HPP : Hid (Calls Try.prog 44 _ _ _) := hpp
  clear hpp
  go_enter Try.func30, Try.ntmps30
  go_wp2_with (first
    | (go_at_call 44; refine Calls.mono HPP.out ?_; rintro e t1 ⟨rfl, g1, nx⟩; have NX : Hid (Calls Try.prog 59 _ t1 _) := nx; clear nx g1)
    | (go_at_call 59; refine Calls.mono NX.out ?_; rintro e t2 ⟨rfl, g2, fin⟩; have FIN : Hid _ := fin; clear fin g2))
  go_ret
  exact ⟨by first | rfl | simp, FIN.out⟩


set_option maxHeartbeats 4000000 in
set_option maxRecDepth 100000 in
theorem do_6 (U : World) (B gb gk gr gl g c : Nat) (P : Int) (es : List Ent) (cur last : Int) (vo : Option Nat) (w : World) (h : Two w B gb gk gr gl g c P es cur last vo) (hu : Below B U w) (hB : B ≤ w.heap.size) (hp : 4 ≤ P ∧ P ≤ 256) (b m hd : Int) (hm : Wf m) (hh : 0 ≤ hd) :
    Calls Try.prog 30 #[.pointer (some ⟨gb, 0, none⟩), .pointer (some ⟨gr, 0, none⟩), .agg #[.int .i64 6, .int .i64 b, .int .i64 m, .int .u64 hd]] w fun e w' => e = .returned (.bool true) ∧ NextT U w' B gb gk gr gl g c P := by
  have HA : Hid (Below w.heap.size w (w.alloc (.cells #[.int .i64 6, .int .i64 b, .int .i64 m, .int .u64 hd] 50))) := ba (Below.refl _ _)
  have HTA : Hid (Two (w.alloc (.cells #[.int .i64 6, .int .i64 b, .int .i64 m, .int .u64 hd] 50)) B gb gk gr gl g c P es cur last vo) := h.below HA.out
  have HUA : Hid (Below B U (w.alloc (.cells #[.int .i64 6, .int .i64 b, .int .i64 m, .int .u64 hd] 50))) := hu.trans (HA.out.mono hB)
  have HBA : Hid (B ≤ (w.alloc (.cells #[.int .i64 6, .int .i64 b, .int .i64 m, .int .u64 hd] 50)).heap.size) := by unfold Hid; simp; omega
  have hgb := lt_of_block h.bk.box
  have hgk := lt_of_block h.bk.row
  obtain ⟨hgr, hgl, hgg⟩ := h.rf.lt
  clear h hu
  obtain ⟨er, hpp⟩ := pair_wait HTA.out HUA.out HBA.out hp
  have HPP : Hid (Calls Try.prog 45 _ _ _) := hpp
  clear hpp
  go_enter Try.func30, Try.ntmps30
  go_wp2_with (first
    | (go_at_call 45; refine Calls.mono HPP.out ?_; rintro e t1 ⟨rfl, g1, nx⟩; have NX : Hid (Calls Try.prog 60 _ t1 _) := nx; clear nx g1)
    | (go_at_call 60; refine Calls.mono NX.out ?_; rintro e t2 ⟨rfl, g2, fin⟩; have FIN : Hid _ := fin; clear fin g2))
  go_ret
  exact ⟨by first | rfl | simp, FIN.out⟩


set_option maxHeartbeats 4000000 in
set_option maxRecDepth 100000 in
theorem do_7 (U : World) (B gb gk gr gl g c : Nat) (P : Int) (es : List Ent) (cur last : Int) (vo : Option Nat) (w : World) (h : Two w B gb gk gr gl g c P es cur last vo) (hu : Below B U w) (hB : B ≤ w.heap.size) (hp : 4 ≤ P ∧ P ≤ 256) (b m hd : Int) (hm : Wf m) (hh : 0 ≤ hd) :
    Calls Try.prog 30 #[.pointer (some ⟨gb, 0, none⟩), .pointer (some ⟨gr, 0, none⟩), .agg #[.int .i64 7, .int .i64 b, .int .i64 m, .int .u64 hd]] w fun e w' => e = .returned (.bool true) ∧ NextT U w' B gb gk gr gl g c P := by
  have HA : Hid (Below w.heap.size w (w.alloc (.cells #[.int .i64 7, .int .i64 b, .int .i64 m, .int .u64 hd] 50))) := ba (Below.refl _ _)
  have HTA : Hid (Two (w.alloc (.cells #[.int .i64 7, .int .i64 b, .int .i64 m, .int .u64 hd] 50)) B gb gk gr gl g c P es cur last vo) := h.below HA.out
  have HUA : Hid (Below B U (w.alloc (.cells #[.int .i64 7, .int .i64 b, .int .i64 m, .int .u64 hd] 50))) := hu.trans (HA.out.mono hB)
  have HBA : Hid (B ≤ (w.alloc (.cells #[.int .i64 7, .int .i64 b, .int .i64 m, .int .u64 hd] 50)).heap.size) := by unfold Hid; simp; omega
  have hgb := lt_of_block h.bk.box
  have hgk := lt_of_block h.bk.row
  obtain ⟨hgr, hgl, hgg⟩ := h.rf.lt
  clear h hu
  have HSH : Hid (∀ u, Below (w.alloc (.cells #[.int .i64 7, .int .i64 b, .int .i64 m, .int .u64 hd] 50)).heap.size (w.alloc (.cells #[.int .i64 7, .int .i64 b, .int .i64 m, .int .u64 hd] 50)) u → (fun x => x.cell? ⟨w.heap.size, 1, none⟩ = some (.int .i64 b) ∧ x.cell? ⟨w.heap.size, 2, none⟩ = some (.int .i64 m) ∧ x.cell? ⟨w.heap.size, 3, none⟩ = some (.int .u64 hd)) u) := fun u hu => (box50 hu).2
  obtain ⟨er, hpp⟩ := pair_bad (HTA.out.below (Below.refl _ _).drew) HUA.out.drew HBA.out hp b
  have HPP : Hid (Calls Try.prog 12 _ _ _) := hpp
  clear hpp
  go_enter Try.func30, Try.ntmps30
  go_upto_region 17 with fail
  refine wp_region_held_drew (S := (fun x => x.cell? ⟨w.heap.size, 1, none⟩ = some (.int .i64 b) ∧ x.cell? ⟨w.heap.size, 2, none⟩ = some (.int .i64 m) ∧ x.cell? ⟨w.heap.size, 3, none⟩ = some (.int .u64 hd))) (by kernel_rfl) (HSH.out _ (Below.refl _ _).drew) (fun hHeld => ?_)
  refine wpAnyH_take (i := 0) (oi := { dst := some 96, op := Op.move (Operand.tmp 0), type := 25, pos := "law.go:108", after := #[], guard := none }) (v := ?v0d) rfl (by kernel_rfl) (by kernel_rfl) (by kernel_rfl) (fun _ _ _ h => h) (Or.inl ⟨by rfl, ?y0d⟩) (by assumption) ?r0d
  case y0d => (intro x hx; (try dsimp only at hx); go_simp; try with_reducible rfl)
  try simp only [Act.put, List.setIfInBounds_toArray, List.set_cons_zero, List.set_cons_succ]
  refine wpAnyH_take (i := 1) (oi := { dst := some 97, op := Op.fieldAddr 50 (Operand.tmp 5) 1, type := 0, pos := "law.go:108", after := #[], guard := none }) (v := ?v1d) rfl (by kernel_rfl) (by kernel_rfl) (by kernel_rfl) (fun _ _ _ h => h) (Or.inl ⟨by rfl, ?y1d⟩) (by assumption) ?r1d
  case y1d => (intro x hx; (try dsimp only at hx); go_simp; try with_reducible rfl)
  try simp only [Act.put, List.setIfInBounds_toArray, List.set_cons_zero, List.set_cons_succ]
  refine wpAnyH_take (i := 2) (oi := { dst := some 98, op := Op.load 3 (Operand.tmp 97), type := 3, pos := "law.go:108", after := #[{ on := 1, ground := Ground.data }], guard := none }) (v := ?v2d) rfl (by kernel_rfl) (by kernel_rfl) (by kernel_rfl) (fun _ _ _ h => h) (Or.inl ⟨by rfl, ?y2d⟩) (by assumption) ?r2d
  case y2d => (intro x hx; (try dsimp only at hx); go_simp; try with_reducible rfl)
  try simp only [Act.put, List.setIfInBounds_toArray, List.set_cons_zero, List.set_cons_succ]
  refine wpAnyH_take (i := 4) (oi := { dst := some 100, op := Op.move (Operand.tmp 1), type := 26, pos := "law.go:108", after := #[], guard := none }) (v := ?v4d) rfl (by kernel_rfl) (by kernel_rfl) (by kernel_rfl) (fun _ _ _ h => h) (Or.inl ⟨by rfl, ?y4d⟩) (by assumption) ?r4d
  case y4d => (intro x hx; (try dsimp only at hx); go_simp; try with_reducible rfl)
  try simp only [Act.put, List.setIfInBounds_toArray, List.set_cons_zero, List.set_cons_succ]
  refine wpAnyH_take (i := 5) (oi := { dst := some 101, op := Op.fieldAddr 50 (Operand.tmp 5) 1, type := 0, pos := "law.go:108", after := #[], guard := none }) (v := ?v5d) rfl (by kernel_rfl) (by kernel_rfl) (by kernel_rfl) (fun _ _ _ h => h) (Or.inl ⟨by rfl, ?y5d⟩) (by assumption) ?r5d
  case y5d => (intro x hx; (try dsimp only at hx); go_simp; try with_reducible rfl)
  try simp only [Act.put, List.setIfInBounds_toArray, List.set_cons_zero, List.set_cons_succ]
  refine wpAnyH_take (i := 6) (oi := { dst := some 102, op := Op.load 3 (Operand.tmp 101), type := 3, pos := "law.go:108", after := #[{ on := 5, ground := Ground.data }], guard := none }) (v := ?v6d) rfl (by kernel_rfl) (by kernel_rfl) (by kernel_rfl) (fun _ _ _ h => h) (Or.inl ⟨by rfl, ?y6d⟩) (by assumption) ?r6d
  case y6d => (intro x hx; (try dsimp only at hx); go_simp; try with_reducible rfl)
  try simp only [Act.put, List.setIfInBounds_toArray, List.set_cons_zero, List.set_cons_succ]
  refine wpAnyH_ready (rs := [3]) (by kernel_rfl) (by simp) ?_
  refine AllReadyH.cons (o := { dst := some 99, op := Op.call { callee := Callee.value (Operand.func 12), args := #[Operand.tmp 96, Operand.tmp 98], argTypes := #[25, 3] }, type := 38, pos := "law.go:108", after := #[{ on := 0, ground := Ground.data }, { on := 2, ground := Ground.data }], guard := none }) rfl (fun K hK => ?_) AllReadyH.nil
  go_simp
  go_at_call 12
  refine Calls.mono HPP.out ?_
  rintro e t1 ⟨rfl, g1, nx⟩
  have NX : Hid (Calls Try.prog 61 _ t1 _) := nx
  have hcb := fun j => World.cell?_of_block (a := ⟨w.heap.size, j, none⟩) (g1.block w.heap.size (by simp) (by omega) (by omega))
  have hSnew : (fun x => x.cell? ⟨w.heap.size, 1, none⟩ = some (.int .i64 b) ∧ x.cell? ⟨w.heap.size, 2, none⟩ = some (.int .i64 m) ∧ x.cell? ⟨w.heap.size, 3, none⟩ = some (.int .u64 hd)) t1 := ⟨(hcb 1).trans hHeld.1, (hcb 2).trans hHeld.2.1, (hcb 3).trans hHeld.2.2⟩
  have hsz1 := g1.size
  clear nx g1 hcb
  go_wp2_with fail
  refine hK.out _ _ hSnew (fun hHeld3 => ?_)
  clear hK K hSnew
  clear hHeld
  have hHeld := hHeld3
  clear hHeld3
  try simp only [Act.put, List.setIfInBounds_toArray, List.set_cons_zero, List.set_cons_succ]
  refine wpAnyH_ready (rs := [7]) (by kernel_rfl) (by simp) ?_
  refine AllReadyH.cons (o := { dst := some 103, op := Op.call { callee := Callee.value (Operand.func 61), args := #[Operand.tmp 100, Operand.tmp 102], argTypes := #[26, 3] }, type := 3, pos := "law.go:108", after := #[{ on := 4, ground := Ground.data }, { on := 6, ground := Ground.data }, { on := 3, ground := Ground.chain }], guard := none }) rfl (fun K hK => ?_) AllReadyH.nil
  go_simp
  go_at_call 61
  refine Calls.mono NX.out ?_
  rintro e t2 ⟨rfl, g2, fin⟩
  have FIN : Hid _ := fin
  have hcb := fun j => World.cell?_of_block (a := ⟨w.heap.size, j, none⟩) (g2.block w.heap.size (by simp at hsz1; omega) (by omega) (by omega) (by omega))
  have hSnew : (fun x => x.cell? ⟨w.heap.size, 1, none⟩ = some (.int .i64 b) ∧ x.cell? ⟨w.heap.size, 2, none⟩ = some (.int .i64 m) ∧ x.cell? ⟨w.heap.size, 3, none⟩ = some (.int .u64 hd)) t2 := ⟨(hcb 1).trans hHeld.1, (hcb 2).trans hHeld.2.1, (hcb 3).trans hHeld.2.2⟩
  clear fin g2 hcb
  go_wp2_with fail
  refine hK.out _ _ hSnew (fun hHeld7 => ?_)
  clear hK K hSnew
  clear hHeld
  have hHeld := hHeld7
  clear hHeld7
  try simp only [Act.put, List.setIfInBounds_toArray, List.set_cons_zero, List.set_cons_succ]
  refine wpAnyH_take (i := 8) (oi := { dst := some 104, op := Op.binOp BinOp.eql 3 (Operand.tmp 99) (Operand.tmp 103) 3, type := 4, pos := "law.go:108", after := #[{ on := 3, ground := Ground.data }, { on := 7, ground := Ground.data }], guard := none }) (v := ?v8d) rfl (by kernel_rfl) (by kernel_rfl) (by kernel_rfl) (fun _ _ _ h => h) (Or.inl ⟨by rfl, ?y8d⟩) (by assumption) ?r8d
  case y8d => (intro x hx; (try dsimp only at hx); go_simp; try with_reducible rfl)
  try simp only [Act.put, List.setIfInBounds_toArray, List.set_cons_zero, List.set_cons_succ]
  refine wpAnyH_take (i := 9) (oi := { dst := some 6, op := Op.assign (Operand.tmp 104), type := 4, pos := "law.go:108", after := #[{ on := 8, ground := Ground.data }, { on := 7, ground := Ground.chain }, { on := 0, ground := Ground.phase }, { on := 1, ground := Ground.phase }, { on := 2, ground := Ground.phase }, { on := 3, ground := Ground.phase }, { on := 4, ground := Ground.phase }, { on := 5, ground := Ground.phase }, { on := 6, ground := Ground.phase }, { on := 7, ground := Ground.phase }, { on := 8, ground := Ground.phase }], guard := none }) (v := ?v9d) rfl (by kernel_rfl) (by kernel_rfl) (by kernel_rfl) (fun _ _ _ h => h) (Or.inl ⟨by rfl, ?y9d⟩) (by assumption) ?r9d
  case y9d => (intro x hx; (try dsimp only at hx); go_simp; try with_reducible rfl)
  try simp only [Act.put, List.setIfInBounds_toArray, List.set_cons_zero, List.set_cons_succ]
  refine wpAnyH_done (by kernel_rfl) ?_ _
  all_goals go_wp2
  all_goals go_ret
  all_goals exact ⟨by first | rfl | simp, FIN.out⟩


set_option maxHeartbeats 4000000 in
set_option maxRecDepth 100000 in
theorem do_8 (U : World) (B gb gk gr gl g c : Nat) (P : Int) (es : List Ent) (cur last : Int) (vo : Option Nat) (w : World) (h : Two w B gb gk gr gl g c P es cur last vo) (hu : Below B U w) (hB : B ≤ w.heap.size) (hp : 4 ≤ P ∧ P ≤ 256) (b m hd : Int) (hm : Wf m) (hh : 0 ≤ hd) :
    Calls Try.prog 30 #[.pointer (some ⟨gb, 0, none⟩), .pointer (some ⟨gr, 0, none⟩), .agg #[.int .i64 8, .int .i64 b, .int .i64 m, .int .u64 hd]] w fun e w' => e = .returned (.bool true) ∧ NextT U w' B gb gk gr gl g c P := by
  have HA : Hid (Below w.heap.size w (w.alloc (.cells #[.int .i64 8, .int .i64 b, .int .i64 m, .int .u64 hd] 50))) := ba (Below.refl _ _)
  have HTA : Hid (Two (w.alloc (.cells #[.int .i64 8, .int .i64 b, .int .i64 m, .int .u64 hd] 50)) B gb gk gr gl g c P es cur last vo) := h.below HA.out
  have HUA : Hid (Below B U (w.alloc (.cells #[.int .i64 8, .int .i64 b, .int .i64 m, .int .u64 hd] 50))) := hu.trans (HA.out.mono hB)
  have HBA : Hid (B ≤ (w.alloc (.cells #[.int .i64 8, .int .i64 b, .int .i64 m, .int .u64 hd] 50)).heap.size) := by unfold Hid; simp; omega
  have hgb := lt_of_block h.bk.box
  have hgk := lt_of_block h.bk.row
  obtain ⟨hgr, hgl, hgg⟩ := h.rf.lt
  clear h hu
  have HSH : Hid (∀ u, Below (w.alloc (.cells #[.int .i64 8, .int .i64 b, .int .i64 m, .int .u64 hd] 50)).heap.size (w.alloc (.cells #[.int .i64 8, .int .i64 b, .int .i64 m, .int .u64 hd] 50)) u → (fun x => x.cell? ⟨w.heap.size, 1, none⟩ = some (.int .i64 b) ∧ x.cell? ⟨w.heap.size, 2, none⟩ = some (.int .i64 m) ∧ x.cell? ⟨w.heap.size, 3, none⟩ = some (.int .u64 hd)) u) := fun u hu => (box50 hu).2
  obtain ⟨er, hpp⟩ := pair_leave (HTA.out.below (Below.refl _ _).drew) HUA.out.drew HBA.out hp b
  have HPP : Hid (Calls Try.prog 18 _ _ _) := hpp
  clear hpp
  go_enter Try.func30, Try.ntmps30
  go_upto_region 19 with fail
  refine wp_region_held_drew (S := (fun x => x.cell? ⟨w.heap.size, 1, none⟩ = some (.int .i64 b) ∧ x.cell? ⟨w.heap.size, 2, none⟩ = some (.int .i64 m) ∧ x.cell? ⟨w.heap.size, 3, none⟩ = some (.int .u64 hd))) (by kernel_rfl) (HSH.out _ (Below.refl _ _).drew) (fun hHeld => ?_)
  refine wpAnyH_take (i := 0) (oi := { dst := some 107, op := Op.move (Operand.tmp 0), type := 25, pos := "law.go:110", after := #[], guard := none }) (v := ?v0d) rfl (by kernel_rfl) (by kernel_rfl) (by kernel_rfl) (fun _ _ _ h => h) (Or.inl ⟨by rfl, ?y0d⟩) (by assumption) ?r0d
  case y0d => (intro x hx; (try dsimp only at hx); go_simp; try with_reducible rfl)
  try simp only [Act.put, List.setIfInBounds_toArray, List.set_cons_zero, List.set_cons_succ]
  refine wpAnyH_take (i := 1) (oi := { dst := some 108, op := Op.fieldAddr 50 (Operand.tmp 5) 1, type := 0, pos := "law.go:110", after := #[], guard := none }) (v := ?v1d) rfl (by kernel_rfl) (by kernel_rfl) (by kernel_rfl) (fun _ _ _ h => h) (Or.inl ⟨by rfl, ?y1d⟩) (by assumption) ?r1d
  case y1d => (intro x hx; (try dsimp only at hx); go_simp; try with_reducible rfl)
  try simp only [Act.put, List.setIfInBounds_toArray, List.set_cons_zero, List.set_cons_succ]
  refine wpAnyH_take (i := 2) (oi := { dst := some 109, op := Op.load 3 (Operand.tmp 108), type := 3, pos := "law.go:110", after := #[{ on := 1, ground := Ground.data }], guard := none }) (v := ?v2d) rfl (by kernel_rfl) (by kernel_rfl) (by kernel_rfl) (fun _ _ _ h => h) (Or.inl ⟨by rfl, ?y2d⟩) (by assumption) ?r2d
  case y2d => (intro x hx; (try dsimp only at hx); go_simp; try with_reducible rfl)
  try simp only [Act.put, List.setIfInBounds_toArray, List.set_cons_zero, List.set_cons_succ]
  refine wpAnyH_take (i := 4) (oi := { dst := some 111, op := Op.move (Operand.tmp 1), type := 26, pos := "law.go:110", after := #[], guard := none }) (v := ?v4d) rfl (by kernel_rfl) (by kernel_rfl) (by kernel_rfl) (fun _ _ _ h => h) (Or.inl ⟨by rfl, ?y4d⟩) (by assumption) ?r4d
  case y4d => (intro x hx; (try dsimp only at hx); go_simp; try with_reducible rfl)
  try simp only [Act.put, List.setIfInBounds_toArray, List.set_cons_zero, List.set_cons_succ]
  refine wpAnyH_take (i := 5) (oi := { dst := some 112, op := Op.fieldAddr 50 (Operand.tmp 5) 1, type := 0, pos := "law.go:110", after := #[], guard := none }) (v := ?v5d) rfl (by kernel_rfl) (by kernel_rfl) (by kernel_rfl) (fun _ _ _ h => h) (Or.inl ⟨by rfl, ?y5d⟩) (by assumption) ?r5d
  case y5d => (intro x hx; (try dsimp only at hx); go_simp; try with_reducible rfl)
  try simp only [Act.put, List.setIfInBounds_toArray, List.set_cons_zero, List.set_cons_succ]
  refine wpAnyH_take (i := 6) (oi := { dst := some 113, op := Op.load 3 (Operand.tmp 112), type := 3, pos := "law.go:110", after := #[{ on := 5, ground := Ground.data }], guard := none }) (v := ?v6d) rfl (by kernel_rfl) (by kernel_rfl) (by kernel_rfl) (fun _ _ _ h => h) (Or.inl ⟨by rfl, ?y6d⟩) (by assumption) ?r6d
  case y6d => (intro x hx; (try dsimp only at hx); go_simp; try with_reducible rfl)
  try simp only [Act.put, List.setIfInBounds_toArray, List.set_cons_zero, List.set_cons_succ]
  refine wpAnyH_ready (rs := [3]) (by kernel_rfl) (by simp) ?_
  refine AllReadyH.cons (o := { dst := some 110, op := Op.call { callee := Callee.value (Operand.func 18), args := #[Operand.tmp 107, Operand.tmp 109], argTypes := #[25, 3] }, type := 38, pos := "law.go:110", after := #[{ on := 0, ground := Ground.data }, { on := 2, ground := Ground.data }], guard := none }) rfl (fun K hK => ?_) AllReadyH.nil
  go_simp
  go_at_call 18
  refine Calls.mono HPP.out ?_
  rintro e t1 ⟨rfl, g1, nx⟩
  have NX : Hid (Calls Try.prog 62 _ t1 _) := nx
  have hcb := fun j => World.cell?_of_block (a := ⟨w.heap.size, j, none⟩) (g1.block w.heap.size (by simp) (by omega) (by omega))
  have hSnew : (fun x => x.cell? ⟨w.heap.size, 1, none⟩ = some (.int .i64 b) ∧ x.cell? ⟨w.heap.size, 2, none⟩ = some (.int .i64 m) ∧ x.cell? ⟨w.heap.size, 3, none⟩ = some (.int .u64 hd)) t1 := ⟨(hcb 1).trans hHeld.1, (hcb 2).trans hHeld.2.1, (hcb 3).trans hHeld.2.2⟩
  have hsz1 := g1.size
  clear nx g1 hcb
  go_wp2_with fail
  refine hK.out _ _ hSnew (fun hHeld3 => ?_)
  clear hK K hSnew
  clear hHeld
  have hHeld := hHeld3
  clear hHeld3
  try simp only [Act.put, List.setIfInBounds_toArray, List.set_cons_zero, List.set_cons_succ]
  refine wpAnyH_ready (rs := [7]) (by kernel_rfl) (by simp) ?_
  refine AllReadyH.cons (o := { dst := some 114, op := Op.call { callee := Callee.value (Operand.func 62), args := #[Operand.tmp 111, Operand.tmp 113], argTypes := #[26, 3] }, type := 3, pos := "law.go:110", after := #[{ on := 4, ground := Ground.data }, { on := 6, ground := Ground.data }, { on := 3, ground := Ground.chain }], guard := none }) rfl (fun K hK => ?_) AllReadyH.nil
  go_simp
  go_at_call 62
  refine Calls.mono NX.out ?_
  rintro e t2 ⟨rfl, g2, fin⟩
  have FIN : Hid _ := fin
  have hcb := fun j => World.cell?_of_block (a := ⟨w.heap.size, j, none⟩) (g2.block w.heap.size (by simp at hsz1; omega) (by omega) (by omega) (by omega))
  have hSnew : (fun x => x.cell? ⟨w.heap.size, 1, none⟩ = some (.int .i64 b) ∧ x.cell? ⟨w.heap.size, 2, none⟩ = some (.int .i64 m) ∧ x.cell? ⟨w.heap.size, 3, none⟩ = some (.int .u64 hd)) t2 := ⟨(hcb 1).trans hHeld.1, (hcb 2).trans hHeld.2.1, (hcb 3).trans hHeld.2.2⟩
  clear fin g2 hcb
  go_wp2_with fail
  refine hK.out _ _ hSnew (fun hHeld7 => ?_)
  clear hK K hSnew
  clear hHeld
  have hHeld := hHeld7
  clear hHeld7
  try simp only [Act.put, List.setIfInBounds_toArray, List.set_cons_zero, List.set_cons_succ]
  refine wpAnyH_take (i := 8) (oi := { dst := some 115, op := Op.binOp BinOp.eql 3 (Operand.tmp 110) (Operand.tmp 114) 3, type := 4, pos := "law.go:110", after := #[{ on := 3, ground := Ground.data }, { on := 7, ground := Ground.data }], guard := none }) (v := ?v8d) rfl (by kernel_rfl) (by kernel_rfl) (by kernel_rfl) (fun _ _ _ h => h) (Or.inl ⟨by rfl, ?y8d⟩) (by assumption) ?r8d
  case y8d => (intro x hx; (try dsimp only at hx); go_simp; try with_reducible rfl)
  try simp only [Act.put, List.setIfInBounds_toArray, List.set_cons_zero, List.set_cons_succ]
  refine wpAnyH_take (i := 9) (oi := { dst := some 6, op := Op.assign (Operand.tmp 115), type := 4, pos := "law.go:110", after := #[{ on := 8, ground := Ground.data }, { on := 7, ground := Ground.chain }, { on := 0, ground := Ground.phase }, { on := 1, ground := Ground.phase }, { on := 2, ground := Ground.phase }, { on := 3, ground := Ground.phase }, { on := 4, ground := Ground.phase }, { on := 5, ground := Ground.phase }, { on := 6, ground := Ground.phase }, { on := 7, ground := Ground.phase }, { on := 8, ground := Ground.phase }], guard := none }) (v := ?v9d) rfl (by kernel_rfl) (by kernel_rfl) (by kernel_rfl) (fun _ _ _ h => h) (Or.inl ⟨by rfl, ?y9d⟩) (by assumption) ?r9d
  case y9d => (intro x hx; (try dsimp only at hx); go_simp; try with_reducible rfl)
  try simp only [Act.put, List.setIfInBounds_toArray, List.set_cons_zero, List.set_cons_succ]
  refine wpAnyH_done (by kernel_rfl) ?_ _
  all_goals go_wp2
  all_goals go_ret
  all_goals exact ⟨by first | rfl | simp, FIN.out⟩


set_option maxHeartbeats 4000000 in
set_option maxRecDepth 100000 in
theorem do_9 (U : World) (B gb gk gr gl g c : Nat) (P : Int) (es : List Ent) (cur last : Int) (vo : Option Nat) (w : World) (h : Two w B gb gk gr gl g c P es cur last vo) (hu : Below B U w) (hB : B ≤ w.heap.size) (hp : 4 ≤ P ∧ P ≤ 256) (b m hd : Int) (hm : Wf m) (hh : 0 ≤ hd) :
    Calls Try.prog 30 #[.pointer (some ⟨gb, 0, none⟩), .pointer (some ⟨gr, 0, none⟩), .agg #[.int .i64 9, .int .i64 b, .int .i64 m, .int .u64 hd]] w fun e w' => e = .returned (.bool true) ∧ NextT U w' B gb gk gr gl g c P := by
  have HA : Hid (Below w.heap.size w (w.alloc (.cells #[.int .i64 9, .int .i64 b, .int .i64 m, .int .u64 hd] 50))) := ba (Below.refl _ _)
  have HTA : Hid (Two (w.alloc (.cells #[.int .i64 9, .int .i64 b, .int .i64 m, .int .u64 hd] 50)) B gb gk gr gl g c P es cur last vo) := h.below HA.out
  have HUA : Hid (Below B U (w.alloc (.cells #[.int .i64 9, .int .i64 b, .int .i64 m, .int .u64 hd] 50))) := hu.trans (HA.out.mono hB)
  have HBA : Hid (B ≤ (w.alloc (.cells #[.int .i64 9, .int .i64 b, .int .i64 m, .int .u64 hd] 50)).heap.size) := by unfold Hid; simp; omega
  have hgb := lt_of_block h.bk.box
  have hgk := lt_of_block h.bk.row
  obtain ⟨hgr, hgl, hgg⟩ := h.rf.lt
  clear h hu
  obtain ⟨er, ds, hdl, hpp⟩ := pair_commit HTA.out HUA.out HBA.out hp b
  have HPP : Hid (Calls Try.prog 21 _ _ _) := hpp
  clear hpp
  go_enter Try.func30, Try.ntmps30
  go_wp2_with (first
    | (go_at_call 21; refine Calls.mono HPP.out ?_; rintro e t1 ⟨v1, rfl, g1, nx⟩; have NX : Hid (Calls Try.prog 31 _ t1 _) := nx; have z1 : t1.cell? ⟨w.heap.size, 1, none⟩ = some (.int .i64 b) := (World.cell?_of_block (g1.block w.heap.size (by simp) (by omega) (by omega))).trans (by simp); clear nx g1)
    | (go_at_call 31; refine Calls.mono NX.out ?_; rintro e t2 ⟨v2, rfl, i1, i2, fin⟩; have FIN : Hid _ := fin; have HI1 : Hid _ := i1; have HI2 : Hid _ := i2; clear fin i1 i2)
    | (go_at_call 32; refine (sameInts_eq v1 v2 ds _ HI1.out HI2.out hdl).mono ?_; rintro e t3 ⟨rfl, q3, rfl⟩))
  go_ret
  refine ⟨by first | rfl | simp, ?_⟩
  obtain ⟨f1, f2, es', cur', last', vo', f3⟩ := FIN.out
  exact ⟨f1, below_drewN f2 _, es', cur', last', vo', f3.drewN _⟩


set_option maxHeartbeats 4000000 in
set_option maxRecDepth 100000 in
theorem do_10 (U : World) (B gb gk gr gl g c : Nat) (P : Int) (es : List Ent) (cur last : Int) (vo : Option Nat) (w : World) (h : Two w B gb gk gr gl g c P es cur last vo) (hu : Below B U w) (hB : B ≤ w.heap.size) (hp : 4 ≤ P ∧ P ≤ 256) (b m hd : Int) (hm : Wf m) (hh : 0 ≤ hd) :
    Calls Try.prog 30 #[.pointer (some ⟨gb, 0, none⟩), .pointer (some ⟨gr, 0, none⟩), .agg #[.int .i64 10, .int .i64 b, .int .i64 m, .int .u64 hd]] w fun e w' => e = .returned (.bool true) ∧ NextT U w' B gb gk gr gl g c P := by
  have HA : Hid (Below w.heap.size w (w.alloc (.cells #[.int .i64 10, .int .i64 b, .int .i64 m, .int .u64 hd] 50))) := ba (Below.refl _ _)
  have HTA : Hid (Two (w.alloc (.cells #[.int .i64 10, .int .i64 b, .int .i64 m, .int .u64 hd] 50)) B gb gk gr gl g c P es cur last vo) := h.below HA.out
  have HUA : Hid (Below B U (w.alloc (.cells #[.int .i64 10, .int .i64 b, .int .i64 m, .int .u64 hd] 50))) := hu.trans (HA.out.mono hB)
  have HBA : Hid (B ≤ (w.alloc (.cells #[.int .i64 10, .int .i64 b, .int .i64 m, .int .u64 hd] 50)).heap.size) := by unfold Hid; simp; omega
  have hgb := lt_of_block h.bk.box
  have hgk := lt_of_block h.bk.row
  obtain ⟨hgr, hgl, hgg⟩ := h.rf.lt
  clear h hu
  obtain ⟨x, y, z, hpp⟩ := pair_clean HTA.out HUA.out HBA.out hp
  have HPP : Hid (Calls Try.prog 15 _ _ _) := hpp
  clear hpp
  go_enter Try.func30, Try.ntmps30
  go_wp2_with (first
    | (go_at_call 15; refine Calls.mono HPP.out ?_; rintro e t1 ⟨rfl, g1, nx⟩; have NX : Hid (Calls Try.prog 63 _ t1 _) := nx; clear nx g1)
    | (go_at_call 63; refine Calls.mono NX.out ?_; rintro e t2 ⟨rfl, g2, fin⟩; have FIN : Hid _ := fin; clear fin g2))
  go_ret
  exact ⟨by first | rfl | simp, FIN.out⟩


set_option maxHeartbeats 4000000 in
set_option maxRecDepth 100000 in
theorem do_0 (U : World) (B gb gk gr gl g c : Nat) (P : Int) (es : List Ent) (cur last : Int) (vo : Option Nat) (w : World) (h : Two w B gb gk gr gl g c P es cur last vo) (hu : Below B U w) (hB : B ≤ w.heap.size) (hp : 4 ≤ P ∧ P ≤ 256) (kd : Int) (b m hd : Int) (hm : Wf m) (hh : 0 ≤ hd) (k1 : (kd == 1) = false) (k2 : (kd == 2) = false) (k3 : (kd == 3) = false) (k4 : (kd == 4) = false) (k5 : (kd == 5) = false) (k6 : (kd == 6) = false) (k7 : (kd == 7) = false) (k8 : (kd == 8) = false) (k9 : (kd == 9) = false) (k10 : (kd == 10) = false) :
    Calls Try.prog 30 #[.pointer (some ⟨gb, 0, none⟩), .pointer (some ⟨gr, 0, none⟩), .agg #[.int .i64 kd, .int .i64 b, .int .i64 m, .int .u64 hd]] w fun e w' => e = .returned (.bool true) ∧ NextT U w' B gb gk gr gl g c P := by
  have HA : Hid (Below w.heap.size w (w.alloc (.cells #[.int .i64 kd, .int .i64 b, .int .i64 m, .int .u64 hd] 50))) := ba (Below.refl _ _)
  have HTA : Hid (Two (w.alloc (.cells #[.int .i64 kd, .int .i64 b, .int .i64 m, .int .u64 hd] 50)) B gb gk gr gl g c P es cur last vo) := h.below HA.out
  have HUA : Hid (Below B U (w.alloc (.cells #[.int .i64 kd, .int .i64 b, .int .i64 m, .int .u64 hd] 50))) := hu.trans (HA.out.mono hB)
  have HBA : Hid (B ≤ (w.alloc (.cells #[.int .i64 kd, .int .i64 b, .int .i64 m, .int .u64 hd] 50)).heap.size) := by unfold Hid; simp; omega
  have hgb := lt_of_block h.bk.box
  have hgk := lt_of_block h.bk.row
  obtain ⟨hgr, hgl, hgg⟩ := h.rf.lt
  clear h hu
  go_enter Try.func30, Try.ntmps30
  go_wp2
  go_ret
  exact ⟨rfl, next_same HTA.out HUA.out HBA.out⟩
theorem do_any (U : World) (B gb gk gr gl g c : Nat) (P : Int) (es : List Ent) (cur last : Int) (vo : Option Nat) (w : World) (h : Two w B gb gk gr gl g c P es cur last vo) (hu : Below B U w) (hB : B ≤ w.heap.size) (hp : 4 ≤ P ∧ P ≤ 256) (kd b m hd : Int) (hm : Wf m) (hh : 0 ≤ hd) :
    Calls Try.prog 30 #[.pointer (some ⟨gb, 0, none⟩), .pointer (some ⟨gr, 0, none⟩), .agg #[.int .i64 kd, .int .i64 b, .int .i64 m, .int .u64 hd]] w fun e w' => e = .returned (.bool true) ∧ NextT U w' B gb gk gr gl g c P := by
  by_cases k1 : kd = 1
  · subst k1; exact do_1 U B gb gk gr gl g c P es cur last vo w h hu hB hp b m hd hm hh
  by_cases k2 : kd = 2
  · subst k2; exact do_2 U B gb gk gr gl g c P es cur last vo w h hu hB hp b m hd hm hh
  by_cases k3 : kd = 3
  · subst k3; exact do_3 U B gb gk gr gl g c P es cur last vo w h hu hB hp b m hd hm hh
  by_cases k4 : kd = 4
  · subst k4; exact do_4 U B gb gk gr gl g c P es cur last vo w h hu hB hp b m hd hm hh
  by_cases k5 : kd = 5
  · subst k5; exact do_5 U B gb gk gr gl g c P es cur last vo w h hu hB hp b m hd hm hh
  by_cases k6 : kd = 6
  · subst k6; exact do_6 U B gb gk gr gl g c P es cur last vo w h hu hB hp b m hd hm hh
  by_cases k7 : kd = 7
  · subst k7; exact do_7 U B gb gk gr gl g c P es cur last vo w h hu hB hp b m hd hm hh
  by_cases k8 : kd = 8
  · subst k8; exact do_8 U B gb gk gr gl g c P es cur last vo w h hu hB hp b m hd hm hh
  by_cases k9 : kd = 9
  · subst k9; exact do_9 U B gb gk gr gl g c P es cur last vo w h hu hB hp b m hd hm hh
  by_cases k10 : kd = 10
  · subst k10; exact do_10 U B gb gk gr gl g c P es cur last vo w h hu hB hp b m hd hm hh
  exact do_0 U B gb gk gr gl g c P es cur last vo w h hu hB hp kd b m hd hm hh (by simpa using k1) (by simpa using k2) (by simpa using k3) (by simpa using k4) (by simpa using k5) (by simpa using k6) (by simpa using k7) (by simpa using k8) (by simpa using k9) (by simpa using k10)
end Go.Proofs.Ytgijbpkfheillaa
