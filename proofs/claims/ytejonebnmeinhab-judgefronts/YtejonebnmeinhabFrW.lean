/-
  SEAT Ytejonebnmeinhab: JudgeFronts' walk, all ways.
-/
import Derived.Test.YtejonebnmeinhabFrM
import Derived.Test.YtejonebnmeinhabFrZ
import Derived.Test.YtejonebnmeinhabOpen
namespace Go.Proofs.Ytejonebnmeinhab
open Go.RowKit
set_option linter.unusedVariables false

/-- A slice's room; the nil slice has none. -/
def RoomC (a : Option Addr) (len cap : Nat) : Prop := len ≤ cap ∧ (a = none → cap = 0)
theorem open_roomC {H : Type} {enc : TypeId × Value → H} {W : World} {a : Option Addr} {len cap : Nat} {d : DataW H} {p : List MemPlace} (h : DataW.Trod enc Try.prog W 0 (fun _ => true) true 62 (.slice a len cap) d p) : RoomC a len cap := by
  obtain ⟨fuel, hf⟩ := h
  rcases Deep.open_slice Try.underlying62 hf with ⟨hcs, _⟩ | ⟨x, l, c, m, n, D, Pl, hcs, _, hl, hm, hmm, hx, hcell⟩
  · simp [Value.cells] at hcs
    obtain ⟨rfl, rfl, rfl⟩ := hcs
    exact ⟨Nat.le_refl _, fun _ => rfl⟩
  · simp [Value.cells] at hcs
    obtain ⟨rfl, rfl, rfl⟩ := hcs
    exact ⟨hl, fun h => by cases h⟩

set_option maxHeartbeats 2000000 in
set_option maxRecDepth 100000 in
theorem fronts_bad (b p s : Int) (a1 a3 a6 : Option Addr) (len cap n cap3 n6 cap6 : Nat) (bs : List Bool) (cs : List Cmd) (clean : Bool) (at0 blk : Int) (w : World) (hb : ReadsB w a1 len bs) (hl : len ≤ 140737488351232) (hc : ReadsC w a3 n cs) (hn : n * 32 ≤ 140737488351232) (hE : newE b p s len ≠ 0) :
    Calls Try.prog 5 #[.agg #[.int .i64 b, .int .i64 p, .int .i64 s], .slice a1 len cap, .bool clean, .slice a3 n cap3, .int .i64 at0, .int .i64 blk, .slice a6 n6 cap6] w fun e w' => e = .returned (.bool true) ∧ Below w.heap.size w w' := by
  have hb0 : Below w.heap.size w (w.alloc (.cells #[.int .i64 b, .int .i64 p, .int .i64 s] 23)) := (Below.refl _ _).alloc (Nat.le_refl _) _
  obtain ⟨w0, hw0⟩ : ∃ w0, w0 = w.alloc (.cells #[.int .i64 b, .int .i64 p, .int .i64 s] 23) := ⟨_, rfl⟩
  have hS : ∀ x, w0.grownBy x none → x.cell? ⟨w.heap.size, 0, none⟩ = some (.int .i64 b) ∧ x.cell? ⟨w.heap.size, 1, none⟩ = some (.int .i64 p) ∧ x.cell? ⟨w.heap.size, 2, none⟩ = some (.int .i64 s) := fun x hx => box_cells (by rw [hw0] at hx; exact hx)
  have gA : w0.grownBy (w.alloc (.cells #[.int .i64 b, .int .i64 p, .int .i64 s] 23)) none := by rw [hw0]; exact World.grownBy.refl _ _
  rw [← hw0] at hb0
  have hlen := hb.1
  have hclen := hc.1
  obtain ⟨EE, hEE⟩ : ∃ EE, newE b p s len = EE := ⟨_, rfl⟩
  have hl2 : len ≤ 140737488355000 := by omega
  have hn2 : n * 32 ≤ 140737488355264 := by omega
  have e1 : (EE == 0) = false := by rw [← hEE]; simpa using hE
  have e3 : (EE != 0) = true := by rw [← hEE]; simpa using hE
  have HEE : Hid _ := hEE
  have HE : Hid _ := hE
  have HS : Hid _ := hS
  clear hS hw0 hEE hE
  go_enter Try.func5, Try.ntmps5
  go_upto_region 2 with (first
    | (go_at_call 21; refine (rnew_any b p s a1 len cap _ hl2).mono ?_; rintro e u1 ⟨rfl, bel1⟩; rw [HEE.out]; have g1 := grownBy_trans gA (grown_of bel1 none); have bw1 := below_trans hb0 (below_of g1); clear bel1))
  refine wp_region_held_drew (S := (fun x => x.cell? ⟨w.heap.size, 0, none⟩ = some (.int .i64 b) ∧ x.cell? ⟨w.heap.size, 1, none⟩ = some (.int .i64 p) ∧ x.cell? ⟨w.heap.size, 2, none⟩ = some (.int .i64 s))) (by kernel_rfl) (HS.out _ (gb_drew g1)) (fun hHeld => ?_)
  refine wpAnyH_take (i := 0) (oi := { dst := some 28, op := Op.load 23 (Operand.tmp 7), type := 23, pos := "law.go:146", after := #[], guard := none }) (v := ?v0b) rfl (by kernel_rfl) (by kernel_rfl) (by kernel_rfl) (fun _ _ _ h => h) (Or.inl ⟨by rfl, ?y0b⟩) (by assumption) ?r0b
  case y0b => (intro x hx; (try dsimp only at hx); go_simp; try with_reducible rfl)
  try simp only [Act.put, List.setIfInBounds_toArray, List.set_cons_zero, List.set_cons_succ]
  refine wpAnyH_take (i := 1) (oi := { dst := some 29, op := Op.move (Operand.tmp 1), type := 25, pos := "law.go:146", after := #[], guard := none }) (v := ?v1b) rfl (by kernel_rfl) (by kernel_rfl) (by kernel_rfl) (fun _ _ _ h => h) (Or.inl ⟨by rfl, ?y1b⟩) (by assumption) ?r1b
  case y1b => (intro x hx; (try dsimp only at hx); go_simp; try with_reducible rfl)
  try simp only [Act.put, List.setIfInBounds_toArray, List.set_cons_zero, List.set_cons_succ]
  refine wpAnyH_take (i := 3) (oi := { dst := some 31, op := Op.move (Operand.tmp 2), type := 4, pos := "law.go:146", after := #[], guard := none }) (v := ?v3b) rfl (by kernel_rfl) (by kernel_rfl) (by kernel_rfl) (fun _ _ _ h => h) (Or.inl ⟨by rfl, ?y3b⟩) (by assumption) ?r3b
  case y3b => (intro x hx; (try dsimp only at hx); go_simp; try with_reducible rfl)
  try simp only [Act.put, List.setIfInBounds_toArray, List.set_cons_zero, List.set_cons_succ]
  refine wpAnyH_take (i := 4) (oi := { dst := some 32, op := Op.move (Operand.tmp 3), type := 62, pos := "law.go:146", after := #[], guard := none }) (v := ?v4b) rfl (by kernel_rfl) (by kernel_rfl) (by kernel_rfl) (fun _ _ _ h => h) (Or.inl ⟨by rfl, ?y4b⟩) (by assumption) ?r4b
  case y4b => (intro x hx; (try dsimp only at hx); go_simp; try with_reducible rfl)
  try simp only [Act.put, List.setIfInBounds_toArray, List.set_cons_zero, List.set_cons_succ]
  refine wpAnyH_ready (rs := [2]) (by kernel_rfl) (by simp) ?_
  refine AllReadyH.cons (o := { dst := some 30, op := Op.call { callee := Callee.value (Operand.func 23), args := #[Operand.tmp 29], argTypes := #[25] }, type := 25, pos := "law.go:146", after := #[{ on := 1, ground := Ground.data }], guard := none }) rfl (fun K hK => ?_) AllReadyH.nil
  go_simp
  go_at_call 23
  refine (marks_any _ _ _ bs _ hl (hb.below (Below.drew bw1))).mono ?_
  rintro e u2 ⟨gm, cm, rfl, hcm, ownm, belm⟩
  have g2 := grownBy_trans (gb_drew g1) (grown_of belm none)
  have bw2 := below_trans (Below.drew bw1) belm
  have hSnew := HS.out _ g2
  go_wp2_with fail
  refine hK.out _ _ hSnew (fun hHeld2 => ?_)
  clear hK K hSnew
  clear hHeld
  have hHeld := hHeld2
  clear hHeld2
  try simp only [Act.put, List.setIfInBounds_toArray, List.set_cons_zero, List.set_cons_succ]
  refine wpAnyH_ready (rs := [5]) (by kernel_rfl) (by simp) ?_
  refine AllReadyH.cons (o := { dst := some 33, op := Op.call { callee := Callee.value (Operand.func 24), args := #[Operand.tmp 32], argTypes := #[62] }, type := 62, pos := "law.go:146", after := #[{ on := 4, ground := Ground.data }, { on := 2, ground := Ground.chain }], guard := none }) rfl (fun K hK => ?_) AllReadyH.nil
  go_simp
  go_at_call 24
  refine (trace_any _ _ _ cs _ hn2 (hc.below bw2)).mono ?_
  rintro e u3 ⟨gt, ct, rfl, hct, ownt, belt⟩
  have g3 := grownBy_trans g2 (grown_of belt none)
  have bw3 := below_trans bw2 belt
  have hSnew := HS.out _ g3
  go_wp2_with fail
  refine hK.out _ _ hSnew (fun hHeld5 => ?_)
  clear hK K hSnew
  clear hHeld
  have hHeld := hHeld5
  clear hHeld5
  try simp only [Act.put, List.setIfInBounds_toArray, List.set_cons_zero, List.set_cons_succ]
  refine wpAnyH_ready (rs := [6]) (by kernel_rfl) (by simp) ?_
  refine AllReadyH.cons (o := { dst := some 34, op := Op.call { callee := Callee.value (Operand.func 22), args := #[Operand.tmp 28, Operand.tmp 30, Operand.tmp 31, Operand.tmp 33], argTypes := #[23, 25, 4, 62] }, type := 64, pos := "law.go:146", after := #[{ on := 0, ground := Ground.data }, { on := 2, ground := Ground.data }, { on := 3, ground := Ground.data }, { on := 5, ground := Ground.data }, { on := 5, ground := Ground.chain }], guard := none }) rfl (fun K hK => ?_) AllReadyH.nil
  go_simp
  go_at_call 22
  refine (check_bad b p s _ _ _ _ _ _ _ _ hl2 HE.out).mono ?_
  rintro e u4 ⟨rfl, belk⟩
  rw [HEE.out]
  have g4 := grownBy_trans g3 (grown_of belk none)
  have bw4 := below_trans bw3 belk
  have hSnew := HS.out _ g4
  go_wp2_with fail
  refine hK.out _ _ hSnew (fun hHeld6 => ?_)
  clear hK K hSnew
  clear hHeld
  have hHeld := hHeld6
  clear hHeld6
  try simp only [Act.put, List.setIfInBounds_toArray, List.set_cons_zero, List.set_cons_succ]
  refine wpAnyH_take (i := 7) (oi := { dst := some 27, op := Op.move (Operand.tmp 34), type := 64, pos := "law.go:146", after := #[{ on := 6, ground := Ground.data }], guard := none }) (v := ?v7b) rfl (by kernel_rfl) (by kernel_rfl) (by kernel_rfl) (fun _ _ _ h => h) (Or.inl ⟨by rfl, ?y7b⟩) (by assumption) ?r7b
  case y7b => (intro x hx; (try dsimp only at hx); go_simp; try with_reducible rfl)
  try simp only [Act.put, List.setIfInBounds_toArray, List.set_cons_zero, List.set_cons_succ]
  refine wpAnyH_take (i := 8) (oi := { dst := some 35, op := Op.extract (Operand.tmp 27) 0, type := 3, pos := "law.go:146", after := #[{ on := 7, ground := Ground.data }], guard := none }) (v := ?v8b) rfl (by kernel_rfl) (by kernel_rfl) (by kernel_rfl) (fun _ _ _ h => h) (Or.inl ⟨by rfl, ?y8b⟩) (by assumption) ?r8b
  case y8b => (intro x hx; (try dsimp only at hx); go_simp; try with_reducible rfl)
  try simp only [Act.put, List.setIfInBounds_toArray, List.set_cons_zero, List.set_cons_succ]
  refine wpAnyH_take (i := 9) (oi := { dst := some 36, op := Op.extract (Operand.tmp 27) 1, type := 33, pos := "law.go:146", after := #[{ on := 7, ground := Ground.data }, { on := 10, ground := Ground.gcOnly Departure.lateStores }], guard := none }) (v := ?v9b) rfl (by kernel_rfl) (by kernel_rfl) (by kernel_rfl) (fun _ _ _ h => h) (Or.inl ⟨by rfl, ?y9b⟩) (by assumption) ?r9b
  case y9b => (intro x hx; (try dsimp only at hx); go_simp; try with_reducible rfl)
  try simp only [Act.put, List.setIfInBounds_toArray, List.set_cons_zero, List.set_cons_succ]
  refine wpAnyH_take (i := 10) (oi := { dst := some 16, op := Op.assign (Operand.tmp 35), type := 3, pos := "law.go:146", after := #[{ on := 8, ground := Ground.data }, { on := 6, ground := Ground.chain }, { on := 0, ground := Ground.phase }, { on := 1, ground := Ground.phase }, { on := 2, ground := Ground.phase }, { on := 3, ground := Ground.phase }, { on := 4, ground := Ground.phase }, { on := 5, ground := Ground.phase }, { on := 6, ground := Ground.phase }, { on := 7, ground := Ground.phase }, { on := 8, ground := Ground.phase }, { on := 9, ground := Ground.textOnly Departure.lateStores }], guard := none }) (v := ?v10b) rfl (by kernel_rfl) (by kernel_rfl) (by kernel_rfl) (fun _ _ _ h => h) (Or.inl ⟨by rfl, ?y10b⟩) (by assumption) ?r10b
  case y10b => (intro x hx; (try dsimp only at hx); go_simp; try with_reducible rfl)
  try simp only [Act.put, List.setIfInBounds_toArray, List.set_cons_zero, List.set_cons_succ]
  refine wpAnyH_take (i := 11) (oi := { dst := some 17, op := Op.assign (Operand.tmp 36), type := 33, pos := "law.go:146", after := #[{ on := 9, ground := Ground.data }, { on := 10, ground := Ground.chain }, { on := 0, ground := Ground.phase }, { on := 1, ground := Ground.phase }, { on := 2, ground := Ground.phase }, { on := 3, ground := Ground.phase }, { on := 4, ground := Ground.phase }, { on := 5, ground := Ground.phase }, { on := 6, ground := Ground.phase }, { on := 7, ground := Ground.phase }, { on := 8, ground := Ground.phase }, { on := 9, ground := Ground.phase }, { on := 10, ground := Ground.phase }], guard := none }) (v := ?v11b) rfl (by kernel_rfl) (by kernel_rfl) (by kernel_rfl) (fun _ _ _ h => h) (Or.inl ⟨by rfl, ?y11b⟩) (by assumption) ?r11b
  case y11b => (intro x hx; (try dsimp only at hx); go_simp; try with_reducible rfl)
  try simp only [Act.put, List.setIfInBounds_toArray, List.set_cons_zero, List.set_cons_succ]
  refine wpAnyH_done (by kernel_rfl) ?_ _
  go_wp2
  go_ret
  exact ⟨by first | rfl | simp, bw4⟩
theorem fronts_walk (b p s : Int) (a1 : Option Addr) (len cap : Nat) (bs : List Bool) (clean : Bool) (a3 : Option Addr) (n cap3 : Nat) (cs : List Cmd) (at0 blk : Int) (a6 : Option Addr) (n6 cap6 : Nat) (cs6 : List Cmd) (w : World)
    (hb : ReadsB w a1 len bs) (hl : len ≤ 1048576) (hc : ReadsC w a3 n cs) (hn : n ≤ 1048576) (wa : Wf at0) (wk : Wf blk) (h6 : ReadsC w a6 n6 cs6) (hn6 : n6 ≤ 1048576) (hr : RoomC a3 n cap3) :
    Calls Try.prog 5 #[.agg #[.int .i64 b, .int .i64 p, .int .i64 s], .slice a1 len cap, .bool clean, .slice a3 n cap3, .int .i64 at0, .int .i64 blk, .slice a6 n6 cap6] w fun e w' => e = .returned (.bool true) ∧ Below w.heap.size w w' := by
  by_cases hE : newE b p s len = 0
  · cases a3 with
    | none => exact fronts_Z b p s a1 a6 len cap n cap3 n6 cap6 bs cs cs6 clean at0 blk w hb (by omega) hc (by omega) hr.1 h6 wa wk hE (hc.2.2.1 rfl) (hr.2 rfl)
    | some ax => exact fronts_M b p s a1 a6 ax len cap n cap3 n6 cap6 bs cs cs6 clean at0 blk w hb (by omega) hc (by omega) hr.1 h6 wa wk hE
  · exact fronts_bad b p s a1 a3 a6 len cap n cap3 n6 cap6 bs cs clean at0 blk w hb (by omega) hc (by omega) hE
end Go.Proofs.Ytejonebnmeinhab
