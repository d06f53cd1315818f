/-
  SEAT Ytejonebnmeinhab: JudgeFronts: the walk of what may be.
-/
import Derived.Test.YtejonebnmeinhabFrA
import Derived.Deep.DeepCutAuto
import Derived.Deep.CutRange
namespace Go.Proofs.Ytejonebnmeinhab
open Go.RowKit
set_option linter.unusedVariables false


set_option maxHeartbeats 8000000 in
set_option maxRecDepth 100000 in
theorem fronts_M (b p s : Int) (a1 a6 : Option Addr) (ax : Addr) (len cap n cap3 n6 cap6 : Nat) (bs : List Bool) (cs cs6 : List Cmd) (clean : Bool) (at0 blk : Int) (w : World) (hb : ReadsB w a1 len bs) (hl : len ≤ 140737488351232) (hc : ReadsC w (some ax) n cs) (hn : (n + n6 + 10) * 32 ≤ 140737488351232) (hnc : n ≤ cap3) (h6 : ReadsC w a6 n6 cs6) (wa : Wf at0) (wk : Wf blk) (hE : newE b p s len = 0) :
    Calls Try.prog 5 #[.agg #[.int .i64 b, .int .i64 p, .int .i64 s], .slice a1 len cap, .bool clean, .slice (some ax) n cap3, .int .i64 at0, .int .i64 blk, .slice a6 n6 cap6] w fun e w' => e = .returned (.bool true) ∧ Below w.heap.size w w' := by
  have hb0 : Below w.heap.size w (w.alloc (.cells #[.int .i64 b, .int .i64 p, .int .i64 s] 23)) := (Below.refl _ _).alloc (Nat.le_refl _) _
  obtain ⟨w0, hw0⟩ : ∃ w0, w0 = w.alloc (.cells #[.int .i64 b, .int .i64 p, .int .i64 s] 23) := ⟨_, rfl⟩
  have hS : ∀ x, w0.grownBy x none → x.cell? ⟨w.heap.size, 0, none⟩ = some (.int .i64 b) ∧ x.cell? ⟨w.heap.size, 1, none⟩ = some (.int .i64 p) ∧ x.cell? ⟨w.heap.size, 2, none⟩ = some (.int .i64 s) := fun x hx => box_cells (by rw [hw0] at hx; exact hx)
  have gA : w0.grownBy (w.alloc (.cells #[.int .i64 b, .int .i64 p, .int .i64 s] 23)) none := by rw [hw0]; exact World.grownBy.refl _ _
  rw [← hw0] at hb0
  have hlen := hb.1
  have hclen := hc.1
  have hf : Fits b p s = true := by
    cases hf : Fits b p s with
    | true => rfl
    | false => simp [newE, hf] at hE
  have hbd := fits_b hf
  have hlb : (len : Int) = b := by
    by_cases hb : (len : Int) = b
    · exact hb
    · simp [newE, hf, hb] at hE
  obtain ⟨st, hst⟩ : ∃ st, start clean p bs = st := ⟨_, rfl⟩
  have hsl : st.length = len := by rw [← hst, start_length]; exact hlen
  obtain ⟨N, hN⟩ : ∃ N, chkI (chk p st cs) = N := ⟨_, rfl⟩
  have hNr : -1 ≤ N ∧ N ≤ n := by
    have h9 := chkI_lt (o := chk p st cs) (n := n) (fun k hk => by have := chk_lt hk; omega)
    rw [hN] at h9
    exact h9
  obtain ⟨hN1, hN2⟩ := hNr
  have hn9 : n ≤ 4398046510976 := by omega
  have HX : Hid ((n + 1) * 32 ≤ 140737488355264 ∧ n + 1 ≤ 140737488355000 ∧ (n + n6) * 32 ≤ 140737488355264 ∧ n + n6 ≤ 140737488355000) := by unfold Hid; omega
  have HS : Hid _ := hS
  have HNV : Hid (chkI (chk p (start clean p bs) cs) = N) := by unfold Hid; rw [hst]; exact hN
  have HST : Hid (start clean p bs = st) := hst
  have HN : Hid (chkI (chk p st cs) = N) := hN
  have HW0 : Hid _ := hw0
  have HLB : Hid ((len : Int) = b) := hlb
  clear hS hw0 hf hst hN hlb
  go_enter Try.func5, Try.ntmps5
  go_upto_region 2 with (first
    | (go_at_call 21; refine (rnew_any b p s a1 len cap _ (by omega)).mono ?_; rintro e u1 ⟨rfl, bel1⟩; rw [hE]; have g1 := grownBy_trans gA (grown_of bel1 none); have bw1 := below_trans hb0 (below_of g1); obtain ⟨c0, c1, c2⟩ := HS.out _ g1; clear bel1))

  refine wp_region_held_drew (S := (fun x => x.cell? ⟨w.heap.size, 0, none⟩ = some (.int .i64 b) ∧ x.cell? ⟨w.heap.size, 1, none⟩ = some (.int .i64 p) ∧ x.cell? ⟨w.heap.size, 2, none⟩ = some (.int .i64 s))) (by kernel_rfl) (HS.out _ (gb_drew g1)) (fun hHeld => ?_)
  refine wpAnyH_take (i := 0) (oi := { dst := some 28, op := Op.load 23 (Operand.tmp 7), type := 23, pos := "law.go:146", after := #[], guard := none }) (v := ?v0k1) rfl (by kernel_rfl) (by kernel_rfl) (by kernel_rfl) (fun _ _ _ h => h) (Or.inl ⟨by rfl, ?y0k1⟩) (by assumption) ?r0k1
  case y0k1 => (intro x hx; (try dsimp only at hx); go_simp; try with_reducible rfl)
  try simp only [Act.put, List.setIfInBounds_toArray, List.set_cons_zero, List.set_cons_succ]
  refine wpAnyH_take (i := 1) (oi := { dst := some 29, op := Op.move (Operand.tmp 1), type := 25, pos := "law.go:146", after := #[], guard := none }) (v := ?v1k1) rfl (by kernel_rfl) (by kernel_rfl) (by kernel_rfl) (fun _ _ _ h => h) (Or.inl ⟨by rfl, ?y1k1⟩) (by assumption) ?r1k1
  case y1k1 => (intro x hx; (try dsimp only at hx); go_simp; try with_reducible rfl)
  try simp only [Act.put, List.setIfInBounds_toArray, List.set_cons_zero, List.set_cons_succ]
  refine wpAnyH_take (i := 3) (oi := { dst := some 31, op := Op.move (Operand.tmp 2), type := 4, pos := "law.go:146", after := #[], guard := none }) (v := ?v3k1) rfl (by kernel_rfl) (by kernel_rfl) (by kernel_rfl) (fun _ _ _ h => h) (Or.inl ⟨by rfl, ?y3k1⟩) (by assumption) ?r3k1
  case y3k1 => (intro x hx; (try dsimp only at hx); go_simp; try with_reducible rfl)
  try simp only [Act.put, List.setIfInBounds_toArray, List.set_cons_zero, List.set_cons_succ]
  refine wpAnyH_take (i := 4) (oi := { dst := some 32, op := Op.move (Operand.tmp 3), type := 62, pos := "law.go:146", after := #[], guard := none }) (v := ?v4k1) rfl (by kernel_rfl) (by kernel_rfl) (by kernel_rfl) (fun _ _ _ h => h) (Or.inl ⟨by rfl, ?y4k1⟩) (by assumption) ?r4k1
  case y4k1 => (intro x hx; (try dsimp only at hx); go_simp; try with_reducible rfl)
  try simp only [Act.put, List.setIfInBounds_toArray, List.set_cons_zero, List.set_cons_succ]
  refine wpAnyH_ready (rs := [2]) (by kernel_rfl) (by simp) ?_
  refine AllReadyH.cons (o := { dst := some 30, op := Op.call { callee := Callee.value (Operand.func 23), args := #[Operand.tmp 29], argTypes := #[25] }, type := 25, pos := "law.go:146", after := #[{ on := 1, ground := Ground.data }], guard := none }) rfl (fun K hK => ?_) AllReadyH.nil
  go_simp
  go_at_call 23
  refine (marks_any _ _ _ bs _ hl (hb.below (Below.drew bw1))).mono ?_
  rintro e t1a ⟨gm1, cm1, rfl, hcm1, ownm1, belm1⟩
  have g12 := grownBy_trans (gb_drew g1) (grown_of belm1 none)
  have bw12 := below_trans (Below.drew bw1) belm1
  have rm12 := marksR hlen ownm1
  have hSnew := HS.out _ g12
  go_wp2_with fail
  refine hK.out _ _ hSnew (fun hHeld2 => ?_)
  clear hK K hSnew
  clear hHeld
  have hHeld := hHeld2
  clear hHeld2
  try simp only [Act.put, List.setIfInBounds_toArray, List.set_cons_zero, List.set_cons_succ]
  refine wpAnyH_ready (rs := [5]) (by kernel_rfl) (by simp) ?_
  refine AllReadyH.cons (o := { dst := some 33, op := Op.call { callee := Callee.value (Operand.func 24), args := #[Operand.tmp 32], argTypes := #[62] }, type := 62, pos := "law.go:146", after := #[{ on := 4, ground := Ground.data }, { on := 2, ground := Ground.chain }], guard := none }) rfl (fun K hK => ?_) AllReadyH.nil
  go_simp
  go_at_call 24
  refine (trace_any _ _ _ cs _ (by omega) (hc.below bw12)).mono ?_
  rintro e t1b ⟨gt1, ct1, rfl, hct1, ownt1, belt1⟩
  have g13 := grownBy_trans g12 (grown_of belt1 none)
  have bw13 := below_trans bw12 belt1
  have rm13 := ReadsB.below rm12 belt1
  have rt13 := traceR hclen hc.2.1 ownt1
  have hSnew := HS.out _ g13
  go_wp2_with fail
  refine hK.out _ _ hSnew (fun hHeld5 => ?_)
  clear hK K hSnew
  clear hHeld
  have hHeld := hHeld5
  clear hHeld5
  try simp only [Act.put, List.setIfInBounds_toArray, List.set_cons_zero, List.set_cons_succ]
  refine wpAnyH_ready (rs := [6]) (by kernel_rfl) (by simp) ?_
  refine AllReadyH.cons (o := { dst := some 34, op := Op.call { callee := Callee.value (Operand.func 22), args := #[Operand.tmp 28, Operand.tmp 30, Operand.tmp 31, Operand.tmp 33], argTypes := #[23, 25, 4, 62] }, type := 64, pos := "law.go:146", after := #[{ on := 0, ground := Ground.data }, { on := 2, ground := Ground.data }, { on := 3, ground := Ground.data }, { on := 5, ground := Ground.data }, { on := 5, ground := Ground.chain }], guard := none }) rfl (fun K hK => ?_) AllReadyH.nil
  go_simp
  go_at_call 22
  refine (check_ok b p s _ _ _ _ _ _ bs cs _ _ hE rm13 rt13 (by omega)).mono ?_
  rintro e t1c ⟨rfl, belk1⟩
  rw [HNV.out]
  have g14 := grownBy_trans g13 (grown_of belk1 none)
  have bw14 := below_trans bw13 belk1
  have hSnew := HS.out _ g14
  go_wp2_with fail
  refine hK.out _ _ hSnew (fun hHeld6 => ?_)
  clear hK K hSnew
  clear hHeld
  have hHeld := hHeld6
  clear hHeld6
  try simp only [Act.put, List.setIfInBounds_toArray, List.set_cons_zero, List.set_cons_succ]
  refine wpAnyH_take (i := 7) (oi := { dst := some 27, op := Op.move (Operand.tmp 34), type := 64, pos := "law.go:146", after := #[{ on := 6, ground := Ground.data }], guard := none }) (v := ?v7k1) rfl (by kernel_rfl) (by kernel_rfl) (by kernel_rfl) (fun _ _ _ h => h) (Or.inl ⟨by rfl, ?y7k1⟩) (by assumption) ?r7k1
  case y7k1 => (intro x hx; (try dsimp only at hx); go_simp; try with_reducible rfl)
  try simp only [Act.put, List.setIfInBounds_toArray, List.set_cons_zero, List.set_cons_succ]
  refine wpAnyH_take (i := 8) (oi := { dst := some 35, op := Op.extract (Operand.tmp 27) 0, type := 3, pos := "law.go:146", after := #[{ on := 7, ground := Ground.data }], guard := none }) (v := ?v8k1) rfl (by kernel_rfl) (by kernel_rfl) (by kernel_rfl) (fun _ _ _ h => h) (Or.inl ⟨by rfl, ?y8k1⟩) (by assumption) ?r8k1
  case y8k1 => (intro x hx; (try dsimp only at hx); go_simp; try with_reducible rfl)
  try simp only [Act.put, List.setIfInBounds_toArray, List.set_cons_zero, List.set_cons_succ]
  refine wpAnyH_take (i := 9) (oi := { dst := some 36, op := Op.extract (Operand.tmp 27) 1, type := 33, pos := "law.go:146", after := #[{ on := 7, ground := Ground.data }, { on := 10, ground := Ground.gcOnly Departure.lateStores }], guard := none }) (v := ?v9k1) rfl (by kernel_rfl) (by kernel_rfl) (by kernel_rfl) (fun _ _ _ h => h) (Or.inl ⟨by rfl, ?y9k1⟩) (by assumption) ?r9k1
  case y9k1 => (intro x hx; (try dsimp only at hx); go_simp; try with_reducible rfl)
  try simp only [Act.put, List.setIfInBounds_toArray, List.set_cons_zero, List.set_cons_succ]
  refine wpAnyH_take (i := 10) (oi := { dst := some 16, op := Op.assign (Operand.tmp 35), type := 3, pos := "law.go:146", after := #[{ on := 8, ground := Ground.data }, { on := 6, ground := Ground.chain }, { on := 0, ground := Ground.phase }, { on := 1, ground := Ground.phase }, { on := 2, ground := Ground.phase }, { on := 3, ground := Ground.phase }, { on := 4, ground := Ground.phase }, { on := 5, ground := Ground.phase }, { on := 6, ground := Ground.phase }, { on := 7, ground := Ground.phase }, { on := 8, ground := Ground.phase }, { on := 9, ground := Ground.textOnly Departure.lateStores }], guard := none }) (v := ?v10k1) rfl (by kernel_rfl) (by kernel_rfl) (by kernel_rfl) (fun _ _ _ h => h) (Or.inl ⟨by rfl, ?y10k1⟩) (by assumption) ?r10k1
  case y10k1 => (intro x hx; (try dsimp only at hx); go_simp; try with_reducible rfl)
  try simp only [Act.put, List.setIfInBounds_toArray, List.set_cons_zero, List.set_cons_succ]
  refine wpAnyH_take (i := 11) (oi := { dst := some 17, op := Op.assign (Operand.tmp 36), type := 33, pos := "law.go:146", after := #[{ on := 9, ground := Ground.data }, { on := 10, ground := Ground.chain }, { on := 0, ground := Ground.phase }, { on := 1, ground := Ground.phase }, { on := 2, ground := Ground.phase }, { on := 3, ground := Ground.phase }, { on := 4, ground := Ground.phase }, { on := 5, ground := Ground.phase }, { on := 6, ground := Ground.phase }, { on := 7, ground := Ground.phase }, { on := 8, ground := Ground.phase }, { on := 9, ground := Ground.phase }, { on := 10, ground := Ground.phase }], guard := none }) (v := ?v11k1) rfl (by kernel_rfl) (by kernel_rfl) (by kernel_rfl) (fun _ _ _ h => h) (Or.inl ⟨by rfl, ?y11k1⟩) (by assumption) ?r11k1
  case y11k1 => (intro x hx; (try dsimp only at hx); go_simp; try with_reducible rfl)
  try simp only [Act.put, List.setIfInBounds_toArray, List.set_cons_zero, List.set_cons_succ]
  refine wpAnyH_done (by kernel_rfl) ?_ _
  clear ownm1 ownt1 rm12 rm13 rt13 g12 g13 bw12 bw13 belm1 belt1 belk1 hcm1 hct1 hHeld

  obtain ⟨d0, d1, d2⟩ := HS.out _ g14
  clear c0 c1 c2 g1 bw1
  go_upto_region 5 with fail
  go_cut [54] from 47 to 54 (fun s54 wx => s54 = .bool (decide (at0 < 0 ∨ (n : Int) < at0)) ∧ t1c = wx)
  case first =>
    by_cases q0 : at0 < 0
    · go_wp2
      go_meet
      exact ⟨congrArg Value.bool (decide_eq_true (by omega)).symm, rfl⟩
    · by_cases q1 : (n : Int) < at0
      · go_wp2
        go_meet
        exact ⟨congrArg Value.bool (decide_eq_true (by omega)).symm, rfl⟩
      · go_wp2
        go_meet
        exact ⟨congrArg Value.bool (decide_eq_false (by omega)).symm, rfl⟩
  case rest =>
  obtain ⟨rfl, rfl⟩ := hcut
  go_upto_if 54 with fail
  go_cut [4] from 54 to 56 (fun s4 wx => ∃ A : Nat, A ≤ n ∧ s4 = .int .i64 (A : Int) ∧ t1c = wx)
  case first =>
    by_cases q0 : at0 < 0 ∨ (n : Int) < at0
    · have q1 : decide (at0 < 0 ∨ (n : Int) < at0) = true := decide_eq_true q0
      go_wp2
      go_meet
      exact ⟨n, by omega, rfl, rfl⟩
    · have q1 : decide (at0 < 0 ∨ (n : Int) < at0) = false := decide_eq_false q0
      go_wp2
      go_meet
      exact ⟨at0.toNat, by omega, by congr 1; omega, rfl⟩
  case rest =>
  obtain ⟨A, hA, rfl, rfl⟩ := hcut
  have hA1 : (A : Int) ≤ (n : Int) := by omega
  have hA2 : (A : Int) ≤ (cap3 : Int) := by omega
  obtain ⟨F, hF⟩ : ∃ F, chkI (chk p st (cs.take A)) = F := ⟨_, rfl⟩
  have HFV : Hid (chkI (chk p (start clean p bs) (cs.take A)) = F) := by unfold Hid; rw [HST.out]; exact hF
  have HFE : Hid (chkI (chk p st (cs.take A)) = F) := hF
  have htl : (cs.take A).length = A := by rw [List.length_take, hclen]; omega
  have HTO : Hid (∀ c ∈ cs.take A, c.Ok) := fun c hc9 => hc.2.1 c (List.mem_of_mem_take hc9)
  clear hF
  go_upto_region 7 with fail

  refine wp_region_held_drew (S := (fun x => x.cell? ⟨w.heap.size, 0, none⟩ = some (.int .i64 b) ∧ x.cell? ⟨w.heap.size, 1, none⟩ = some (.int .i64 p) ∧ x.cell? ⟨w.heap.size, 2, none⟩ = some (.int .i64 s))) (by kernel_rfl) (HS.out _ (gb_drew g14)) (fun hHeld => ?_)
  refine wpAnyH_take (i := 0) (oi := { dst := some 58, op := Op.load 23 (Operand.tmp 7), type := 23, pos := "law.go:153", after := #[], guard := none }) (v := ?v0k2) rfl (by kernel_rfl) (by kernel_rfl) (by kernel_rfl) (fun _ _ _ h => h) (Or.inl ⟨by rfl, ?y0k2⟩) (by assumption) ?r0k2
  case y0k2 => (intro x hx; (try dsimp only at hx); go_simp; try with_reducible rfl)
  try simp only [Act.put, List.setIfInBounds_toArray, List.set_cons_zero, List.set_cons_succ]
  refine wpAnyH_take (i := 1) (oi := { dst := some 59, op := Op.move (Operand.tmp 1), type := 25, pos := "law.go:153", after := #[], guard := none }) (v := ?v1k2) rfl (by kernel_rfl) (by kernel_rfl) (by kernel_rfl) (fun _ _ _ h => h) (Or.inl ⟨by rfl, ?y1k2⟩) (by assumption) ?r1k2
  case y1k2 => (intro x hx; (try dsimp only at hx); go_simp; try with_reducible rfl)
  try simp only [Act.put, List.setIfInBounds_toArray, List.set_cons_zero, List.set_cons_succ]
  refine wpAnyH_take (i := 3) (oi := { dst := some 61, op := Op.move (Operand.tmp 2), type := 4, pos := "law.go:153", after := #[], guard := none }) (v := ?v3k2) rfl (by kernel_rfl) (by kernel_rfl) (by kernel_rfl) (fun _ _ _ h => h) (Or.inl ⟨by rfl, ?y3k2⟩) (by assumption) ?r3k2
  case y3k2 => (intro x hx; (try dsimp only at hx); go_simp; try with_reducible rfl)
  try simp only [Act.put, List.setIfInBounds_toArray, List.set_cons_zero, List.set_cons_succ]
  refine wpAnyH_take (i := 4) (oi := { dst := some 62, op := Op.move (Operand.tmp 3), type := 62, pos := "law.go:153", after := #[], guard := none }) (v := ?v4k2) rfl (by kernel_rfl) (by kernel_rfl) (by kernel_rfl) (fun _ _ _ h => h) (Or.inl ⟨by rfl, ?y4k2⟩) (by assumption) ?r4k2
  case y4k2 => (intro x hx; (try dsimp only at hx); go_simp; try with_reducible rfl)
  try simp only [Act.put, List.setIfInBounds_toArray, List.set_cons_zero, List.set_cons_succ]
  refine wpAnyH_take (i := 5) (oi := { dst := some 63, op := Op.move (Operand.tmp 4), type := 3, pos := "law.go:153", after := #[], guard := none }) (v := ?v5k2) rfl (by kernel_rfl) (by kernel_rfl) (by kernel_rfl) (fun _ _ _ h => h) (Or.inl ⟨by rfl, ?y5k2⟩) (by assumption) ?r5k2
  case y5k2 => (intro x hx; (try dsimp only at hx); go_simp; try with_reducible rfl)
  try simp only [Act.put, List.setIfInBounds_toArray, List.set_cons_zero, List.set_cons_succ]
  refine wpAnyH_take (i := 6) (oi := { dst := some 64, op := Op.slice 62 (Operand.tmp 62) none (some (Operand.tmp 63)) none, type := 62, pos := "law.go:153", after := #[{ on := 4, ground := Ground.data }, { on := 5, ground := Ground.data }], guard := none }) (v := ?v6k2) rfl (by kernel_rfl) (by kernel_rfl) (by kernel_rfl) (fun _ _ _ h => h) (Or.inl ⟨by rfl, ?y6k2⟩) (by assumption) ?r6k2
  case y6k2 => (intro x hx; (try dsimp only at hx); go_simp; try with_reducible rfl)
  try simp only [Act.put, List.setIfInBounds_toArray, List.set_cons_zero, List.set_cons_succ]
  refine wpAnyH_ready (rs := [2]) (by kernel_rfl) (by simp) ?_
  refine AllReadyH.cons (o := { dst := some 60, op := Op.call { callee := Callee.value (Operand.func 23), args := #[Operand.tmp 59], argTypes := #[25] }, type := 25, pos := "law.go:153", after := #[{ on := 1, ground := Ground.data }], guard := none }) rfl (fun K hK => ?_) AllReadyH.nil
  go_simp
  go_at_call 23
  refine (marks_any _ _ _ bs _ hl (hb.below (Below.drew bw14))).mono ?_
  rintro e t2a ⟨gm2, cm2, rfl, hcm2, ownm2, belm2⟩
  have g22 := grownBy_trans (gb_drew g14) (grown_of belm2 none)
  have bw22 := below_trans (Below.drew bw14) belm2
  have rm22 := marksR hlen ownm2
  have hSnew := HS.out _ g22
  go_wp2_with fail
  refine hK.out _ _ hSnew (fun hHeld2 => ?_)
  clear hK K hSnew
  clear hHeld
  have hHeld := hHeld2
  clear hHeld2
  try simp only [Act.put, List.setIfInBounds_toArray, List.set_cons_zero, List.set_cons_succ]
  refine wpAnyH_ready (rs := [7]) (by kernel_rfl) (by simp) ?_
  refine AllReadyH.cons (o := { dst := some 65, op := Op.call { callee := Callee.value (Operand.func 24), args := #[Operand.tmp 64], argTypes := #[62] }, type := 62, pos := "law.go:153", after := #[{ on := 6, ground := Ground.data }, { on := 2, ground := Ground.chain }], guard := none }) rfl (fun K hK => ?_) AllReadyH.nil
  go_simp
  go_at_call 24
  refine (trace_any _ _ _ (cs.take A) _ (by omega) ((hc.below bw22).front hA)).mono ?_
  rintro e t2b ⟨gt2, ct2, rfl, hct2, ownt2, belt2⟩
  have g23 := grownBy_trans g22 (grown_of belt2 none)
  have bw23 := below_trans bw22 belt2
  have rm23 := ReadsB.below rm22 belt2
  have rt23 := traceR htl HTO.out ownt2
  have hSnew := HS.out _ g23
  go_wp2_with fail
  refine hK.out _ _ hSnew (fun hHeld7 => ?_)
  clear hK K hSnew
  clear hHeld
  have hHeld := hHeld7
  clear hHeld7
  try simp only [Act.put, List.setIfInBounds_toArray, List.set_cons_zero, List.set_cons_succ]
  refine wpAnyH_ready (rs := [8]) (by kernel_rfl) (by simp) ?_
  refine AllReadyH.cons (o := { dst := some 66, op := Op.call { callee := Callee.value (Operand.func 22), args := #[Operand.tmp 58, Operand.tmp 60, Operand.tmp 61, Operand.tmp 65], argTypes := #[23, 25, 4, 62] }, type := 64, pos := "law.go:153", after := #[{ on := 0, ground := Ground.data }, { on := 2, ground := Ground.data }, { on := 3, ground := Ground.data }, { on := 7, ground := Ground.data }, { on := 7, ground := Ground.chain }], guard := none }) rfl (fun K hK => ?_) AllReadyH.nil
  go_simp
  go_at_call 22
  refine (check_ok b p s _ _ _ _ _ _ bs (cs.take A) _ _ hE rm23 rt23 (by omega)).mono ?_
  rintro e t2c ⟨rfl, belk2⟩
  rw [HFV.out]
  have g24 := grownBy_trans g23 (grown_of belk2 none)
  have bw24 := below_trans bw23 belk2
  have hSnew := HS.out _ g24
  go_wp2_with fail
  refine hK.out _ _ hSnew (fun hHeld8 => ?_)
  clear hK K hSnew
  clear hHeld
  have hHeld := hHeld8
  clear hHeld8
  try simp only [Act.put, List.setIfInBounds_toArray, List.set_cons_zero, List.set_cons_succ]
  refine wpAnyH_take (i := 9) (oi := { dst := some 57, op := Op.move (Operand.tmp 66), type := 64, pos := "law.go:153", after := #[{ on := 8, ground := Ground.data }], guard := none }) (v := ?v9k2) rfl (by kernel_rfl) (by kernel_rfl) (by kernel_rfl) (fun _ _ _ h => h) (Or.inl ⟨by rfl, ?y9k2⟩) (by assumption) ?r9k2
  case y9k2 => (intro x hx; (try dsimp only at hx); go_simp; try with_reducible rfl)
  try simp only [Act.put, List.setIfInBounds_toArray, List.set_cons_zero, List.set_cons_succ]
  refine wpAnyH_take (i := 10) (oi := { dst := some 67, op := Op.extract (Operand.tmp 57) 0, type := 3, pos := "law.go:153", after := #[{ on := 9, ground := Ground.data }], guard := none }) (v := ?v10k2) rfl (by kernel_rfl) (by kernel_rfl) (by kernel_rfl) (fun _ _ _ h => h) (Or.inl ⟨by rfl, ?y10k2⟩) (by assumption) ?r10k2
  case y10k2 => (intro x hx; (try dsimp only at hx); go_simp; try with_reducible rfl)
  try simp only [Act.put, List.setIfInBounds_toArray, List.set_cons_zero, List.set_cons_succ]
  refine wpAnyH_take (i := 11) (oi := { dst := some 68, op := Op.extract (Operand.tmp 57) 1, type := 33, pos := "law.go:153", after := #[{ on := 9, ground := Ground.data }, { on := 12, ground := Ground.gcOnly Departure.lateStores }], guard := none }) (v := ?v11k2) rfl (by kernel_rfl) (by kernel_rfl) (by kernel_rfl) (fun _ _ _ h => h) (Or.inl ⟨by rfl, ?y11k2⟩) (by assumption) ?r11k2
  case y11k2 => (intro x hx; (try dsimp only at hx); go_simp; try with_reducible rfl)
  try simp only [Act.put, List.setIfInBounds_toArray, List.set_cons_zero, List.set_cons_succ]
  refine wpAnyH_take (i := 12) (oi := { dst := some 18, op := Op.assign (Operand.tmp 67), type := 3, pos := "law.go:153", after := #[{ on := 10, ground := Ground.data }, { on := 8, ground := Ground.chain }, { on := 0, ground := Ground.phase }, { on := 1, ground := Ground.phase }, { on := 2, ground := Ground.phase }, { on := 3, ground := Ground.phase }, { on := 4, ground := Ground.phase }, { on := 5, ground := Ground.phase }, { on := 6, ground := Ground.phase }, { on := 7, ground := Ground.phase }, { on := 8, ground := Ground.phase }, { on := 9, ground := Ground.phase }, { on := 10, ground := Ground.phase }, { on := 11, ground := Ground.textOnly Departure.lateStores }], guard := none }) (v := ?v12k2) rfl (by kernel_rfl) (by kernel_rfl) (by kernel_rfl) (fun _ _ _ h => h) (Or.inl ⟨by rfl, ?y12k2⟩) (by assumption) ?r12k2
  case y12k2 => (intro x hx; (try dsimp only at hx); go_simp; try with_reducible rfl)
  try simp only [Act.put, List.setIfInBounds_toArray, List.set_cons_zero, List.set_cons_succ]
  refine wpAnyH_take (i := 13) (oi := { dst := some 19, op := Op.assign (Operand.tmp 68), type := 33, pos := "law.go:153", after := #[{ on := 11, ground := Ground.data }, { on := 12, ground := Ground.chain }, { on := 0, ground := Ground.phase }, { on := 1, ground := Ground.phase }, { on := 2, ground := Ground.phase }, { on := 3, ground := Ground.phase }, { on := 4, ground := Ground.phase }, { on := 5, ground := Ground.phase }, { on := 6, ground := Ground.phase }, { on := 7, ground := Ground.phase }, { on := 8, ground := Ground.phase }, { on := 9, ground := Ground.phase }, { on := 10, ground := Ground.phase }, { on := 11, ground := Ground.phase }, { on := 12, ground := Ground.phase }], guard := none }) (v := ?v13k2) rfl (by kernel_rfl) (by kernel_rfl) (by kernel_rfl) (fun _ _ _ h => h) (Or.inl ⟨by rfl, ?y13k2⟩) (by assumption) ?r13k2
  case y13k2 => (intro x hx; (try dsimp only at hx); go_simp; try with_reducible rfl)
  try simp only [Act.put, List.setIfInBounds_toArray, List.set_cons_zero, List.set_cons_succ]
  refine wpAnyH_done (by kernel_rfl) ?_ _
  clear ownm2 ownt2 rm22 rm23 rt23 g22 g23 bw22 bw23 belm2 belt2 belk2 hcm2 hct2 hHeld

  obtain ⟨q, hq⟩ : ∃ q : Nat, q = if blk < 0 ∨ b ≤ blk then 0 else blk.toNat := ⟨_, rfl⟩
  have hql : q < len := by
    have := HLB.out
    rw [hq]
    split <;> omega
  obtain ⟨K, hK⟩ : ∃ K, chkI (chk p st (cs.take A ++ [⟨3, q, 0, 44⟩] ++ cs.drop A)) = K := ⟨_, rfl⟩
  have hcase := fronts_chk p st cs A q (by omega) (by omega) N F K HN.out HFE.out hK
  have HKV : Hid (chkI (chk p (start clean p bs) (cs.take A ++ [⟨3, q, 0, 44⟩] ++ cs.drop A)) = K) := by unfold Hid; rw [HST.out]; exact hK
  have HCASE : Hid _ := hcase
  have HQ : Hid _ := hq
  clear hK hcase hq
  obtain ⟨c0, c1, c2⟩ := HS.out _ g24
  clear d0 d1 d2 g14 bw14
  go_upto_region 8 with fail
  go_cut [75] from 69 to 75 (fun s75 wx => s75 = .bool (decide (0 ≤ N ∧ N < (A : Int))) ∧ t2c = wx)
  case first =>
    by_cases q0 : 0 ≤ N
    · by_cases q1 : N < (A : Int)
      · go_wp2
        go_meet
        exact ⟨congrArg Value.bool (decide_eq_true ⟨q0, q1⟩).symm, rfl⟩
      · go_wp2
        go_meet
        exact ⟨congrArg Value.bool (decide_eq_false (by omega)).symm, rfl⟩
    · go_wp2
      go_meet
      exact ⟨congrArg Value.bool (decide_eq_false (by omega)).symm, rfl⟩
  case rest =>
  obtain ⟨rfl, rfl⟩ := hcut
  go_upto_if 75 with fail
  go_cut [18] from 75 to 80 (fun s18 wx => s18 = .int .i64 F ∧ t2c = wx)
  case first =>
    rcases HCASE.out with ⟨h1, h2, h3⟩ | ⟨h1, h2, h3, h4⟩ | ⟨h1, h2, h3⟩
    · have q0 : decide (0 ≤ N ∧ N < (A : Int)) = false := decide_eq_false (by omega)
      have q2 : ¬ (0 ≤ N) := by omega
      have q3 : N < 0 := by omega
      subst h2
      clear h1 h3
      go_wp2
      go_meet
      exact ⟨rfl, rfl⟩
    · have q0 : decide (0 ≤ N ∧ N < (A : Int)) = true := decide_eq_true ⟨h1, h2⟩
      obtain rfl : N = F := h3.symm
      have q1 : (N != N) = false := by simp
      clear h4
      go_wp2
      go_meet
      exact ⟨rfl, rfl⟩
    · have q0 : decide (0 ≤ N ∧ N < (A : Int)) = false := decide_eq_false (by omega)
      have q2 : ¬ (N < (A : Int)) := by omega
      have q3 : 0 ≤ N := by omega
      subst h2
      clear h3
      go_wp2
      go_meet
      exact ⟨rfl, rfl⟩
  case rest =>
  obtain ⟨rfl, rfl⟩ := hcut

  go_upto_region 13 with fail
  go_cut [88] from 81 to 88 (fun s88 wx => s88 = .bool (decide (blk < 0 ∨ b ≤ blk)) ∧ t2c = wx)
  case first =>
    by_cases q0 : blk < 0
    · go_wp2
      go_meet
      exact ⟨congrArg Value.bool (decide_eq_true (by omega)).symm, rfl⟩
    · by_cases q1 : b ≤ blk
      · go_wp2
        go_meet
        exact ⟨congrArg Value.bool (decide_eq_true (by omega)).symm, rfl⟩
      · go_wp2
        go_meet
        exact ⟨congrArg Value.bool (decide_eq_false (by omega)).symm, rfl⟩
  case rest =>
  obtain ⟨rfl, rfl⟩ := hcut
  go_upto_if 88 with fail
  go_cut [5] from 88 to 88 (fun s5 wx => s5 = .int .i64 (q : Int) ∧ t2c = wx)
  case first =>
    have hq := HQ.out
    by_cases q0 : blk < 0 ∨ b ≤ blk
    · have q1 : decide (blk < 0 ∨ b ≤ blk) = true := decide_eq_true q0
      rw [if_pos q0] at hq
      have HQ2 : Hid _ := hq
      clear hq
      go_wp2
      go_meet
      exact ⟨by rw [HQ2.out]; rfl, rfl⟩
    · have q1 : decide (blk < 0 ∨ b ≤ blk) = false := decide_eq_false q0
      rw [if_neg q0] at hq
      have HQ2 : Hid _ := hq
      clear hq
      go_wp2
      go_meet
      exact ⟨by rw [HQ2.out]; congr 1; omega, rfl⟩
  case rest =>
  obtain ⟨rfl, rfl⟩ := hcut

  obtain ⟨i0, hi, hz0, hz1, hz2⟩ := info_parts info73
  have HI : Hid (Try.prog.info? 73 = some i0 ∧ i0.zero = some (.agg #[.int .i64 0, .int .i64 0, .int .i64 0, .int .i64 0]) ∧ i0.size = 4 ∧ i0.bytes = 32) := ⟨hi, hz0, hz1, hz2⟩
  clear hi hz0 hz1 hz2
  obtain ⟨X, hX⟩ : ∃ X, cs.take A = X := ⟨_, rfl⟩
  obtain ⟨Y, hY⟩ : ∃ Y, cs.drop A = Y := ⟨_, rfl⟩
  obtain ⟨wr, hwr⟩ : ∃ wr, t2c = wr := ⟨_, rfl⟩
  have PX : Hid (ReadsC t2c (some ax) n cs ∧ (n + n6 + 10) * 32 ≤ 140737488351232 ∧ n ≤ cap3 ∧ q ≤ 100000) := ⟨hc.below bw24, hn, hnc, by have := hbd.2.1; have := HLB.out; omega⟩
  have HF : Hid (∀ x, Below t2c.heap.size t2c x → RV x (some ax) A 4 (flat X)) := fun x hx => by
    have := ((PX.out.1.below hx).front hA).rv
    rw [hX] at this; exact this
  have HBk : Hid (∀ x, Below t2c.heap.size t2c x → ∀ z, (cap3 = A → z = ax) → (cap3 ≠ A → z = ax.add (A * 4)) → RV x (some z) (n - A) 4 (flat Y)) := fun x hx z h1 h2 => by
    have hb := PX.out.1.below hx
    by_cases h : cap3 = A
    · have e0 : n - A = 0 := by omega
      have eY : Y = [] := by
        rw [← hY]
        exact List.drop_eq_nil_of_le (by rw [hb.1]; omega)
      rw [e0, eY]
      exact ⟨rfl, (fun q => by cases q), fun y hy j u hj => by simp [flat] at hj⟩
    · rw [h2 h]
      have := (hb.back hA).rv
      rw [hY] at this; exact this
  have HXY : Hid (∀ c, c ∈ X ∨ c ∈ Y → c.Ok) := fun c h => by
    refine PX.out.1.2.1 c ?_
    rcases h with h | h
    · rw [← hX] at h; exact List.mem_of_mem_take h
    · rw [← hY] at h; exact List.mem_of_mem_drop h
  have HXe : Hid (cs.take A = X ∧ cs.drop A = Y) := ⟨hX, hY⟩
  have HD : Hid (0 + A ≤ maxLen ∧ (0 + A) * 32 ≤ 140737488355328 ∧ 0 + A + 1 ≤ maxLen ∧ (0 + A + 1) * 32 ≤ 140737488355328 ∧ 0 + A + 1 + (n - A) ≤ maxLen ∧ (0 + A + 1 + (n - A)) * 32 ≤ 140737488355328) := by
    unfold Hid maxLen
    omega
  clear hX hY hwr
  have a0 : Below t2c.heap.size t2c t2c := Below.refl _ _
  have a1_ := a0.alloc (Nat.le_refl _) (.cells #[] 73)
  have a2 := a1_.alloc a1_.size (.cells #[.int .i64 3, .int .i64 (q : Int), .int .i64 0, .int .i64 44] 73)
  have a3 := a0.alloc (Nat.le_refl _) (.cells #[.int .i64 3, .int .i64 (q : Int), .int .i64 0, .int .i64 44] 73)
  have a4 := a3.alloc a3.size (.cells #[] 73)
  have b1 : Below t2c.heap.size t2c ((t2c.alloc (.cells #[] 73)).drew) := a1_.drew
  have b2 : Below t2c.heap.size t2c (((t2c.alloc (.cells #[] 73)).alloc (.cells #[.int .i64 3, .int .i64 (q : Int), .int .i64 0, .int .i64 44] 73)).drew) := a2.drew
  have e2 : Below t2c.heap.size t2c (((t2c.alloc (.cells #[.int .i64 3, .int .i64 (q : Int), .int .i64 0, .int .i64 44] 73)).alloc (.cells #[] 73)).drew) := a4.drew
  have p1 : (t2c.alloc (.cells #[] 73)).ownsRow t2c.heap.size 73 4 (.slice (some ⟨t2c.heap.size, 0, none⟩) 0 0) 0 [] := own_made t2c t2c.heap.size (Nat.le_refl _)
  have o1 : ((t2c.alloc (.cells #[] 73)).drew).ownsRow t2c.heap.size 73 4 (.slice (some ⟨t2c.heap.size, 0, none⟩) 0 0) 0 [] := p1.drew
  have o2 : (((t2c.alloc (.cells #[] 73)).alloc (.cells #[.int .i64 3, .int .i64 (q : Int), .int .i64 0, .int .i64 44] 73)).drew).ownsRow t2c.heap.size 73 4 (.slice (some ⟨t2c.heap.size, 0, none⟩) 0 0) 0 [] := (p1.alloc (.cells #[.int .i64 3, .int .i64 (q : Int), .int .i64 0, .int .i64 44] 73)).drew
  have o3 : (((t2c.alloc (.cells #[.int .i64 3, .int .i64 (q : Int), .int .i64 0, .int .i64 44] 73)).alloc (.cells #[] 73)).drew).ownsRow t2c.heap.size 73 4 (.slice (some ⟨t2c.heap.size + 1, 0, none⟩) 0 0) 0 [] := by
    have h := own_made (t2c.alloc (.cells #[.int .i64 3, .int .i64 (q : Int), .int .i64 0, .int .i64 44] 73)) t2c.heap.size a3.size
    rw [World.size_alloc] at h
    exact h.drew
  have rC2 : RV (((t2c.alloc (.cells #[] 73)).alloc (.cells #[.int .i64 3, .int .i64 (q : Int), .int .i64 0, .int .i64 44] 73)).drew) (some ⟨t2c.heap.size + 1, 0, none⟩) 1 4 [.int .i64 3, .int .i64 (q : Int), .int .i64 0, .int .i64 44] := by
    have h := rv_block (w := t2c.alloc (.cells #[] 73)) (cs := #[.int .i64 3, .int .i64 (q : Int), .int .i64 0, .int .i64 44]) (t := 73) (m := 1) (size := 4) rfl
    rw [World.size_alloc] at h
    exact h.grown (drew_grown _ none) (by simp)
  have rC3 : RV (((t2c.alloc (.cells #[.int .i64 3, .int .i64 (q : Int), .int .i64 0, .int .i64 44] 73)).alloc (.cells #[] 73)).drew) (some ⟨t2c.heap.size, 0, none⟩) 1 4 [.int .i64 3, .int .i64 (q : Int), .int .i64 0, .int .i64 44] := (rv_block (w := t2c) (cs := #[.int .i64 3, .int .i64 (q : Int), .int .i64 0, .int .i64 44]) (t := 73) (m := 1) (size := 4) rfl).grown (gb_drew (World.grownBy_alloc _ _ none)) (by simp)
  have P23 : Hid (Below t2c.heap.size t2c ((t2c.alloc (.cells #[] 73)).drew) ∧ Below t2c.heap.size t2c (((t2c.alloc (.cells #[] 73)).alloc (.cells #[.int .i64 3, .int .i64 (q : Int), .int .i64 0, .int .i64 44] 73)).drew) ∧ Below t2c.heap.size t2c (((t2c.alloc (.cells #[.int .i64 3, .int .i64 (q : Int), .int .i64 0, .int .i64 44] 73)).alloc (.cells #[] 73)).drew) ∧ ((t2c.alloc (.cells #[] 73)).drew).ownsRow t2c.heap.size 73 4 (.slice (some ⟨t2c.heap.size, 0, none⟩) 0 0) 0 [] ∧ (((t2c.alloc (.cells #[] 73)).alloc (.cells #[.int .i64 3, .int .i64 (q : Int), .int .i64 0, .int .i64 44] 73)).drew).ownsRow t2c.heap.size 73 4 (.slice (some ⟨t2c.heap.size, 0, none⟩) 0 0) 0 [] ∧ (((t2c.alloc (.cells #[.int .i64 3, .int .i64 (q : Int), .int .i64 0, .int .i64 44] 73)).alloc (.cells #[] 73)).drew).ownsRow t2c.heap.size 73 4 (.slice (some ⟨t2c.heap.size + 1, 0, none⟩) 0 0) 0 [] ∧ RV (((t2c.alloc (.cells #[] 73)).alloc (.cells #[.int .i64 3, .int .i64 (q : Int), .int .i64 0, .int .i64 44] 73)).drew) (some ⟨t2c.heap.size + 1, 0, none⟩) 1 4 [.int .i64 3, .int .i64 (q : Int), .int .i64 0, .int .i64 44] ∧ RV (((t2c.alloc (.cells #[.int .i64 3, .int .i64 (q : Int), .int .i64 0, .int .i64 44] 73)).alloc (.cells #[] 73)).drew) (some ⟨t2c.heap.size, 0, none⟩) 1 4 [.int .i64 3, .int .i64 (q : Int), .int .i64 0, .int .i64 44]) := ⟨b1, b2, e2, o1, o2, o3, rC2, rC3⟩
  clear a0 a1_ a2 a3 a4 b1 b2 e2 p1 o1 o2 o3 rC2 rC3
  go_upto_region 15 with fail
  go_cut [20] from 89 to 101 (fun s20 wx => ∃ aw kw, s20 = .slice aw (n + 1) kw ∧ Hid (ReadsC wx aw (n + 1) (X ++ [⟨3, q, 0, 44⟩] ++ Y)) ∧ Below t2c.heap.size t2c wx)
  case first =>
    go_region_held3 (fun _ => True) (trivial)
      (first
        | (refine step_append_src (by rfl) (.tmp 89) (.tmp 92) 62 (by rfl) t2c.heap.size 73 i0 _ 4 32 Try.underlying62 HI.out.1 HI.out.2.1 HI.out.2.2.1 HI.out.2.2.2 rfl (by decide) (.slice (some ⟨t2c.heap.size, 0, none⟩) 0 0) 0 [] ?_ ?_ (some ax) A _ (flat X) (by rfl) ?_ (flat_one _) HD.out.1 HD.out.2.1 ?_ ?_; exact rfl; with_reducible exact P23.out.2.2.2.1; exact HF.out _ P23.out.1; exact P23.out.1.size; intro v1 w1 own1 grow1; have bv1 := P23.out.1.grown grow1 P23.out.1.size (fun j hj => (P23.out.2.2.2.1.lt j hj).1))
        | (refine step_append_src (by rfl) (.tmp 89) (.tmp 92) 62 (by rfl) t2c.heap.size 73 i0 _ 4 32 Try.underlying62 HI.out.1 HI.out.2.1 HI.out.2.2.1 HI.out.2.2.2 rfl (by decide) (.slice (some ⟨t2c.heap.size, 0, none⟩) 0 0) 0 [] ?_ ?_ (some ax) A _ (flat X) (by rfl) ?_ (flat_one _) HD.out.1 HD.out.2.1 ?_ ?_; exact rfl; with_reducible exact P23.out.2.2.2.2.1; exact HF.out _ P23.out.2.1; exact P23.out.2.1.size; intro v1 w1 own1 grow1; have bv1 := P23.out.2.1.grown grow1 P23.out.2.1.size (fun j hj => (P23.out.2.2.2.2.1.lt j hj).1); have rC1 := P23.out.2.2.2.2.2.2.1.grown grow1 (by intro x hx; cases hx; simp [Value.ownBlock]))
        | (refine step_append_src (by rfl) (.tmp 89) (.tmp 92) 62 (by rfl) t2c.heap.size 73 i0 _ 4 32 Try.underlying62 HI.out.1 HI.out.2.1 HI.out.2.2.1 HI.out.2.2.2 rfl (by decide) (.slice (some ⟨t2c.heap.size + 1, 0, none⟩) 0 0) 0 [] ?_ ?_ (some ax) A _ (flat X) (by rfl) ?_ (flat_one _) HD.out.1 HD.out.2.1 ?_ ?_; exact rfl; with_reducible exact P23.out.2.2.2.2.2.1; exact HF.out _ P23.out.2.2.1; exact P23.out.2.2.1.size; intro v1 w1 own1 grow1; have bv1 := P23.out.2.2.1.grown grow1 P23.out.2.2.1.size (fun j hj => (P23.out.2.2.2.2.2.1.lt j hj).1); have rC1 := P23.out.2.2.2.2.2.2.2.grown grow1 (by intro x hx; cases hx; simp [Value.ownBlock]))
        | (refine step_append_src (by rfl) (.tmp 93) (.tmp 96) 62 (by rfl) t2c.heap.size 73 i0 _ 4 32 Try.underlying62 HI.out.1 HI.out.2.1 HI.out.2.2.1 HI.out.2.2.2 rfl (by decide) v1 (0 + A) ([] ++ flat X) (by rfl) own1 _ 1 _ [.int .i64 3, .int .i64 (q : Int), .int .i64 0, .int .i64 44] (by rfl) rC1 (flat_one [⟨3, (q : Int), 0, 44⟩]) HD.out.2.2.1 HD.out.2.2.2.1 bv1.size ?_; intro v2 w2 own2 grow2; have bv2 := bv1.grown grow2 bv1.size (fun j hj => (own1.lt j hj).1))
        | (refine step_append_src (by rfl) (.tmp 93) (.tmp 96) 62 (by rfl) t2c.heap.size 73 i0 _ 4 32 Try.underlying62 HI.out.1 HI.out.2.1 HI.out.2.2.1 HI.out.2.2.2 rfl (by decide) v1 (0 + A) ([] ++ flat X) (by rfl) (own1.alloc _) _ 1 _ [.int .i64 3, .int .i64 (q : Int), .int .i64 0, .int .i64 44] (by rfl) (rv_block (w := w1) (cs := #[.int .i64 3, .int .i64 (q : Int), .int .i64 0, .int .i64 44]) (t := 73) rfl) (flat_one [⟨3, (q : Int), 0, 44⟩]) HD.out.2.2.1 HD.out.2.2.2.1 (bv1.alloc bv1.size _).size ?_; intro v2 w2 own2 grow2; have bv2 := (bv1.alloc bv1.size _).grown grow2 (bv1.alloc bv1.size _).size (fun j hj => (own1.lt j hj).1))
        | (refine step_append_src (by rfl) (.tmp 97) (.tmp 100) 62 (by rfl) t2c.heap.size 73 i0 _ 4 32 Try.underlying62 HI.out.1 HI.out.2.1 HI.out.2.2.1 HI.out.2.2.2 rfl (by decide) v2 (0 + A + 1) ([] ++ flat X ++ [.int .i64 3, .int .i64 (q : Int), .int .i64 0, .int .i64 44]) (by rfl) own2 (some (if cap3 = A then ax else ax.add (A * 4))) (n - A) (cap3 - A) (flat Y) ?_ ?_ (flat_one _) HD.out.2.2.2.2.1 HD.out.2.2.2.2.2 bv2.size ?_; exact congrArg (fun z => Value.slice z (n - A) (cap3 - A)) (ite_some cap3 A ax (ax.add (A * 4))); exact HBk.out _ bv2 _ (fun h => if_pos h) (fun h => if_neg h); intro v3 w3 own3 grow3; have bv3 := bv2.grown grow3 bv2.size (fun j hj => (own2.lt j hj).1)))
    all_goals generalize (if cap3 = A then some ax else some (ax.add (A * 4))) = oo
    all_goals go_wp2
    all_goals go_meet
    all_goals
      obtain ⟨aw, kw, rfl, hrw⟩ := with44 own3 hA (fun c h => HXY.out c (Or.inl h)) (fun c h => HXY.out c (Or.inr h)) (by have := PX.out.2.2.2; omega)
      exact ⟨aw, kw, rfl, hrw, bv3⟩
  case rest =>
  obtain ⟨aw, kw, rfl, HRW, bwx⟩ := hcut
  have gx : w0.grownBy wc none := grownBy_trans g24 (grown_of bwx none)
  have bx : Below w.heap.size w wc := below_trans bw24 bwx
  obtain ⟨d0, d1, d2⟩ := HS.out _ gx
  have HKW : Hid (chkI (chk p (start clean p bs) (X ++ [⟨3, q, 0, 44⟩] ++ Y)) = K) := by unfold Hid; rw [← HXe.out.1, ← HXe.out.2]; exact HKV.out
  clear PX HF HXY HXe HD P23 HI HBk g24 bw24 c0 c1 c2
  have kwd : Below wc.heap.size wc wc.drew := (Below.refl _ _).drew
  go_upto_region 16 with fail

  refine wp_region_held_drew (S := (fun x => x.cell? ⟨w.heap.size, 0, none⟩ = some (.int .i64 b) ∧ x.cell? ⟨w.heap.size, 1, none⟩ = some (.int .i64 p) ∧ x.cell? ⟨w.heap.size, 2, none⟩ = some (.int .i64 s))) (by kernel_rfl) (HS.out _ (gb_drew gx)) (fun hHeld => ?_)
  refine wpAnyH_take (i := 0) (oi := { dst := some 103, op := Op.load 23 (Operand.tmp 7), type := 23, pos := "law.go:165", after := #[], guard := none }) (v := ?v0k3) rfl (by kernel_rfl) (by kernel_rfl) (by kernel_rfl) (fun _ _ _ h => h) (Or.inl ⟨by rfl, ?y0k3⟩) (by assumption) ?r0k3
  case y0k3 => (intro x hx; (try dsimp only at hx); go_simp; try with_reducible rfl)
  try simp only [Act.put, List.setIfInBounds_toArray, List.set_cons_zero, List.set_cons_succ]
  refine wpAnyH_take (i := 1) (oi := { dst := some 104, op := Op.move (Operand.tmp 1), type := 25, pos := "law.go:165", after := #[], guard := none }) (v := ?v1k3) rfl (by kernel_rfl) (by kernel_rfl) (by kernel_rfl) (fun _ _ _ h => h) (Or.inl ⟨by rfl, ?y1k3⟩) (by assumption) ?r1k3
  case y1k3 => (intro x hx; (try dsimp only at hx); go_simp; try with_reducible rfl)
  try simp only [Act.put, List.setIfInBounds_toArray, List.set_cons_zero, List.set_cons_succ]
  refine wpAnyH_take (i := 3) (oi := { dst := some 106, op := Op.move (Operand.tmp 2), type := 4, pos := "law.go:165", after := #[], guard := none }) (v := ?v3k3) rfl (by kernel_rfl) (by kernel_rfl) (by kernel_rfl) (fun _ _ _ h => h) (Or.inl ⟨by rfl, ?y3k3⟩) (by assumption) ?r3k3
  case y3k3 => (intro x hx; (try dsimp only at hx); go_simp; try with_reducible rfl)
  try simp only [Act.put, List.setIfInBounds_toArray, List.set_cons_zero, List.set_cons_succ]
  refine wpAnyH_take (i := 4) (oi := { dst := some 107, op := Op.move (Operand.tmp 20), type := 62, pos := "law.go:165", after := #[], guard := none }) (v := ?v4k3) rfl (by kernel_rfl) (by kernel_rfl) (by kernel_rfl) (fun _ _ _ h => h) (Or.inl ⟨by rfl, ?y4k3⟩) (by assumption) ?r4k3
  case y4k3 => (intro x hx; (try dsimp only at hx); go_simp; try with_reducible rfl)
  try simp only [Act.put, List.setIfInBounds_toArray, List.set_cons_zero, List.set_cons_succ]
  refine wpAnyH_ready (rs := [2]) (by kernel_rfl) (by simp) ?_
  refine AllReadyH.cons (o := { dst := some 105, op := Op.call { callee := Callee.value (Operand.func 23), args := #[Operand.tmp 104], argTypes := #[25] }, type := 25, pos := "law.go:165", after := #[{ on := 1, ground := Ground.data }], guard := none }) rfl (fun K hK => ?_) AllReadyH.nil
  go_simp
  go_at_call 23
  refine (marks_any _ _ _ bs _ hl (hb.below (Below.drew bx))).mono ?_
  rintro e t3a ⟨gm3, cm3, rfl, hcm3, ownm3, belm3⟩
  have g32 := grownBy_trans (gb_drew gx) (grown_of belm3 none)
  have bw32 := below_trans (Below.drew bx) belm3
  have kk3 := below_trans kwd belm3
  have rm32 := marksR hlen ownm3
  have hSnew := HS.out _ g32
  go_wp2_with fail
  refine hK.out _ _ hSnew (fun hHeld2 => ?_)
  clear hK K hSnew
  clear hHeld
  have hHeld := hHeld2
  clear hHeld2
  try simp only [Act.put, List.setIfInBounds_toArray, List.set_cons_zero, List.set_cons_succ]
  refine wpAnyH_ready (rs := [5]) (by kernel_rfl) (by simp) ?_
  refine AllReadyH.cons (o := { dst := some 108, op := Op.call { callee := Callee.value (Operand.func 24), args := #[Operand.tmp 107], argTypes := #[62] }, type := 62, pos := "law.go:165", after := #[{ on := 4, ground := Ground.data }, { on := 2, ground := Ground.chain }], guard := none }) rfl (fun K hK => ?_) AllReadyH.nil
  go_simp
  go_at_call 24
  refine (trace_any _ _ _ (X ++ [⟨3, q, 0, 44⟩] ++ Y) _ HX.out.1 (HRW.out.below kk3)).mono ?_
  rintro e t3b ⟨gt3, ct3, rfl, hct3, ownt3, belt3⟩
  have g33 := grownBy_trans g32 (grown_of belt3 none)
  have bw33 := below_trans bw32 belt3
  have rm33 := ReadsB.below rm32 belt3
  have rt33 := traceR HRW.out.1 HRW.out.2.1 ownt3
  have hSnew := HS.out _ g33
  go_wp2_with fail
  refine hK.out _ _ hSnew (fun hHeld5 => ?_)
  clear hK K hSnew
  clear hHeld
  have hHeld := hHeld5
  clear hHeld5
  try simp only [Act.put, List.setIfInBounds_toArray, List.set_cons_zero, List.set_cons_succ]
  refine wpAnyH_ready (rs := [6]) (by kernel_rfl) (by simp) ?_
  refine AllReadyH.cons (o := { dst := some 109, op := Op.call { callee := Callee.value (Operand.func 22), args := #[Operand.tmp 103, Operand.tmp 105, Operand.tmp 106, Operand.tmp 108], argTypes := #[23, 25, 4, 62] }, type := 64, pos := "law.go:165", after := #[{ on := 0, ground := Ground.data }, { on := 2, ground := Ground.data }, { on := 3, ground := Ground.data }, { on := 5, ground := Ground.data }, { on := 5, ground := Ground.chain }], guard := none }) rfl (fun K hK => ?_) AllReadyH.nil
  go_simp
  go_at_call 22
  refine (check_ok b p s _ _ _ _ _ _ bs (X ++ [⟨3, q, 0, 44⟩] ++ Y) _ _ hE rm33 rt33 HX.out.2.1).mono ?_
  rintro e t3c ⟨rfl, belk3⟩
  rw [HKW.out]
  have g34 := grownBy_trans g33 (grown_of belk3 none)
  have bw34 := below_trans bw33 belk3
  have hSnew := HS.out _ g34
  go_wp2_with fail
  refine hK.out _ _ hSnew (fun hHeld6 => ?_)
  clear hK K hSnew
  clear hHeld
  have hHeld := hHeld6
  clear hHeld6
  try simp only [Act.put, List.setIfInBounds_toArray, List.set_cons_zero, List.set_cons_succ]
  refine wpAnyH_take (i := 7) (oi := { dst := some 102, op := Op.move (Operand.tmp 109), type := 64, pos := "law.go:165", after := #[{ on := 6, ground := Ground.data }], guard := none }) (v := ?v7k3) rfl (by kernel_rfl) (by kernel_rfl) (by kernel_rfl) (fun _ _ _ h => h) (Or.inl ⟨by rfl, ?y7k3⟩) (by assumption) ?r7k3
  case y7k3 => (intro x hx; (try dsimp only at hx); go_simp; try with_reducible rfl)
  try simp only [Act.put, List.setIfInBounds_toArray, List.set_cons_zero, List.set_cons_succ]
  refine wpAnyH_take (i := 8) (oi := { dst := some 110, op := Op.extract (Operand.tmp 102) 0, type := 3, pos := "law.go:165", after := #[{ on := 7, ground := Ground.data }], guard := none }) (v := ?v8k3) rfl (by kernel_rfl) (by kernel_rfl) (by kernel_rfl) (fun _ _ _ h => h) (Or.inl ⟨by rfl, ?y8k3⟩) (by assumption) ?r8k3
  case y8k3 => (intro x hx; (try dsimp only at hx); go_simp; try with_reducible rfl)
  try simp only [Act.put, List.setIfInBounds_toArray, List.set_cons_zero, List.set_cons_succ]
  refine wpAnyH_take (i := 9) (oi := { dst := some 111, op := Op.extract (Operand.tmp 102) 1, type := 33, pos := "law.go:165", after := #[{ on := 7, ground := Ground.data }, { on := 10, ground := Ground.gcOnly Departure.lateStores }], guard := none }) (v := ?v9k3) rfl (by kernel_rfl) (by kernel_rfl) (by kernel_rfl) (fun _ _ _ h => h) (Or.inl ⟨by rfl, ?y9k3⟩) (by assumption) ?r9k3
  case y9k3 => (intro x hx; (try dsimp only at hx); go_simp; try with_reducible rfl)
  try simp only [Act.put, List.setIfInBounds_toArray, List.set_cons_zero, List.set_cons_succ]
  refine wpAnyH_take (i := 10) (oi := { dst := some 21, op := Op.assign (Operand.tmp 110), type := 3, pos := "law.go:165", after := #[{ on := 8, ground := Ground.data }, { on := 6, ground := Ground.chain }, { on := 0, ground := Ground.phase }, { on := 1, ground := Ground.phase }, { on := 2, ground := Ground.phase }, { on := 3, ground := Ground.phase }, { on := 4, ground := Ground.phase }, { on := 5, ground := Ground.phase }, { on := 6, ground := Ground.phase }, { on := 7, ground := Ground.phase }, { on := 8, ground := Ground.phase }, { on := 9, ground := Ground.textOnly Departure.lateStores }], guard := none }) (v := ?v10k3) rfl (by kernel_rfl) (by kernel_rfl) (by kernel_rfl) (fun _ _ _ h => h) (Or.inl ⟨by rfl, ?y10k3⟩) (by assumption) ?r10k3
  case y10k3 => (intro x hx; (try dsimp only at hx); go_simp; try with_reducible rfl)
  try simp only [Act.put, List.setIfInBounds_toArray, List.set_cons_zero, List.set_cons_succ]
  refine wpAnyH_take (i := 11) (oi := { dst := some 22, op := Op.assign (Operand.tmp 111), type := 33, pos := "law.go:165", after := #[{ on := 9, ground := Ground.data }, { on := 10, ground := Ground.chain }, { on := 0, ground := Ground.phase }, { on := 1, ground := Ground.phase }, { on := 2, ground := Ground.phase }, { on := 3, ground := Ground.phase }, { on := 4, ground := Ground.phase }, { on := 5, ground := Ground.phase }, { on := 6, ground := Ground.phase }, { on := 7, ground := Ground.phase }, { on := 8, ground := Ground.phase }, { on := 9, ground := Ground.phase }, { on := 10, ground := Ground.phase }], guard := none }) (v := ?v11k3) rfl (by kernel_rfl) (by kernel_rfl) (by kernel_rfl) (fun _ _ _ h => h) (Or.inl ⟨by rfl, ?y11k3⟩) (by assumption) ?r11k3
  case y11k3 => (intro x hx; (try dsimp only at hx); go_simp; try with_reducible rfl)
  try simp only [Act.put, List.setIfInBounds_toArray, List.set_cons_zero, List.set_cons_succ]
  refine wpAnyH_done (by kernel_rfl) ?_ _
  clear ownm3 ownt3 rm32 rm33 rt33 g32 g33 bw32 bw33 belm3 belt3 belk3 hcm3 hct3 hHeld

  obtain ⟨c0, c1, c2⟩ := HS.out _ g34
  go_upto_region 17 with fail
  go_cut [142] from 112 to 142 (fun s142 wx => s142 = .bool false ∧ t3c = wx)
  case first =>
    rcases HCASE.out with ⟨h1, h2, h3⟩ | ⟨h1, h2, h3, h4⟩ | ⟨h1, h2, h3⟩
    · have q0 : N < 0 := by omega
      subst h3
      have q1 : ((-1 : Int) != -1) = false := by decide
      have q2 : ¬ (0 ≤ N) := by omega
      have q3 : ¬ ((A : Int) ≤ N) := by omega
      clear h1 h2
      go_wp2
      go_meet
      exact ⟨rfl, rfl⟩
    · have q0 : ¬ (N < 0) := by omega
      obtain rfl : N = K := h4.symm
      have q1 : (N != N) = false := by simp
      have q3 : ¬ ((A : Int) ≤ N) := by omega
      clear h3
      go_wp2
      go_meet
      exact ⟨rfl, rfl⟩
    · have q0 : ¬ (N < 0) := by omega
      have q2 : ¬ (N < (A : Int)) := by omega
      have q4 : 0 ≤ N := by omega
      subst h3
      have q1 : (N + 1 != N + 1) = false := by simp
      clear h2
      go_wp2
      go_meet
      exact ⟨rfl, rfl⟩
  case rest =>
  obtain ⟨rfl, rfl⟩ := hcut
  obtain ⟨i0, hi, hz0, hz1, hz2⟩ := info_parts info73
  have HI : Hid (Try.prog.info? 73 = some i0 ∧ i0.zero = some (.agg #[.int .i64 0, .int .i64 0, .int .i64 0, .int .i64 0]) ∧ i0.size = 4 ∧ i0.bytes = 32) := ⟨hi, hz0, hz1, hz2⟩
  obtain ⟨L, hL⟩ : ∃ L, chkI (chk p st (cs ++ cs6)) = L := ⟨_, rfl⟩
  have HLV : Hid (chkI (chk p (start clean p bs) (cs ++ cs6)) = L) := by unfold Hid; rw [HST.out]; exact hL
  have HLC : Hid _ := longer_chk p st cs cs6 N L HN.out hL
  have bwA := bw34.alloc bw34.size (.cells #[] 73)
  have RV1 : Hid (RV (t3c.alloc (.cells #[] 73)) (some ax) n 4 (flat cs)) := (hc.below bwA).rv
  have HOK : Hid (∀ c ∈ cs ++ cs6, c.Ok) := fun c hc9 => (List.mem_append.1 hc9).elim (hc.2.1 c) (h6.2.1 c)
  have H6 : Hid (∀ u, Below w.heap.size w u → RV u a6 n6 4 (flat cs6)) := fun u hu => (h6.below hu).rv
  have hm1 : 0 + n ≤ maxLen := by unfold maxLen; omega
  have hm2 : (0 + n) * 32 ≤ 140737488355328 := by omega
  have hm3 : 0 + n + n6 ≤ maxLen := by unfold maxLen; omega
  have hm4 : (0 + n + n6) * 32 ≤ 140737488355328 := by omega
  clear hi hz0 hz1 hz2 hL
  go_upto_region 20 with (first
    | (at_builtin; have h9 := RV1; clear h9; refine wpList_append_src rfl (.tmp 143) (.tmp 144) 62 rfl t3c.heap.size 73 i0 _ 4 32 Try.underlying62 HI.out.1 HI.out.2.1 HI.out.2.2.1 HI.out.2.2.2 rfl (by decide) _ 0 [] rfl (own_made t3c _ (Nat.le_refl _)) _ _ _ (flat cs) rfl RV1.out (flat_one _) hm1 hm2 (by simp) ?_; intro v1 w1 own1 grow1; have bl1 := ((Below.refl t3c.heap.size t3c).alloc (Nat.le_refl _) (.cells #[] 73)).grown grow1 (by simp) (fun j hj => ((own_made t3c t3c.heap.size (Nat.le_refl _)).lt j hj).1); have bx1 := below_trans bw34 bl1; clear RV1 grow1)
    | (at_builtin; have h9 := bx1; clear h9; refine wpList_append_src rfl (.tmp 145) (.tmp 146) 62 rfl t3c.heap.size 73 i0 _ 4 32 Try.underlying62 HI.out.1 HI.out.2.1 HI.out.2.2.1 HI.out.2.2.2 rfl (by decide) _ (0 + n) ([] ++ flat cs) rfl own1 _ _ _ (flat cs6) rfl (H6.out _ bx1) (flat_one _) hm3 hm4 bl1.size ?_; intro v2 w2 own2 grow2; have bl2 := bl1.grown grow2 bl1.size (fun j hj => (own1.lt j hj).1); have bx2 := below_trans bw34 bl2; have gx2 := grownBy_trans g34 (grown_of bl2 none); obtain ⟨al, kl, hal, rl⟩ := own_slice (cs := cs ++ cs6) (n := n + n6) (by rw [flat_append]; have h8 := own2; rw [Nat.zero_add, List.nil_append] at h8; exact h8) HOK.out; subst hal; have RL : Hid (ReadsC w2 al (n + n6) (cs ++ cs6)) := rl; obtain ⟨e0, e1, e2⟩ := HS.out _ gx2; have kl4 : Below w2.heap.size w2 w2.drew := (Below.refl _ _).drew; clear own1 own2 grow2 bl1 bx1 rl))

  refine wp_region_held_drew (S := (fun x => x.cell? ⟨w.heap.size, 0, none⟩ = some (.int .i64 b) ∧ x.cell? ⟨w.heap.size, 1, none⟩ = some (.int .i64 p) ∧ x.cell? ⟨w.heap.size, 2, none⟩ = some (.int .i64 s))) (by kernel_rfl) (HS.out _ (gb_drew gx2)) (fun hHeld => ?_)
  refine wpAnyH_take (i := 0) (oi := { dst := some 149, op := Op.load 23 (Operand.tmp 7), type := 23, pos := "law.go:170", after := #[], guard := none }) (v := ?v0k4) rfl (by kernel_rfl) (by kernel_rfl) (by kernel_rfl) (fun _ _ _ h => h) (Or.inl ⟨by rfl, ?y0k4⟩) (by assumption) ?r0k4
  case y0k4 => (intro x hx; (try dsimp only at hx); go_simp; try with_reducible rfl)
  try simp only [Act.put, List.setIfInBounds_toArray, List.set_cons_zero, List.set_cons_succ]
  refine wpAnyH_take (i := 1) (oi := { dst := some 150, op := Op.move (Operand.tmp 1), type := 25, pos := "law.go:170", after := #[], guard := none }) (v := ?v1k4) rfl (by kernel_rfl) (by kernel_rfl) (by kernel_rfl) (fun _ _ _ h => h) (Or.inl ⟨by rfl, ?y1k4⟩) (by assumption) ?r1k4
  case y1k4 => (intro x hx; (try dsimp only at hx); go_simp; try with_reducible rfl)
  try simp only [Act.put, List.setIfInBounds_toArray, List.set_cons_zero, List.set_cons_succ]
  refine wpAnyH_take (i := 3) (oi := { dst := some 152, op := Op.move (Operand.tmp 2), type := 4, pos := "law.go:170", after := #[], guard := none }) (v := ?v3k4) rfl (by kernel_rfl) (by kernel_rfl) (by kernel_rfl) (fun _ _ _ h => h) (Or.inl ⟨by rfl, ?y3k4⟩) (by assumption) ?r3k4
  case y3k4 => (intro x hx; (try dsimp only at hx); go_simp; try with_reducible rfl)
  try simp only [Act.put, List.setIfInBounds_toArray, List.set_cons_zero, List.set_cons_succ]
  refine wpAnyH_take (i := 4) (oi := { dst := some 153, op := Op.move (Operand.tmp 23), type := 62, pos := "law.go:170", after := #[], guard := none }) (v := ?v4k4) rfl (by kernel_rfl) (by kernel_rfl) (by kernel_rfl) (fun _ _ _ h => h) (Or.inl ⟨by rfl, ?y4k4⟩) (by assumption) ?r4k4
  case y4k4 => (intro x hx; (try dsimp only at hx); go_simp; try with_reducible rfl)
  try simp only [Act.put, List.setIfInBounds_toArray, List.set_cons_zero, List.set_cons_succ]
  refine wpAnyH_ready (rs := [2]) (by kernel_rfl) (by simp) ?_
  refine AllReadyH.cons (o := { dst := some 151, op := Op.call { callee := Callee.value (Operand.func 23), args := #[Operand.tmp 150], argTypes := #[25] }, type := 25, pos := "law.go:170", after := #[{ on := 1, ground := Ground.data }], guard := none }) rfl (fun K hK => ?_) AllReadyH.nil
  go_simp
  go_at_call 23
  refine (marks_any _ _ _ bs _ hl (hb.below (Below.drew bx2))).mono ?_
  rintro e t4a ⟨gm4, cm4, rfl, hcm4, ownm4, belm4⟩
  have g42 := grownBy_trans (gb_drew gx2) (grown_of belm4 none)
  have bw42 := below_trans (Below.drew bx2) belm4
  have kk4 := below_trans kl4 belm4
  have rm42 := marksR hlen ownm4
  have hSnew := HS.out _ g42
  go_wp2_with fail
  refine hK.out _ _ hSnew (fun hHeld2 => ?_)
  clear hK K hSnew
  clear hHeld
  have hHeld := hHeld2
  clear hHeld2
  try simp only [Act.put, List.setIfInBounds_toArray, List.set_cons_zero, List.set_cons_succ]
  refine wpAnyH_ready (rs := [5]) (by kernel_rfl) (by simp) ?_
  refine AllReadyH.cons (o := { dst := some 154, op := Op.call { callee := Callee.value (Operand.func 24), args := #[Operand.tmp 153], argTypes := #[62] }, type := 62, pos := "law.go:170", after := #[{ on := 4, ground := Ground.data }, { on := 2, ground := Ground.chain }], guard := none }) rfl (fun K hK => ?_) AllReadyH.nil
  go_simp
  go_at_call 24
  refine (trace_any _ _ _ (cs ++ cs6) _ HX.out.2.2.1 (RL.out.below kk4)).mono ?_
  rintro e t4b ⟨gt4, ct4, rfl, hct4, ownt4, belt4⟩
  have g43 := grownBy_trans g42 (grown_of belt4 none)
  have bw43 := below_trans bw42 belt4
  have rm43 := ReadsB.below rm42 belt4
  have rt43 := traceR RL.out.1 HOK.out ownt4
  have hSnew := HS.out _ g43
  go_wp2_with fail
  refine hK.out _ _ hSnew (fun hHeld5 => ?_)
  clear hK K hSnew
  clear hHeld
  have hHeld := hHeld5
  clear hHeld5
  try simp only [Act.put, List.setIfInBounds_toArray, List.set_cons_zero, List.set_cons_succ]
  refine wpAnyH_ready (rs := [6]) (by kernel_rfl) (by simp) ?_
  refine AllReadyH.cons (o := { dst := some 155, op := Op.call { callee := Callee.value (Operand.func 22), args := #[Operand.tmp 149, Operand.tmp 151, Operand.tmp 152, Operand.tmp 154], argTypes := #[23, 25, 4, 62] }, type := 64, pos := "law.go:170", after := #[{ on := 0, ground := Ground.data }, { on := 2, ground := Ground.data }, { on := 3, ground := Ground.data }, { on := 5, ground := Ground.data }, { on := 5, ground := Ground.chain }], guard := none }) rfl (fun K hK => ?_) AllReadyH.nil
  go_simp
  go_at_call 22
  refine (check_ok b p s _ _ _ _ _ _ bs (cs ++ cs6) _ _ hE rm43 rt43 HX.out.2.2.2).mono ?_
  rintro e t4c ⟨rfl, belk4⟩
  rw [HLV.out]
  have g44 := grownBy_trans g43 (grown_of belk4 none)
  have bw44 := below_trans bw43 belk4
  have hSnew := HS.out _ g44
  go_wp2_with fail
  refine hK.out _ _ hSnew (fun hHeld6 => ?_)
  clear hK K hSnew
  clear hHeld
  have hHeld := hHeld6
  clear hHeld6
  try simp only [Act.put, List.setIfInBounds_toArray, List.set_cons_zero, List.set_cons_succ]
  refine wpAnyH_take (i := 7) (oi := { dst := some 148, op := Op.move (Operand.tmp 155), type := 64, pos := "law.go:170", after := #[{ on := 6, ground := Ground.data }], guard := none }) (v := ?v7k4) rfl (by kernel_rfl) (by kernel_rfl) (by kernel_rfl) (fun _ _ _ h => h) (Or.inl ⟨by rfl, ?y7k4⟩) (by assumption) ?r7k4
  case y7k4 => (intro x hx; (try dsimp only at hx); go_simp; try with_reducible rfl)
  try simp only [Act.put, List.setIfInBounds_toArray, List.set_cons_zero, List.set_cons_succ]
  refine wpAnyH_take (i := 8) (oi := { dst := some 156, op := Op.extract (Operand.tmp 148) 0, type := 3, pos := "law.go:170", after := #[{ on := 7, ground := Ground.data }], guard := none }) (v := ?v8k4) rfl (by kernel_rfl) (by kernel_rfl) (by kernel_rfl) (fun _ _ _ h => h) (Or.inl ⟨by rfl, ?y8k4⟩) (by assumption) ?r8k4
  case y8k4 => (intro x hx; (try dsimp only at hx); go_simp; try with_reducible rfl)
  try simp only [Act.put, List.setIfInBounds_toArray, List.set_cons_zero, List.set_cons_succ]
  refine wpAnyH_take (i := 9) (oi := { dst := some 157, op := Op.extract (Operand.tmp 148) 1, type := 33, pos := "law.go:170", after := #[{ on := 7, ground := Ground.data }, { on := 10, ground := Ground.gcOnly Departure.lateStores }], guard := none }) (v := ?v9k4) rfl (by kernel_rfl) (by kernel_rfl) (by kernel_rfl) (fun _ _ _ h => h) (Or.inl ⟨by rfl, ?y9k4⟩) (by assumption) ?r9k4
  case y9k4 => (intro x hx; (try dsimp only at hx); go_simp; try with_reducible rfl)
  try simp only [Act.put, List.setIfInBounds_toArray, List.set_cons_zero, List.set_cons_succ]
  refine wpAnyH_take (i := 10) (oi := { dst := some 21, op := Op.assign (Operand.tmp 156), type := 3, pos := "law.go:170", after := #[{ on := 8, ground := Ground.data }, { on := 6, ground := Ground.chain }, { on := 0, ground := Ground.phase }, { on := 1, ground := Ground.phase }, { on := 2, ground := Ground.phase }, { on := 3, ground := Ground.phase }, { on := 4, ground := Ground.phase }, { on := 5, ground := Ground.phase }, { on := 6, ground := Ground.phase }, { on := 7, ground := Ground.phase }, { on := 8, ground := Ground.phase }, { on := 9, ground := Ground.textOnly Departure.lateStores }], guard := none }) (v := ?v10k4) rfl (by kernel_rfl) (by kernel_rfl) (by kernel_rfl) (fun _ _ _ h => h) (Or.inl ⟨by rfl, ?y10k4⟩) (by assumption) ?r10k4
  case y10k4 => (intro x hx; (try dsimp only at hx); go_simp; try with_reducible rfl)
  try simp only [Act.put, List.setIfInBounds_toArray, List.set_cons_zero, List.set_cons_succ]
  refine wpAnyH_done (by kernel_rfl) ?_ _
  clear ownm4 ownt4 rm42 rm43 rt43 g42 g43 bw42 bw43 belm4 belt4 belk4 hcm4 hct4 hHeld

  rcases HLC.out with ⟨h1, h2 | h2⟩ | ⟨h1, h2⟩
  · have q0 : N < 0 := by omega
    subst h2
    clear h1
    go_wp2
    go_ret
    exact ⟨by first | rfl | simp, bw44⟩
  · have q0 : N < 0 := by omega
    have q1 : (L == -1) = false := by simp; omega
    have q2 : (n : Int) ≤ L := by omega
    clear h1
    go_wp2
    go_ret
    exact ⟨by first | rfl | simp, bw44⟩
  · have q0 : ¬ (N < 0) := by omega
    obtain rfl : N = L := h2.symm
    have q1 : (N == N) = true := by simp
    go_wp2
    go_ret
    exact ⟨by first | rfl | simp, bw44⟩
end Go.Proofs.Ytejonebnmeinhab
