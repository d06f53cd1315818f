/-
  SEAT Ytgijbpkfheillaa: alike.
-/
import Derived.Test.YtgijbpkfheillaaPlN
namespace Go.Proofs.Ytgijbpkfheillaa
open Go.RowKit
set_option linter.unusedVariables false

set_option maxHeartbeats 8000000 in
set_option maxRecDepth 100000 in
theorem alike_any (B gb gk gr gl g c : Nat) (P : Int) (es : List Ent) (cur last : Int) (vo : Option Nat) (w : World) (h : Two w B gb gk gr gl g c P es cur last vo) (hp : 4 ≤ P ∧ P ≤ 256) :
    Calls Try.prog 29 #[.pointer (some ⟨gb, 0, none⟩), .pointer (some ⟨gr, 0, none⟩)] w fun e w' => e = .returned (.bool true) ∧ Below w.heap.size w w' := by
  have HT : Hid (Two w B gb gk gr gl g c P es cur last vo) := h
  have hn : es.length ≤ 5000 := by have := h.len; omega
  obtain ⟨oa, ob, hov⟩ := openV_form es
  obtain ⟨va, vh, vb, hlv⟩ := oldV_form (oldE es)
  have HOV : Hid _ := hov
  have HLV : Hid _ := hlv
  have HHD : Hid (HeadsE es) := h.ok.heads
  have HBK : Hid (∀ b ∈ es.map Ent.bk, b.Ok) := h.ok.bks hp.2
  obtain ⟨G, hG⟩ : ∃ G : Int, (es.length : Int) - (cnt [6, 4] es es.length : Nat) = G := ⟨_, rfl⟩
  obtain ⟨A, hA⟩ : ∃ A, cnt [0, 5, 3] es es.length = A := ⟨_, rfl⟩
  obtain ⟨L, hL⟩ : ∃ L, cntP logE es es.length = L := ⟨_, rfl⟩
  have HGG : Hid _ := hG
  have HAA : Hid _ := hA
  have HLL : Hid _ := hL
  clear h hov hlv hG hA hL
  go_enter Try.func29, Try.ntmps29
  go_upto_region 5 with (first
    | (go_at_call 19; refine (open_any gb gk P es cur last (optI vo) _ HT.out.bk hn).mono ?_; rintro e tA ⟨rfl, q1⟩; rw [HOV.out]; have HTA : Hid (Two tA B gb gk gr gl g c P es cur last vo) := HT.out.below q1; have QA : Hid (Below w.heap.size w tA) := q1; clear q1)
    | (go_at_call 51; refine (ropen_any gr gl g c P es cur last (optI vo) _ HTA.out.rf hn).mono ?_; rintro e tB ⟨rfl, rfl⟩; rw [HOV.out])
    | (go_at_call 28; refine (oldest_any gb gk P es cur last (optI vo) _ HTA.out.bk hn).mono ?_; rintro e tC ⟨rfl, q2⟩; rw [HLV.out]; have HTC : Hid (Two tC B gb gk gr gl g c P es cur last vo) := HTA.out.below q2; have QC : Hid (Below w.heap.size w tC) := QA.out.trans (q2.mono QA.out.size); clear q2)
    | (go_at_call 52; refine (roldest_any gr gl g c P es cur last (optI vo) _ HTC.out.rf hn HHD.out).mono ?_; rintro e tD ⟨rfl, q3, rfl⟩; rw [HLV.out]))
  have HTD : Hid (Two (tC.drewN q3) B gb gk gr gl g c P es cur last vo) := HTC.out.drewN q3
  have QD : Hid (Below w.heap.size w (tC.drewN q3)) := below_drewN QC.out q3
  have HSH : Hid (∀ u, Two u B gb gk gr gl g c P es cur last vo → (fun x => x.cell? ⟨gr, 1, none⟩ = some (.slice (some ⟨g, 0, none⟩) es.length c) ∧ x.cell? ⟨gr, 3, none⟩ = some (.int .i64 cur)) u) := fun u hu => ⟨hu.rf.cells.2.1, hu.rf.cells.2.2.2.1⟩
  refine wp_region_held_drew (S := (fun x => x.cell? ⟨gr, 1, none⟩ = some (.slice (some ⟨g, 0, none⟩) es.length c) ∧ x.cell? ⟨gr, 3, none⟩ = some (.int .i64 cur))) (by kernel_rfl) (HSH.out _ (HTD.out.below (Below.refl _ _).drew)) (fun hHeld => ?_)
  refine wpAnyH_take (i := 0) (oi := { dst := some 37, op := Op.move (Operand.tmp 0), type := 25, pos := "law.go:87", after := #[], guard := none }) (v := ?v0o) rfl (by kernel_rfl) (by kernel_rfl) (by kernel_rfl) (fun _ _ _ h => h) (Or.inl ⟨by rfl, ?y0o⟩) (by assumption) ?r0o
  case y0o => (intro x hx; (try dsimp only at hx); go_simp; try with_reducible rfl)
  try simp only [Act.put, List.setIfInBounds_toArray, List.set_cons_zero, List.set_cons_succ]
  refine wpAnyH_take (i := 2) (oi := { dst := some 39, op := Op.move (Operand.tmp 1), type := 26, pos := "law.go:87", after := #[], guard := none }) (v := ?v2o) rfl (by kernel_rfl) (by kernel_rfl) (by kernel_rfl) (fun _ _ _ h => h) (Or.inl ⟨by rfl, ?y2o⟩) (by assumption) ?r2o
  case y2o => (intro x hx; (try dsimp only at hx); go_simp; try with_reducible rfl)
  try simp only [Act.put, List.setIfInBounds_toArray, List.set_cons_zero, List.set_cons_succ]
  refine wpAnyH_take (i := 3) (oi := { dst := some 40, op := Op.nilCheck (Operand.tmp 39), type := 0, pos := "law.go:87", after := #[{ on := 2, ground := Ground.data }], guard := none }) (v := ?v3o) rfl (by kernel_rfl) (by kernel_rfl) (by kernel_rfl) (fun _ _ _ h => h) (Or.inl ⟨by rfl, ?y3o⟩) (by assumption) ?r3o
  case y3o => (intro x hx; (try dsimp only at hx); go_simp; try with_reducible rfl)
  try simp only [Act.put, List.setIfInBounds_toArray, List.set_cons_zero, List.set_cons_succ]
  refine wpAnyH_take (i := 4) (oi := { dst := some 41, op := Op.fieldAddr 31 (Operand.tmp 40) 1, type := 0, pos := "law.go:87", after := #[{ on := 3, ground := Ground.data }], guard := none }) (v := ?v4o) rfl (by kernel_rfl) (by kernel_rfl) (by kernel_rfl) (fun _ _ _ h => h) (Or.inl ⟨by rfl, ?y4o⟩) (by assumption) ?r4o
  case y4o => (intro x hx; (try dsimp only at hx); go_simp; try with_reducible rfl)
  try simp only [Act.put, List.setIfInBounds_toArray, List.set_cons_zero, List.set_cons_succ]
  refine wpAnyH_take (i := 5) (oi := { dst := some 42, op := Op.load 24 (Operand.tmp 41), type := 24, pos := "law.go:87", after := #[{ on := 4, ground := Ground.data }], guard := none }) (v := ?v5o) rfl (by kernel_rfl) (by kernel_rfl) (by kernel_rfl) (fun _ _ _ h => h) (Or.inl ⟨by rfl, ?y5o⟩) (by assumption) ?r5o
  case y5o => (intro x hx; (try dsimp only at hx); go_simp; try with_reducible rfl)
  try simp only [Act.put, List.setIfInBounds_toArray, List.set_cons_zero, List.set_cons_succ]
  refine wpAnyH_ready (rs := [1]) (by kernel_rfl) (by simp) ?_
  refine AllReadyH.cons (o := { dst := some 38, op := Op.call { callee := Callee.value (Operand.func 16), args := #[Operand.tmp 37], argTypes := #[25] }, type := 24, pos := "law.go:87", after := #[{ on := 0, ground := Ground.data }], guard := none }) rfl (fun K hK => ?_) AllReadyH.nil
  go_simp
  go_at_call 16
  refine (list_any gb gk P es cur last (optI vo) _ (HTD.out.below (Below.refl _ _).drew).bk hn).mono ?_
  rintro e tE ⟨rfl, r2, q9⟩
  have r3 : RowAt tE tC.heap.size (es.map Ent.bk) := r2
  have HRD : Hid (ReadsK tE (some ⟨tC.heap.size, 0, none⟩) es.length (es.map Ent.bk)) := (by have h9 := r3.readsK HBK.out; rw [List.length_map] at h9; exact h9)
  clear r2 r3
  have HTtE : Hid (Two tE B gb gk gr gl g c P es cur last vo) := Two.below (HTD.out.below (Below.refl _ _).drew) q9
  have QtE : Hid (Below w.heap.size w tE) := Below.trans QD.out.drew (q9.mono (Below.size QD.out.drew))
  have hSnew := HSH.out _ HTtE.out
  clear q9
  go_wp2_with fail
  refine hK.out _ _ hSnew (fun hHeld1 => ?_)
  clear hK K hSnew
  clear hHeld
  have hHeld := hHeld1
  clear hHeld1
  try simp only [Act.put, List.setIfInBounds_toArray, List.set_cons_zero, List.set_cons_succ]
  refine wpAnyH_ready (rs := [6]) (by kernel_rfl) (by simp) ?_
  refine AllReadyH.cons (o := { dst := some 43, op := Op.call { callee := Callee.value (Operand.func 23), args := #[Operand.tmp 38, Operand.tmp 42], argTypes := #[24, 24] }, type := 4, pos := "law.go:87", after := #[{ on := 1, ground := Ground.data }, { on := 5, ground := Ground.data }, { on := 1, ground := Ground.chain }], guard := none }) rfl (fun K hK => ?_) AllReadyH.nil
  go_simp
  go_at_call 23
  refine (same_eq _ _ es.length _ _ (es.map Ent.bk) _ HRD.out (HTtE.out.rf.readsK HBK.out) (by omega)).mono ?_
  rintro e tF ⟨rfl, q8, rfl⟩
  have HTtF : Hid (Two (tE.drewN q8) B gb gk gr gl g c P es cur last vo) := HTtE.out.drewN q8
  have QtF : Hid (Below w.heap.size w (tE.drewN q8)) := below_drewN QtE.out q8
  have hSnew := HSH.out _ HTtF.out
  go_wp2_with fail
  refine hK.out _ _ hSnew (fun hHeld6 => ?_)
  clear hK K hSnew
  clear hHeld
  have hHeld := hHeld6
  clear hHeld6
  try simp only [Act.put, List.setIfInBounds_toArray, List.set_cons_zero, List.set_cons_succ]
  refine wpAnyH_take (i := 7) (oi := { dst := some 44, op := Op.move (Operand.tmp 43), type := 4, pos := "law.go:87", after := #[{ on := 6, ground := Ground.data }, { on := 6, ground := Ground.chain }], guard := none }) (v := ?v7o) rfl (by kernel_rfl) (by kernel_rfl) (by kernel_rfl) (fun _ _ _ h => h) (Or.inl ⟨by rfl, ?y7o⟩) (by assumption) ?r7o
  case y7o => (intro x hx; (try dsimp only at hx); go_simp; try with_reducible rfl)
  try simp only [Act.put, List.setIfInBounds_toArray, List.set_cons_zero, List.set_cons_succ]
  refine wpAnyH_take (i := 8) (oi := { dst := some 45, op := Op.move (Operand.tmp 5), type := 3, pos := "law.go:87", after := #[{ on := 7, ground := Ground.guard }], guard := some (7, true) }) (v := ?v8o) rfl (by kernel_rfl) (by kernel_rfl) (by kernel_rfl) (fun _ _ _ h => h) (Or.inl ⟨by rfl, ?y8o⟩) (by assumption) ?r8o
  case y8o => (intro x hx; (try dsimp only at hx); go_simp; try with_reducible rfl)
  try simp only [Act.put, List.setIfInBounds_toArray, List.set_cons_zero, List.set_cons_succ]
  refine wpAnyH_take (i := 9) (oi := { dst := some 46, op := Op.move (Operand.tmp 7), type := 3, pos := "law.go:87", after := #[{ on := 7, ground := Ground.guard }], guard := some (7, true) }) (v := ?v9o) rfl (by kernel_rfl) (by kernel_rfl) (by kernel_rfl) (fun _ _ _ h => h) (Or.inl ⟨by rfl, ?y9o⟩) (by assumption) ?r9o
  case y9o => (intro x hx; (try dsimp only at hx); go_simp; try with_reducible rfl)
  try simp only [Act.put, List.setIfInBounds_toArray, List.set_cons_zero, List.set_cons_succ]
  refine wpAnyH_take (i := 10) (oi := { dst := some 47, op := Op.binOp BinOp.eql 3 (Operand.tmp 45) (Operand.tmp 46) 3, type := 4, pos := "law.go:87", after := #[{ on := 8, ground := Ground.data }, { on := 9, ground := Ground.data }, { on := 7, ground := Ground.guard }], guard := some (7, true) }) (v := ?v10o) rfl (by kernel_rfl) (by kernel_rfl) (by kernel_rfl) (fun _ _ _ h => h) (Or.inl ⟨by rfl, ?y10o⟩) (by assumption) ?r10o
  case y10o => (intro x hx; (try dsimp only at hx); go_simp; try with_reducible rfl)
  try simp only [Act.put, List.setIfInBounds_toArray, List.set_cons_zero, List.set_cons_succ]
  refine wpAnyH_take (i := 11) (oi := { dst := some 48, op := Op.pick (Operand.tmp 44) (Operand.tmp 47) (Operand.const (Value.bool false)), type := 4, pos := "law.go:87", after := #[{ on := 7, ground := Ground.data }, { on := 10, ground := Ground.data }], guard := none }) (v := ?v11o) rfl (by kernel_rfl) (by kernel_rfl) (by kernel_rfl) (fun _ _ _ h => h) (Or.inl ⟨by rfl, ?y11o⟩) (by assumption) ?r11o
  case y11o => (intro x hx; (try dsimp only at hx); go_simp; try with_reducible rfl)
  try simp only [Act.put, List.setIfInBounds_toArray, List.set_cons_zero, List.set_cons_succ]
  refine wpAnyH_take (i := 12) (oi := { dst := some 49, op := Op.move (Operand.tmp 48), type := 4, pos := "law.go:87", after := #[{ on := 11, ground := Ground.data }, { on := 7, ground := Ground.chain }], guard := none }) (v := ?v12o) rfl (by kernel_rfl) (by kernel_rfl) (by kernel_rfl) (fun _ _ _ h => h) (Or.inl ⟨by rfl, ?y12o⟩) (by assumption) ?r12o
  case y12o => (intro x hx; (try dsimp only at hx); go_simp; try with_reducible rfl)
  try simp only [Act.put, List.setIfInBounds_toArray, List.set_cons_zero, List.set_cons_succ]
  refine wpAnyH_take (i := 13) (oi := { dst := some 50, op := Op.move (Operand.tmp 6), type := 4, pos := "law.go:87", after := #[{ on := 12, ground := Ground.guard }], guard := some (12, true) }) (v := ?v13o) rfl (by kernel_rfl) (by kernel_rfl) (by kernel_rfl) (fun _ _ _ h => h) (Or.inl ⟨by rfl, ?y13o⟩) (by assumption) ?r13o
  case y13o => (intro x hx; (try dsimp only at hx); go_simp; try with_reducible rfl)
  try simp only [Act.put, List.setIfInBounds_toArray, List.set_cons_zero, List.set_cons_succ]
  refine wpAnyH_take (i := 14) (oi := { dst := some 51, op := Op.move (Operand.tmp 8), type := 4, pos := "law.go:87", after := #[{ on := 12, ground := Ground.guard }], guard := some (12, true) }) (v := ?v14o) rfl (by kernel_rfl) (by kernel_rfl) (by kernel_rfl) (fun _ _ _ h => h) (Or.inl ⟨by rfl, ?y14o⟩) (by assumption) ?r14o
  case y14o => (intro x hx; (try dsimp only at hx); go_simp; try with_reducible rfl)
  try simp only [Act.put, List.setIfInBounds_toArray, List.set_cons_zero, List.set_cons_succ]
  refine wpAnyH_take (i := 15) (oi := { dst := some 52, op := Op.binOp BinOp.eql 4 (Operand.tmp 50) (Operand.tmp 51) 4, type := 4, pos := "law.go:87", after := #[{ on := 13, ground := Ground.data }, { on := 14, ground := Ground.data }, { on := 12, ground := Ground.guard }], guard := some (12, true) }) (v := ?v15o) rfl (by kernel_rfl) (by kernel_rfl) (by kernel_rfl) (fun _ _ _ h => h) (Or.inl ⟨by rfl, ?y15o⟩) (by assumption) ?r15o
  case y15o => (intro x hx; (try dsimp only at hx); go_simp; try with_reducible rfl)
  try simp only [Act.put, List.setIfInBounds_toArray, List.set_cons_zero, List.set_cons_succ]
  refine wpAnyH_take (i := 16) (oi := { dst := some 53, op := Op.pick (Operand.tmp 49) (Operand.tmp 52) (Operand.const (Value.bool false)), type := 4, pos := "law.go:87", after := #[{ on := 12, ground := Ground.data }, { on := 15, ground := Ground.data }], guard := none }) (v := ?v16o) rfl (by kernel_rfl) (by kernel_rfl) (by kernel_rfl) (fun _ _ _ h => h) (Or.inl ⟨by rfl, ?y16o⟩) (by assumption) ?r16o
  case y16o => (intro x hx; (try dsimp only at hx); go_simp; try with_reducible rfl)
  try simp only [Act.put, List.setIfInBounds_toArray, List.set_cons_zero, List.set_cons_succ]
  refine wpAnyH_take (i := 17) (oi := { dst := some 54, op := Op.move (Operand.tmp 53), type := 4, pos := "law.go:87", after := #[{ on := 16, ground := Ground.data }, { on := 12, ground := Ground.chain }], guard := none }) (v := ?v17o) rfl (by kernel_rfl) (by kernel_rfl) (by kernel_rfl) (fun _ _ _ h => h) (Or.inl ⟨by rfl, ?y17o⟩) (by assumption) ?r17o
  case y17o => (intro x hx; (try dsimp only at hx); go_simp; try with_reducible rfl)
  try simp only [Act.put, List.setIfInBounds_toArray, List.set_cons_zero, List.set_cons_succ]
  refine wpAnyH_take (i := 18) (oi := { dst := some 55, op := Op.move (Operand.tmp 9), type := 3, pos := "law.go:87", after := #[{ on := 17, ground := Ground.guard }], guard := some (17, true) }) (v := ?v18o) rfl (by kernel_rfl) (by kernel_rfl) (by kernel_rfl) (fun _ _ _ h => h) (Or.inl ⟨by rfl, ?y18o⟩) (by assumption) ?r18o
  case y18o => (intro x hx; (try dsimp only at hx); go_simp; try with_reducible rfl)
  try simp only [Act.put, List.setIfInBounds_toArray, List.set_cons_zero, List.set_cons_succ]
  refine wpAnyH_take (i := 19) (oi := { dst := some 56, op := Op.move (Operand.tmp 12), type := 3, pos := "law.go:87", after := #[{ on := 17, ground := Ground.guard }], guard := some (17, true) }) (v := ?v19o) rfl (by kernel_rfl) (by kernel_rfl) (by kernel_rfl) (fun _ _ _ h => h) (Or.inl ⟨by rfl, ?y19o⟩) (by assumption) ?r19o
  case y19o => (intro x hx; (try dsimp only at hx); go_simp; try with_reducible rfl)
  try simp only [Act.put, List.setIfInBounds_toArray, List.set_cons_zero, List.set_cons_succ]
  refine wpAnyH_take (i := 20) (oi := { dst := some 57, op := Op.binOp BinOp.eql 3 (Operand.tmp 55) (Operand.tmp 56) 3, type := 4, pos := "law.go:87", after := #[{ on := 18, ground := Ground.data }, { on := 19, ground := Ground.data }, { on := 17, ground := Ground.guard }], guard := some (17, true) }) (v := ?v20o) rfl (by kernel_rfl) (by kernel_rfl) (by kernel_rfl) (fun _ _ _ h => h) (Or.inl ⟨by rfl, ?y20o⟩) (by assumption) ?r20o
  case y20o => (intro x hx; (try dsimp only at hx); go_simp; try with_reducible rfl)
  try simp only [Act.put, List.setIfInBounds_toArray, List.set_cons_zero, List.set_cons_succ]
  refine wpAnyH_take (i := 21) (oi := { dst := some 58, op := Op.pick (Operand.tmp 54) (Operand.tmp 57) (Operand.const (Value.bool false)), type := 4, pos := "law.go:87", after := #[{ on := 17, ground := Ground.data }, { on := 20, ground := Ground.data }], guard := none }) (v := ?v21o) rfl (by kernel_rfl) (by kernel_rfl) (by kernel_rfl) (fun _ _ _ h => h) (Or.inl ⟨by rfl, ?y21o⟩) (by assumption) ?r21o
  case y21o => (intro x hx; (try dsimp only at hx); go_simp; try with_reducible rfl)
  try simp only [Act.put, List.setIfInBounds_toArray, List.set_cons_zero, List.set_cons_succ]
  refine wpAnyH_take (i := 22) (oi := { dst := some 59, op := Op.move (Operand.tmp 58), type := 4, pos := "law.go:87", after := #[{ on := 21, ground := Ground.data }, { on := 17, ground := Ground.chain }], guard := none }) (v := ?v22o) rfl (by kernel_rfl) (by kernel_rfl) (by kernel_rfl) (fun _ _ _ h => h) (Or.inl ⟨by rfl, ?y22o⟩) (by assumption) ?r22o
  case y22o => (intro x hx; (try dsimp only at hx); go_simp; try with_reducible rfl)
  try simp only [Act.put, List.setIfInBounds_toArray, List.set_cons_zero, List.set_cons_succ]
  refine wpAnyH_take (i := 23) (oi := { dst := some 60, op := Op.move (Operand.tmp 10), type := 32, pos := "law.go:87", after := #[{ on := 22, ground := Ground.guard }], guard := some (22, true) }) (v := ?v23o) rfl (by kernel_rfl) (by kernel_rfl) (by kernel_rfl) (fun _ _ _ h => h) (Or.inl ⟨by rfl, ?y23o⟩) (by assumption) ?r23o
  case y23o => (intro x hx; (try dsimp only at hx); go_simp; try with_reducible rfl)
  try simp only [Act.put, List.setIfInBounds_toArray, List.set_cons_zero, List.set_cons_succ]
  refine wpAnyH_take (i := 24) (oi := { dst := some 61, op := Op.move (Operand.tmp 13), type := 32, pos := "law.go:87", after := #[{ on := 22, ground := Ground.guard }], guard := some (22, true) }) (v := ?v24o) rfl (by kernel_rfl) (by kernel_rfl) (by kernel_rfl) (fun _ _ _ h => h) (Or.inl ⟨by rfl, ?y24o⟩) (by assumption) ?r24o
  case y24o => (intro x hx; (try dsimp only at hx); go_simp; try with_reducible rfl)
  try simp only [Act.put, List.setIfInBounds_toArray, List.set_cons_zero, List.set_cons_succ]
  refine wpAnyH_take (i := 25) (oi := { dst := some 62, op := Op.binOp BinOp.eql 32 (Operand.tmp 60) (Operand.tmp 61) 32, type := 4, pos := "law.go:87", after := #[{ on := 23, ground := Ground.data }, { on := 24, ground := Ground.data }, { on := 22, ground := Ground.guard }], guard := some (22, true) }) (v := ?v25o) rfl (by kernel_rfl) (by kernel_rfl) (by kernel_rfl) (fun _ _ _ h => h) (Or.inl ⟨by rfl, ?y25o⟩) (by assumption) ?r25o
  case y25o => (intro x hx; (try dsimp only at hx); go_simp; try with_reducible rfl)
  try simp only [Act.put, List.setIfInBounds_toArray, List.set_cons_zero, List.set_cons_succ]
  refine wpAnyH_take (i := 26) (oi := { dst := some 63, op := Op.pick (Operand.tmp 59) (Operand.tmp 62) (Operand.const (Value.bool false)), type := 4, pos := "law.go:87", after := #[{ on := 22, ground := Ground.data }, { on := 25, ground := Ground.data }], guard := none }) (v := ?v26o) rfl (by kernel_rfl) (by kernel_rfl) (by kernel_rfl) (fun _ _ _ h => h) (Or.inl ⟨by rfl, ?y26o⟩) (by assumption) ?r26o
  case y26o => (intro x hx; (try dsimp only at hx); go_simp; try with_reducible rfl)
  try simp only [Act.put, List.setIfInBounds_toArray, List.set_cons_zero, List.set_cons_succ]
  refine wpAnyH_take (i := 27) (oi := { dst := some 64, op := Op.move (Operand.tmp 63), type := 4, pos := "law.go:87", after := #[{ on := 26, ground := Ground.data }, { on := 22, ground := Ground.chain }], guard := none }) (v := ?v27o) rfl (by kernel_rfl) (by kernel_rfl) (by kernel_rfl) (fun _ _ _ h => h) (Or.inl ⟨by rfl, ?y27o⟩) (by assumption) ?r27o
  case y27o => (intro x hx; (try dsimp only at hx); go_simp; try with_reducible rfl)
  try simp only [Act.put, List.setIfInBounds_toArray, List.set_cons_zero, List.set_cons_succ]
  refine wpAnyH_take (i := 28) (oi := { dst := some 65, op := Op.move (Operand.tmp 11), type := 4, pos := "law.go:87", after := #[{ on := 27, ground := Ground.guard }], guard := some (27, true) }) (v := ?v28o) rfl (by kernel_rfl) (by kernel_rfl) (by kernel_rfl) (fun _ _ _ h => h) (Or.inl ⟨by rfl, ?y28o⟩) (by assumption) ?r28o
  case y28o => (intro x hx; (try dsimp only at hx); go_simp; try with_reducible rfl)
  try simp only [Act.put, List.setIfInBounds_toArray, List.set_cons_zero, List.set_cons_succ]
  refine wpAnyH_take (i := 29) (oi := { dst := some 66, op := Op.move (Operand.tmp 14), type := 4, pos := "law.go:87", after := #[{ on := 27, ground := Ground.guard }], guard := some (27, true) }) (v := ?v29o) rfl (by kernel_rfl) (by kernel_rfl) (by kernel_rfl) (fun _ _ _ h => h) (Or.inl ⟨by rfl, ?y29o⟩) (by assumption) ?r29o
  case y29o => (intro x hx; (try dsimp only at hx); go_simp; try with_reducible rfl)
  try simp only [Act.put, List.setIfInBounds_toArray, List.set_cons_zero, List.set_cons_succ]
  refine wpAnyH_take (i := 30) (oi := { dst := some 67, op := Op.binOp BinOp.eql 4 (Operand.tmp 65) (Operand.tmp 66) 4, type := 4, pos := "law.go:87", after := #[{ on := 28, ground := Ground.data }, { on := 29, ground := Ground.data }, { on := 27, ground := Ground.guard }], guard := some (27, true) }) (v := ?v30o) rfl (by kernel_rfl) (by kernel_rfl) (by kernel_rfl) (fun _ _ _ h => h) (Or.inl ⟨by rfl, ?y30o⟩) (by assumption) ?r30o
  case y30o => (intro x hx; (try dsimp only at hx); go_simp; try with_reducible rfl)
  try simp only [Act.put, List.setIfInBounds_toArray, List.set_cons_zero, List.set_cons_succ]
  refine wpAnyH_take (i := 31) (oi := { dst := some 68, op := Op.pick (Operand.tmp 64) (Operand.tmp 67) (Operand.const (Value.bool false)), type := 4, pos := "law.go:87", after := #[{ on := 27, ground := Ground.data }, { on := 30, ground := Ground.data }], guard := none }) (v := ?v31o) rfl (by kernel_rfl) (by kernel_rfl) (by kernel_rfl) (fun _ _ _ h => h) (Or.inl ⟨by rfl, ?y31o⟩) (by assumption) ?r31o
  case y31o => (intro x hx; (try dsimp only at hx); go_simp; try with_reducible rfl)
  try simp only [Act.put, List.setIfInBounds_toArray, List.set_cons_zero, List.set_cons_succ]
  refine wpAnyH_take (i := 32) (oi := { dst := some 69, op := Op.move (Operand.tmp 68), type := 4, pos := "law.go:87", after := #[{ on := 31, ground := Ground.data }, { on := 27, ground := Ground.chain }], guard := none }) (v := ?v32o) rfl (by kernel_rfl) (by kernel_rfl) (by kernel_rfl) (fun _ _ _ h => h) (Or.inl ⟨by rfl, ?y32o⟩) (by assumption) ?r32o
  case y32o => (intro x hx; (try dsimp only at hx); go_simp; try with_reducible rfl)
  try simp only [Act.put, List.setIfInBounds_toArray, List.set_cons_zero, List.set_cons_succ]
  refine wpAnyH_take (i := 33) (oi := { dst := some 70, op := Op.move (Operand.tmp 0), type := 25, pos := "law.go:87", after := #[{ on := 32, ground := Ground.guard }], guard := some (32, true) }) (v := ?v33o) rfl (by kernel_rfl) (by kernel_rfl) (by kernel_rfl) (fun _ _ _ h => h) (Or.inl ⟨by rfl, ?y33o⟩) (by assumption) ?r33o
  case y33o => (intro x hx; (try dsimp only at hx); go_simp; try with_reducible rfl)
  try simp only [Act.put, List.setIfInBounds_toArray, List.set_cons_zero, List.set_cons_succ]
  refine wpAnyH_take (i := 35) (oi := { dst := some 72, op := Op.move (Operand.tmp 1), type := 26, pos := "law.go:87", after := #[{ on := 32, ground := Ground.guard }], guard := some (32, true) }) (v := ?v35o) rfl (by kernel_rfl) (by kernel_rfl) (by kernel_rfl) (fun _ _ _ h => h) (Or.inl ⟨by rfl, ?y35o⟩) (by assumption) ?r35o
  case y35o => (intro x hx; (try dsimp only at hx); go_simp; try with_reducible rfl)
  try simp only [Act.put, List.setIfInBounds_toArray, List.set_cons_zero, List.set_cons_succ]
  refine wpAnyH_ready (rs := [34]) (by kernel_rfl) (by simp) ?_
  refine AllReadyH.cons (o := { dst := some 71, op := Op.call { callee := Callee.value (Operand.func 11), args := #[Operand.tmp 70], argTypes := #[25] }, type := 3, pos := "law.go:87", after := #[{ on := 33, ground := Ground.data }, { on := 32, ground := Ground.chain }, { on := 32, ground := Ground.guard }], guard := some (32, true) }) rfl (fun K hK => ?_) AllReadyH.nil
  go_simp
  go_at_call 11
  refine (good_any gb gk P es cur last (optI vo) _ HTtF.out.bk hn).mono ?_
  rintro e tG ⟨rfl, q9⟩
  rw [HGG.out]
  have HTtG : Hid (Two tG B gb gk gr gl g c P es cur last vo) := Two.below HTtF.out q9
  have QtG : Hid (Below w.heap.size w tG) := Below.trans QtF.out (q9.mono (Below.size QtF.out))
  have hSnew := HSH.out _ HTtG.out
  clear q9
  go_wp2_with fail
  refine hK.out _ _ hSnew (fun hHeld34 => ?_)
  clear hK K hSnew
  clear hHeld
  have hHeld := hHeld34
  clear hHeld34
  try simp only [Act.put, List.setIfInBounds_toArray, List.set_cons_zero, List.set_cons_succ]
  refine wpAnyH_ready (rs := [36]) (by kernel_rfl) (by simp) ?_
  refine AllReadyH.cons (o := { dst := some 73, op := Op.call { callee := Callee.value (Operand.func 53), args := #[Operand.tmp 72], argTypes := #[26] }, type := 3, pos := "law.go:87", after := #[{ on := 35, ground := Ground.data }, { on := 34, ground := Ground.chain }, { on := 32, ground := Ground.guard }], guard := some (32, true) }) rfl (fun K hK => ?_) AllReadyH.nil
  go_simp
  go_at_call 53
  refine (rgood_any gr gl g c P es cur last (optI vo) _ HTtG.out.rf hn).mono ?_
  rintro e tH ⟨rfl, q7, rfl⟩
  rw [HGG.out]
  have HTtH : Hid (Two (tG.drewN q7) B gb gk gr gl g c P es cur last vo) := HTtG.out.drewN q7
  have QtH : Hid (Below w.heap.size w (tG.drewN q7)) := below_drewN QtG.out q7
  have hSnew := HSH.out _ HTtH.out
  go_wp2_with fail
  refine hK.out _ _ hSnew (fun hHeld36 => ?_)
  clear hK K hSnew
  clear hHeld
  have hHeld := hHeld36
  clear hHeld36
  try simp only [Act.put, List.setIfInBounds_toArray, List.set_cons_zero, List.set_cons_succ]
  refine wpAnyH_take (i := 37) (oi := { dst := some 74, op := Op.binOp BinOp.eql 3 (Operand.tmp 71) (Operand.tmp 73) 3, type := 4, pos := "law.go:87", after := #[{ on := 34, ground := Ground.data }, { on := 36, ground := Ground.data }, { on := 32, ground := Ground.guard }], guard := some (32, true) }) (v := ?v37o) rfl (by kernel_rfl) (by kernel_rfl) (by kernel_rfl) (fun _ _ _ h => h) (Or.inl ⟨by rfl, ?y37o⟩) (by assumption) ?r37o
  case y37o => (intro x hx; (try dsimp only at hx); go_simp; try with_reducible rfl)
  try simp only [Act.put, List.setIfInBounds_toArray, List.set_cons_zero, List.set_cons_succ]
  refine wpAnyH_take (i := 38) (oi := { dst := some 75, op := Op.pick (Operand.tmp 69) (Operand.tmp 74) (Operand.const (Value.bool false)), type := 4, pos := "law.go:87", after := #[{ on := 32, ground := Ground.data }, { on := 37, ground := Ground.data }], guard := none }) (v := ?v38o) rfl (by kernel_rfl) (by kernel_rfl) (by kernel_rfl) (fun _ _ _ h => h) (Or.inl ⟨by rfl, ?y38o⟩) (by assumption) ?r38o
  case y38o => (intro x hx; (try dsimp only at hx); go_simp; try with_reducible rfl)
  try simp only [Act.put, List.setIfInBounds_toArray, List.set_cons_zero, List.set_cons_succ]
  refine wpAnyH_take (i := 39) (oi := { dst := some 76, op := Op.move (Operand.tmp 75), type := 4, pos := "law.go:87", after := #[{ on := 38, ground := Ground.data }, { on := 36, ground := Ground.chain }], guard := none }) (v := ?v39o) rfl (by kernel_rfl) (by kernel_rfl) (by kernel_rfl) (fun _ _ _ h => h) (Or.inl ⟨by rfl, ?y39o⟩) (by assumption) ?r39o
  case y39o => (intro x hx; (try dsimp only at hx); go_simp; try with_reducible rfl)
  try simp only [Act.put, List.setIfInBounds_toArray, List.set_cons_zero, List.set_cons_succ]
  refine wpAnyH_take (i := 40) (oi := { dst := some 77, op := Op.move (Operand.tmp 0), type := 25, pos := "law.go:87", after := #[{ on := 39, ground := Ground.guard }], guard := some (39, true) }) (v := ?v40o) rfl (by kernel_rfl) (by kernel_rfl) (by kernel_rfl) (fun _ _ _ h => h) (Or.inl ⟨by rfl, ?y40o⟩) (by assumption) ?r40o
  case y40o => (intro x hx; (try dsimp only at hx); go_simp; try with_reducible rfl)
  try simp only [Act.put, List.setIfInBounds_toArray, List.set_cons_zero, List.set_cons_succ]
  refine wpAnyH_take (i := 42) (oi := { dst := some 79, op := Op.move (Operand.tmp 1), type := 26, pos := "law.go:87", after := #[{ on := 39, ground := Ground.guard }], guard := some (39, true) }) (v := ?v42o) rfl (by kernel_rfl) (by kernel_rfl) (by kernel_rfl) (fun _ _ _ h => h) (Or.inl ⟨by rfl, ?y42o⟩) (by assumption) ?r42o
  case y42o => (intro x hx; (try dsimp only at hx); go_simp; try with_reducible rfl)
  try simp only [Act.put, List.setIfInBounds_toArray, List.set_cons_zero, List.set_cons_succ]
  refine wpAnyH_ready (rs := [41]) (by kernel_rfl) (by simp) ?_
  refine AllReadyH.cons (o := { dst := some 78, op := Op.call { callee := Callee.value (Operand.func 20), args := #[Operand.tmp 77], argTypes := #[25] }, type := 3, pos := "law.go:87", after := #[{ on := 40, ground := Ground.data }, { on := 39, ground := Ground.chain }, { on := 39, ground := Ground.guard }], guard := some (39, true) }) rfl (fun K hK => ?_) AllReadyH.nil
  go_simp
  go_at_call 20
  refine (near_any gb gk P es cur last (optI vo) _ HTtH.out.bk hn).mono ?_
  rintro e tI ⟨rfl, q9⟩
  rw [HAA.out]
  have HTtI : Hid (Two tI B gb gk gr gl g c P es cur last vo) := Two.below HTtH.out q9
  have QtI : Hid (Below w.heap.size w tI) := Below.trans QtH.out (q9.mono (Below.size QtH.out))
  have hSnew := HSH.out _ HTtI.out
  clear q9
  go_wp2_with fail
  refine hK.out _ _ hSnew (fun hHeld41 => ?_)
  clear hK K hSnew
  clear hHeld
  have hHeld := hHeld41
  clear hHeld41
  try simp only [Act.put, List.setIfInBounds_toArray, List.set_cons_zero, List.set_cons_succ]
  refine wpAnyH_ready (rs := [43]) (by kernel_rfl) (by simp) ?_
  refine AllReadyH.cons (o := { dst := some 80, op := Op.call { callee := Callee.value (Operand.func 54), args := #[Operand.tmp 79], argTypes := #[26] }, type := 3, pos := "law.go:87", after := #[{ on := 42, ground := Ground.data }, { on := 41, ground := Ground.chain }, { on := 39, ground := Ground.guard }], guard := some (39, true) }) rfl (fun K hK => ?_) AllReadyH.nil
  go_simp
  go_at_call 54
  refine (rnear_any gr gl g c P es cur last (optI vo) _ HTtI.out.rf hn).mono ?_
  rintro e tJ ⟨rfl, rfl⟩
  rw [HAA.out]
  have hSnew := HSH.out _ HTtI.out
  go_wp2_with fail
  refine hK.out _ _ hSnew (fun hHeld43 => ?_)
  clear hK K hSnew
  clear hHeld
  have hHeld := hHeld43
  clear hHeld43
  try simp only [Act.put, List.setIfInBounds_toArray, List.set_cons_zero, List.set_cons_succ]
  refine wpAnyH_take (i := 44) (oi := { dst := some 81, op := Op.binOp BinOp.eql 3 (Operand.tmp 78) (Operand.tmp 80) 3, type := 4, pos := "law.go:87", after := #[{ on := 41, ground := Ground.data }, { on := 43, ground := Ground.data }, { on := 39, ground := Ground.guard }], guard := some (39, true) }) (v := ?v44o) rfl (by kernel_rfl) (by kernel_rfl) (by kernel_rfl) (fun _ _ _ h => h) (Or.inl ⟨by rfl, ?y44o⟩) (by assumption) ?r44o
  case y44o => (intro x hx; (try dsimp only at hx); go_simp; try with_reducible rfl)
  try simp only [Act.put, List.setIfInBounds_toArray, List.set_cons_zero, List.set_cons_succ]
  refine wpAnyH_take (i := 45) (oi := { dst := some 82, op := Op.pick (Operand.tmp 76) (Operand.tmp 81) (Operand.const (Value.bool false)), type := 4, pos := "law.go:87", after := #[{ on := 39, ground := Ground.data }, { on := 44, ground := Ground.data }], guard := none }) (v := ?v45o) rfl (by kernel_rfl) (by kernel_rfl) (by kernel_rfl) (fun _ _ _ h => h) (Or.inl ⟨by rfl, ?y45o⟩) (by assumption) ?r45o
  case y45o => (intro x hx; (try dsimp only at hx); go_simp; try with_reducible rfl)
  try simp only [Act.put, List.setIfInBounds_toArray, List.set_cons_zero, List.set_cons_succ]
  refine wpAnyH_take (i := 46) (oi := { dst := some 83, op := Op.move (Operand.tmp 82), type := 4, pos := "law.go:87", after := #[{ on := 45, ground := Ground.data }, { on := 43, ground := Ground.chain }], guard := none }) (v := ?v46o) rfl (by kernel_rfl) (by kernel_rfl) (by kernel_rfl) (fun _ _ _ h => h) (Or.inl ⟨by rfl, ?y46o⟩) (by assumption) ?r46o
  case y46o => (intro x hx; (try dsimp only at hx); go_simp; try with_reducible rfl)
  try simp only [Act.put, List.setIfInBounds_toArray, List.set_cons_zero, List.set_cons_succ]
  refine wpAnyH_take (i := 47) (oi := { dst := some 84, op := Op.move (Operand.tmp 0), type := 25, pos := "law.go:87", after := #[{ on := 46, ground := Ground.guard }], guard := some (46, true) }) (v := ?v47o) rfl (by kernel_rfl) (by kernel_rfl) (by kernel_rfl) (fun _ _ _ h => h) (Or.inl ⟨by rfl, ?y47o⟩) (by assumption) ?r47o
  case y47o => (intro x hx; (try dsimp only at hx); go_simp; try with_reducible rfl)
  try simp only [Act.put, List.setIfInBounds_toArray, List.set_cons_zero, List.set_cons_succ]
  refine wpAnyH_take (i := 49) (oi := { dst := some 86, op := Op.move (Operand.tmp 1), type := 26, pos := "law.go:87", after := #[{ on := 46, ground := Ground.guard }], guard := some (46, true) }) (v := ?v49o) rfl (by kernel_rfl) (by kernel_rfl) (by kernel_rfl) (fun _ _ _ h => h) (Or.inl ⟨by rfl, ?y49o⟩) (by assumption) ?r49o
  case y49o => (intro x hx; (try dsimp only at hx); go_simp; try with_reducible rfl)
  try simp only [Act.put, List.setIfInBounds_toArray, List.set_cons_zero, List.set_cons_succ]
  refine wpAnyH_ready (rs := [48]) (by kernel_rfl) (by simp) ?_
  refine AllReadyH.cons (o := { dst := some 85, op := Op.call { callee := Callee.value (Operand.func 13), args := #[Operand.tmp 84], argTypes := #[25] }, type := 3, pos := "law.go:87", after := #[{ on := 47, ground := Ground.data }, { on := 46, ground := Ground.chain }, { on := 46, ground := Ground.guard }], guard := some (46, true) }) rfl (fun K hK => ?_) AllReadyH.nil
  go_simp
  go_at_call 13
  refine (logged_count gb gk P es cur last (optI vo) _ HTtI.out.bk hn).mono ?_
  rintro e tK ⟨rfl, q9⟩
  rw [HLL.out]
  have HTtK : Hid (Two tK B gb gk gr gl g c P es cur last vo) := Two.below HTtI.out q9
  have QtK : Hid (Below w.heap.size w tK) := Below.trans QtI.out (q9.mono (Below.size QtI.out))
  have hSnew := HSH.out _ HTtK.out
  clear q9
  go_wp2_with fail
  refine hK.out _ _ hSnew (fun hHeld48 => ?_)
  clear hK K hSnew
  clear hHeld
  have hHeld := hHeld48
  clear hHeld48
  try simp only [Act.put, List.setIfInBounds_toArray, List.set_cons_zero, List.set_cons_succ]
  refine wpAnyH_ready (rs := [50]) (by kernel_rfl) (by simp) ?_
  refine AllReadyH.cons (o := { dst := some 87, op := Op.call { callee := Callee.value (Operand.func 14), args := #[Operand.tmp 86], argTypes := #[26] }, type := 3, pos := "law.go:87", after := #[{ on := 49, ground := Ground.data }, { on := 48, ground := Ground.chain }, { on := 46, ground := Ground.guard }], guard := some (46, true) }) rfl (fun K hK => ?_) AllReadyH.nil
  go_simp
  go_at_call 14
  refine (rlogged_cnt gr gl g c P es cur last (optI vo) _ HTtK.out.rf hn).mono ?_
  rintro e tL ⟨rfl, rfl⟩
  rw [HLL.out]
  have hSnew := HSH.out _ HTtK.out
  go_wp2_with fail
  refine hK.out _ _ hSnew (fun hHeld50 => ?_)
  clear hK K hSnew
  clear hHeld
  have hHeld := hHeld50
  clear hHeld50
  try simp only [Act.put, List.setIfInBounds_toArray, List.set_cons_zero, List.set_cons_succ]
  refine wpAnyH_take (i := 51) (oi := { dst := some 88, op := Op.binOp BinOp.eql 3 (Operand.tmp 85) (Operand.tmp 87) 3, type := 4, pos := "law.go:87", after := #[{ on := 48, ground := Ground.data }, { on := 50, ground := Ground.data }, { on := 46, ground := Ground.guard }], guard := some (46, true) }) (v := ?v51o) rfl (by kernel_rfl) (by kernel_rfl) (by kernel_rfl) (fun _ _ _ h => h) (Or.inl ⟨by rfl, ?y51o⟩) (by assumption) ?r51o
  case y51o => (intro x hx; (try dsimp only at hx); go_simp; try with_reducible rfl)
  try simp only [Act.put, List.setIfInBounds_toArray, List.set_cons_zero, List.set_cons_succ]
  refine wpAnyH_take (i := 52) (oi := { dst := some 89, op := Op.pick (Operand.tmp 83) (Operand.tmp 88) (Operand.const (Value.bool false)), type := 4, pos := "law.go:87", after := #[{ on := 46, ground := Ground.data }, { on := 51, ground := Ground.data }], guard := none }) (v := ?v52o) rfl (by kernel_rfl) (by kernel_rfl) (by kernel_rfl) (fun _ _ _ h => h) (Or.inl ⟨by rfl, ?y52o⟩) (by assumption) ?r52o
  case y52o => (intro x hx; (try dsimp only at hx); go_simp; try with_reducible rfl)
  try simp only [Act.put, List.setIfInBounds_toArray, List.set_cons_zero, List.set_cons_succ]
  refine wpAnyH_take (i := 53) (oi := { dst := some 90, op := Op.move (Operand.tmp 89), type := 4, pos := "law.go:87", after := #[{ on := 52, ground := Ground.data }, { on := 50, ground := Ground.chain }], guard := none }) (v := ?v53o) rfl (by kernel_rfl) (by kernel_rfl) (by kernel_rfl) (fun _ _ _ h => h) (Or.inl ⟨by rfl, ?y53o⟩) (by assumption) ?r53o
  case y53o => (intro x hx; (try dsimp only at hx); go_simp; try with_reducible rfl)
  try simp only [Act.put, List.setIfInBounds_toArray, List.set_cons_zero, List.set_cons_succ]
  refine wpAnyH_take (i := 54) (oi := { dst := some 91, op := Op.move (Operand.tmp 0), type := 25, pos := "law.go:87", after := #[{ on := 53, ground := Ground.guard }], guard := some (53, true) }) (v := ?v54o) rfl (by kernel_rfl) (by kernel_rfl) (by kernel_rfl) (fun _ _ _ h => h) (Or.inl ⟨by rfl, ?y54o⟩) (by assumption) ?r54o
  case y54o => (intro x hx; (try dsimp only at hx); go_simp; try with_reducible rfl)
  try simp only [Act.put, List.setIfInBounds_toArray, List.set_cons_zero, List.set_cons_succ]
  refine wpAnyH_take (i := 56) (oi := { dst := some 93, op := Op.move (Operand.tmp 1), type := 26, pos := "law.go:87", after := #[{ on := 53, ground := Ground.guard }], guard := some (53, true) }) (v := ?v56o) rfl (by kernel_rfl) (by kernel_rfl) (by kernel_rfl) (fun _ _ _ h => h) (Or.inl ⟨by rfl, ?y56o⟩) (by assumption) ?r56o
  case y56o => (intro x hx; (try dsimp only at hx); go_simp; try with_reducible rfl)
  try simp only [Act.put, List.setIfInBounds_toArray, List.set_cons_zero, List.set_cons_succ]
  refine wpAnyH_take (i := 57) (oi := { dst := some 94, op := Op.nilCheck (Operand.tmp 93), type := 0, pos := "law.go:87", after := #[{ on := 56, ground := Ground.data }, { on := 53, ground := Ground.guard }], guard := some (53, true) }) (v := ?v57o) rfl (by kernel_rfl) (by kernel_rfl) (by kernel_rfl) (fun _ _ _ h => h) (Or.inl ⟨by rfl, ?y57o⟩) (by assumption) ?r57o
  case y57o => (intro x hx; (try dsimp only at hx); go_simp; try with_reducible rfl)
  try simp only [Act.put, List.setIfInBounds_toArray, List.set_cons_zero, List.set_cons_succ]
  refine wpAnyH_take (i := 58) (oi := { dst := some 95, op := Op.fieldAddr 31 (Operand.tmp 94) 3, type := 0, pos := "law.go:87", after := #[{ on := 57, ground := Ground.data }, { on := 53, ground := Ground.guard }], guard := some (53, true) }) (v := ?v58o) rfl (by kernel_rfl) (by kernel_rfl) (by kernel_rfl) (fun _ _ _ h => h) (Or.inl ⟨by rfl, ?y58o⟩) (by assumption) ?r58o
  case y58o => (intro x hx; (try dsimp only at hx); go_simp; try with_reducible rfl)
  try simp only [Act.put, List.setIfInBounds_toArray, List.set_cons_zero, List.set_cons_succ]
  refine wpAnyH_take (i := 59) (oi := { dst := some 96, op := Op.load 3 (Operand.tmp 95), type := 3, pos := "law.go:87", after := #[{ on := 58, ground := Ground.data }, { on := 53, ground := Ground.guard }], guard := some (53, true) }) (v := ?v59o) rfl (by kernel_rfl) (by kernel_rfl) (by kernel_rfl) (fun _ _ _ h => h) (Or.inl ⟨by rfl, ?y59o⟩) (by assumption) ?r59o
  case y59o => (intro x hx; (try dsimp only at hx); go_simp; try with_reducible rfl)
  try simp only [Act.put, List.setIfInBounds_toArray, List.set_cons_zero, List.set_cons_succ]
  refine wpAnyH_ready (rs := [55]) (by kernel_rfl) (by simp) ?_
  refine AllReadyH.cons (o := { dst := some 92, op := Op.call { callee := Callee.value (Operand.func 9), args := #[Operand.tmp 91], argTypes := #[25] }, type := 3, pos := "law.go:87", after := #[{ on := 54, ground := Ground.data }, { on := 53, ground := Ground.chain }, { on := 53, ground := Ground.guard }], guard := some (53, true) }) rfl (fun K hK => ?_) AllReadyH.nil
  go_simp
  go_at_call 9
  refine (cursor_any gb gk P es cur last (optI vo) _ HTtK.out.bk).mono ?_
  rintro e tM ⟨rfl, rfl⟩
  have hSnew := HSH.out _ HTtK.out
  go_wp2_with fail
  refine hK.out _ _ hSnew (fun hHeld55 => ?_)
  clear hK K hSnew
  clear hHeld
  have hHeld := hHeld55
  clear hHeld55
  try simp only [Act.put, List.setIfInBounds_toArray, List.set_cons_zero, List.set_cons_succ]
  refine wpAnyH_take (i := 60) (oi := { dst := some 97, op := Op.binOp BinOp.eql 3 (Operand.tmp 92) (Operand.tmp 96) 3, type := 4, pos := "law.go:87", after := #[{ on := 55, ground := Ground.data }, { on := 59, ground := Ground.data }, { on := 53, ground := Ground.guard }], guard := some (53, true) }) (v := ?v60o) rfl (by kernel_rfl) (by kernel_rfl) (by kernel_rfl) (fun _ _ _ h => h) (Or.inl ⟨by rfl, ?y60o⟩) (by assumption) ?r60o
  case y60o => (intro x hx; (try dsimp only at hx); go_simp; try with_reducible rfl)
  try simp only [Act.put, List.setIfInBounds_toArray, List.set_cons_zero, List.set_cons_succ]
  refine wpAnyH_take (i := 61) (oi := { dst := some 98, op := Op.pick (Operand.tmp 90) (Operand.tmp 97) (Operand.const (Value.bool false)), type := 4, pos := "law.go:87", after := #[{ on := 53, ground := Ground.data }, { on := 60, ground := Ground.data }], guard := none }) (v := ?v61o) rfl (by kernel_rfl) (by kernel_rfl) (by kernel_rfl) (fun _ _ _ h => h) (Or.inl ⟨by rfl, ?y61o⟩) (by assumption) ?r61o
  case y61o => (intro x hx; (try dsimp only at hx); go_simp; try with_reducible rfl)
  try simp only [Act.put, List.setIfInBounds_toArray, List.set_cons_zero, List.set_cons_succ]
  refine wpAnyH_take (i := 62) (oi := { dst := some 4, op := Op.assign (Operand.tmp 98), type := 4, pos := "law.go:87", after := #[{ on := 61, ground := Ground.data }, { on := 55, ground := Ground.chain }, { on := 0, ground := Ground.phase }, { on := 1, ground := Ground.phase }, { on := 2, ground := Ground.phase }, { on := 3, ground := Ground.phase }, { on := 4, ground := Ground.phase }, { on := 5, ground := Ground.phase }, { on := 6, ground := Ground.phase }, { on := 7, ground := Ground.phase }, { on := 8, ground := Ground.phase }, { on := 9, ground := Ground.phase }, { on := 10, ground := Ground.phase }, { on := 11, ground := Ground.phase }, { on := 12, ground := Ground.phase }, { on := 13, ground := Ground.phase }, { on := 14, ground := Ground.phase }, { on := 15, ground := Ground.phase }, { on := 16, ground := Ground.phase }, { on := 17, ground := Ground.phase }, { on := 18, ground := Ground.phase }, { on := 19, ground := Ground.phase }, { on := 20, ground := Ground.phase }, { on := 21, ground := Ground.phase }, { on := 22, ground := Ground.phase }, { on := 23, ground := Ground.phase }, { on := 24, ground := Ground.phase }, { on := 25, ground := Ground.phase }, { on := 26, ground := Ground.phase }, { on := 27, ground := Ground.phase }, { on := 28, ground := Ground.phase }, { on := 29, ground := Ground.phase }, { on := 30, ground := Ground.phase }, { on := 31, ground := Ground.phase }, { on := 32, ground := Ground.phase }, { on := 33, ground := Ground.phase }, { on := 34, ground := Ground.phase }, { on := 35, ground := Ground.phase }, { on := 36, ground := Ground.phase }, { on := 37, ground := Ground.phase }, { on := 38, ground := Ground.phase }, { on := 39, ground := Ground.phase }, { on := 40, ground := Ground.phase }, { on := 41, ground := Ground.phase }, { on := 42, ground := Ground.phase }, { on := 43, ground := Ground.phase }, { on := 44, ground := Ground.phase }, { on := 45, ground := Ground.phase }, { on := 46, ground := Ground.phase }, { on := 47, ground := Ground.phase }, { on := 48, ground := Ground.phase }, { on := 49, ground := Ground.phase }, { on := 50, ground := Ground.phase }, { on := 51, ground := Ground.phase }, { on := 52, ground := Ground.phase }, { on := 53, ground := Ground.phase }, { on := 54, ground := Ground.phase }, { on := 55, ground := Ground.phase }, { on := 56, ground := Ground.phase }, { on := 57, ground := Ground.phase }, { on := 58, ground := Ground.phase }, { on := 59, ground := Ground.phase }, { on := 60, ground := Ground.phase }, { on := 61, ground := Ground.phase }], guard := none }) (v := ?v62o) rfl (by kernel_rfl) (by kernel_rfl) (by kernel_rfl) (fun _ _ _ h => h) (Or.inl ⟨by rfl, ?y62o⟩) (by assumption) ?r62o
  case y62o => (intro x hx; (try dsimp only at hx); go_simp; try with_reducible rfl)
  try simp only [Act.put, List.setIfInBounds_toArray, List.set_cons_zero, List.set_cons_succ]
  refine wpAnyH_done (by kernel_rfl) ?_ _
  all_goals go_wp2
  all_goals go_ret
  all_goals exact ⟨by first | rfl | simp, QtK.out⟩
end Go.Proofs.Ytgijbpkfheillaa
