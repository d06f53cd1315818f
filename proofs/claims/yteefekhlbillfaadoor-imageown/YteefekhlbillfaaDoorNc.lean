/-
  SEAT YteefekhlbillfaaDoor: a page in a run.
-/
import Derived.Test.YteefekhlbillfaaDoorNb
import Derived.Deep.RegionHeld3
namespace Go.Proofs.YteefekhlbillfaaDoor
open Go.RowKit
set_option linter.unusedVariables false

theorem put2 (xs : List Int) (v : Nat) (hv : v ≤ 65535) (hl : 2 ≤ xs.length) : putL xs (xs.length - 2) (v : Int) 2 = xs.take (xs.length - 2) ++ le2 v := by
  have h := putL_tail (xs.take (xs.length - 2)) (xs.drop (xs.length - 2)) (v : Int) 2
  rw [List.take_append_drop, List.length_take, Nat.min_eq_left (by omega)] at h
  rw [h]
  congr 1
  have hd : (xs.drop (xs.length - 2)).length = 2 := by simp; omega
  match xs.drop (xs.length - 2), hd with
  | [a, b], _ =>
    simp [putL, le2]
    omega

theorem Kw.drewl (B : Nat) (w : World) : Kw B w w.drew := ⟨(Below.refl _ _).drew, fun _ _ h _ _ => h⟩

theorem Own.drew1 {w : World} {B g n cap : Nat} {xs : List Int} (h : Own w B g n cap xs) : Own w.drew B g n cap xs := h

theorem leN1 (v : Nat) (h : v < 256) : leN 1 (v : Int) = [(v : Int)] := by
  simp [leN, putL]
  omega
theorem leN2 (v : Nat) (h : v < 65536) : leN 2 (v : Int) = le2 v := by
  simp [leN, putL, le2, List.replicate]
  omega
theorem leN4 (v : Nat) : leN 4 (v : Int) = le4 v := by
  simp [leN, putL, le4, List.replicate]

set_option maxHeartbeats 2000000 in
set_option maxRecDepth 100000 in
theorem run_new1 (B q k : Nat) (laid : List Int) (kind count : Nat) (w : World) (hW : WrAt w B q ⟨laid, kind, count⟩) (hl : laid.length ≤ 900000000) (hk : k ≤ 2) (k1 : ((kind : Int) != (k : Int)) = true) :
    Calls Tryd.prog 67 #[.pointer (some ⟨q, 0, none⟩), .int .i64 (k : Int)] w fun e w' => e = .returned (.tuple #[]) ∧ WrAt w' B q ⟨laid ++ ([(k : Int)] ++ le2 1), k, 1⟩ ∧ Kw B w w' := by
    have hBw := hW.size
    have HW : Hid (WrAt w B q ⟨laid, kind, count⟩) := hW
    obtain ⟨g, cap, hq, hown, hBq, hby⟩ := hW
    obtain ⟨n, hn⟩ : ∃ n, laid.length = n := ⟨_, rfl⟩
    simp only at hq hown hby
    obtain ⟨c0, c1, c2, f0, f1, f2⟩ := blk3_cells hq
    have HN : Hid (laid.length = n) := hn
    rw [hn] at hl c0
    clear hq hown hn
    go_enter Tryd.func67, Tryd.ntmps67
    go_upto_region 5 with (first
      | (go_at_call 38; have zz := M1; refine (number_any B q ⟨laid ++ leN 1 (k : Int), kind, count⟩ 2 0 _ wr1 (by simp only [List.length_append, leN_length, HN.out]; omega) (by omega) (by omega) (by omega) (by decide)).mono ?_; rintro e w2 ⟨rfl, wr2, kw2⟩; clear M1 zz
         obtain ⟨g1, cc, hq2, own2, _, by2⟩ := wr2
         simp only [List.length_append, leN_length, HN.out] at hq2 own2
         clear d0 d1 d2 e0 e1 e2
         obtain ⟨d0, d1, d2, e0, e1, e2⟩ := blk3_cells hq2
         have HQ2 : Hid _ := hq2
         have HO2 : Hid (Own w2 B g1 (n + 1 + 2) cc (laid ++ leN 1 (k : Int) ++ leN 2 0)) := own2
         have HY2 : Hid _ := by2
         have HK2 : Hid _ := kw2
         clear hq2 own2 by2 kw2)
      | (go_at_call 38; refine (number_any B q ⟨laid, kind, count⟩ 1 (k : Int) _ HW.out (by simp only [HN.out]; omega) (by omega) (by omega) (by omega) (by omega)).mono ?_; rintro e w1 ⟨rfl, wr1, kw1⟩; have M1 : Hid True := trivial; have HK1 : Hid _ := kw1; clear kw1 c0 c1 c2 f0 f1 f2
         obtain ⟨g0, cc0, hq1, _, _, _⟩ := id wr1
         obtain ⟨d0, d1, d2, e0, e1, e2⟩ := blk3_cells hq1
         clear hq1))
    have HQ5 : Hid ((((w2.setCell ⟨q, 1, none⟩ (.int .i64 (k : Int))).setCell ⟨q, 2, none⟩ (.int .i64 0)).setCell ⟨q, 2, none⟩ (.int .i64 1)).heap[q]? = some (.cells #[.slice (some ⟨g1, 0, none⟩) (n + 1 + 2) cc, .int .i64 (k : Int), .int .i64 1] 82 (0, 0))) := blk3_2 (blk3_2 (blk3_1 HQ2.out _) _) _
    have hg5 : w2.grownBy (((w2.setCell ⟨q, 1, none⟩ (.int .i64 (k : Int))).setCell ⟨q, 2, none⟩ (.int .i64 0)).setCell ⟨q, 2, none⟩ (.int .i64 1)) (some q) := grownBy_trans (grownBy_trans (set_grown w2 q 1 _) (set_grown _ q 2 _)) (set_grown _ q 2 _)
    have HO5 : Hid (Own (((w2.setCell ⟨q, 1, none⟩ (.int .i64 (k : Int))).setCell ⟨q, 2, none⟩ (.int .i64 0)).setCell ⟨q, 2, none⟩ (.int .i64 1)).drew B g1 (n + 1 + 2) cc (laid ++ leN 1 (k : Int) ++ leN 2 0)) := Own.drew1 (Own.apart HO2.out hg5 (Own.ne HO2.out HQ2.out (by decide)).symm)
    have HG5 : Hid _ := hg5
    have HF : Hid (((1 : Int) / 2 ^ (8 * ((2 : Nat) : Int)).toNat == 0) = true) := fits_pow 1 2 (by omega) (by omega)
    clear hg5 d0 d1 d2 e0 e1 e2
    obtain ⟨m, hm⟩ : ∃ m, n + 1 = m := ⟨_, rfl⟩
    have wr5 : IntKind.i64.wrap ((n : Int) + 1) = (m : Int) := by rw [IntKind.wrap_i64]; omega
    have wr7 : IntKind.u64.wrap 1 = 1 := by decide
    have HM : Hid (n + 1 = m) := hm
    have hm2 : m + 2 ≤ n + 1 + 2 := by omega
    clear hm
    refine wp_region_held_drew (S := (fun x : World => x.cell? ⟨q, 0, none⟩ = some (.slice (some ⟨g1, 0, none⟩) (n + 1 + 2) cc) ∧ x.cell? ⟨q, 2, none⟩ = some (.int .i64 1))) (by kernel_rfl) (⟨(blk3_cells HQ5.out).1, (blk3_cells HQ5.out).2.2.1⟩) (fun hHeld => ?_)
    refine wpAnyH_take (i := 0) (oi := { dst := some 43, op := Op.move (Operand.tmp 0), type := 80, pos := "pack.go:112", after := #[], guard := none }) (v := ?v0a1) rfl (by kernel_rfl) (by kernel_rfl) (by kernel_rfl) (fun _ _ _ h => h) (Or.inl ⟨by rfl, ?y0a1⟩) (by assumption) ?r0a1
    case y0a1 => (intro x hx; (try dsimp only at hx); go_simp; try with_reducible rfl)
    try simp only [Act.put, List.setIfInBounds_toArray, List.set_cons_zero, List.set_cons_succ]
    refine wpAnyH_take (i := 1) (oi := { dst := some 44, op := Op.nilCheck (Operand.tmp 43), type := 0, pos := "pack.go:112", after := #[{ on := 0, ground := Ground.data }], guard := none }) (v := ?v1a1) rfl (by kernel_rfl) (by kernel_rfl) (by kernel_rfl) (fun _ _ _ h => h) (Or.inl ⟨by rfl, ?y1a1⟩) (by assumption) ?r1a1
    case y1a1 => (intro x hx; (try dsimp only at hx); go_simp; try with_reducible rfl)
    try simp only [Act.put, List.setIfInBounds_toArray, List.set_cons_zero, List.set_cons_succ]
    refine wpAnyH_take (i := 2) (oi := { dst := some 45, op := Op.fieldAddr 82 (Operand.tmp 44) 0, type := 0, pos := "pack.go:112", after := #[{ on := 1, ground := Ground.data }], guard := none }) (v := ?v2a1) rfl (by kernel_rfl) (by kernel_rfl) (by kernel_rfl) (fun _ _ _ h => h) (Or.inl ⟨by rfl, ?y2a1⟩) (by assumption) ?r2a1
    case y2a1 => (intro x hx; (try dsimp only at hx); go_simp; try with_reducible rfl)
    try simp only [Act.put, List.setIfInBounds_toArray, List.set_cons_zero, List.set_cons_succ]
    refine wpAnyH_take (i := 3) (oi := { dst := some 46, op := Op.load 22 (Operand.tmp 45), type := 22, pos := "pack.go:112", after := #[{ on := 2, ground := Ground.data }], guard := none }) (v := ?v3a1) rfl (by kernel_rfl) (by kernel_rfl) (by kernel_rfl) (fun _ _ _ h => h) (Or.inl ⟨by rfl, ?y3a1⟩) (by assumption) ?r3a1
    case y3a1 => (intro x hx; (try dsimp only at hx); go_simp; try with_reducible rfl)
    try simp only [Act.put, List.setIfInBounds_toArray, List.set_cons_zero, List.set_cons_succ]
    refine wpAnyH_take (i := 4) (oi := { dst := some 47, op := Op.move (Operand.tmp 0), type := 80, pos := "pack.go:112", after := #[], guard := none }) (v := ?v4a1) rfl (by kernel_rfl) (by kernel_rfl) (by kernel_rfl) (fun _ _ _ h => h) (Or.inl ⟨by rfl, ?y4a1⟩) (by assumption) ?r4a1
    case y4a1 => (intro x hx; (try dsimp only at hx); go_simp; try with_reducible rfl)
    try simp only [Act.put, List.setIfInBounds_toArray, List.set_cons_zero, List.set_cons_succ]
    refine wpAnyH_take (i := 5) (oi := { dst := some 48, op := Op.nilCheck (Operand.tmp 47), type := 0, pos := "pack.go:112", after := #[{ on := 4, ground := Ground.data }], guard := none }) (v := ?v5a1) rfl (by kernel_rfl) (by kernel_rfl) (by kernel_rfl) (fun _ _ _ h => h) (Or.inl ⟨by rfl, ?y5a1⟩) (by assumption) ?r5a1
    case y5a1 => (intro x hx; (try dsimp only at hx); go_simp; try with_reducible rfl)
    try simp only [Act.put, List.setIfInBounds_toArray, List.set_cons_zero, List.set_cons_succ]
    refine wpAnyH_take (i := 6) (oi := { dst := some 49, op := Op.fieldAddr 82 (Operand.tmp 48) 0, type := 0, pos := "pack.go:112", after := #[{ on := 5, ground := Ground.data }], guard := none }) (v := ?v6a1) rfl (by kernel_rfl) (by kernel_rfl) (by kernel_rfl) (fun _ _ _ h => h) (Or.inl ⟨by rfl, ?y6a1⟩) (by assumption) ?r6a1
    case y6a1 => (intro x hx; (try dsimp only at hx); go_simp; try with_reducible rfl)
    try simp only [Act.put, List.setIfInBounds_toArray, List.set_cons_zero, List.set_cons_succ]
    refine wpAnyH_take (i := 7) (oi := { dst := some 50, op := Op.load 22 (Operand.tmp 49), type := 22, pos := "pack.go:112", after := #[{ on := 6, ground := Ground.data }], guard := none }) (v := ?v7a1) rfl (by kernel_rfl) (by kernel_rfl) (by kernel_rfl) (fun _ _ _ h => h) (Or.inl ⟨by rfl, ?y7a1⟩) (by assumption) ?r7a1
    case y7a1 => (intro x hx; (try dsimp only at hx); go_simp; try with_reducible rfl)
    try simp only [Act.put, List.setIfInBounds_toArray, List.set_cons_zero, List.set_cons_succ]
    refine wpAnyH_take (i := 8) (oi := { dst := some 51, op := Op.call { callee := Callee.builtin Builtin.len, args := #[Operand.tmp 50], argTypes := #[22] }, type := 3, pos := "pack.go:112", after := #[{ on := 7, ground := Ground.data }], guard := none }) (v := ?v8a1) rfl (by kernel_rfl) (by kernel_rfl) (by kernel_rfl) (fun _ _ _ h => h) (Or.inl ⟨by rfl, ?y8a1⟩) (by assumption) ?r8a1
    case y8a1 => (intro x hx; (try dsimp only at hx); go_simp; try with_reducible rfl)
    try simp only [Act.put, List.setIfInBounds_toArray, List.set_cons_zero, List.set_cons_succ]
    refine wpAnyH_take (i := 9) (oi := { dst := some 52, op := Op.binOp BinOp.sub 3 (Operand.tmp 51) (Operand.const (Value.int IntKind.i64 2)) 3, type := 3, pos := "pack.go:112", after := #[{ on := 8, ground := Ground.data }], guard := none }) (v := ?v9a1) rfl (by kernel_rfl) (by kernel_rfl) (by kernel_rfl) (fun _ _ _ h => h) (Or.inl ⟨by rfl, ?y9a1⟩) (by assumption) ?r9a1
    case y9a1 => (intro x hx; (try dsimp only at hx); go_simp; try with_reducible rfl)
    try simp only [Act.put, List.setIfInBounds_toArray, List.set_cons_zero, List.set_cons_succ]
    refine wpAnyH_take (i := 10) (oi := { dst := some 53, op := Op.move (Operand.tmp 0), type := 80, pos := "pack.go:112", after := #[], guard := none }) (v := ?v10a1) rfl (by kernel_rfl) (by kernel_rfl) (by kernel_rfl) (fun _ _ _ h => h) (Or.inl ⟨by rfl, ?y10a1⟩) (by assumption) ?r10a1
    case y10a1 => (intro x hx; (try dsimp only at hx); go_simp; try with_reducible rfl)
    try simp only [Act.put, List.setIfInBounds_toArray, List.set_cons_zero, List.set_cons_succ]
    refine wpAnyH_take (i := 11) (oi := { dst := some 54, op := Op.nilCheck (Operand.tmp 53), type := 0, pos := "pack.go:112", after := #[{ on := 10, ground := Ground.data }], guard := none }) (v := ?v11a1) rfl (by kernel_rfl) (by kernel_rfl) (by kernel_rfl) (fun _ _ _ h => h) (Or.inl ⟨by rfl, ?y11a1⟩) (by assumption) ?r11a1
    case y11a1 => (intro x hx; (try dsimp only at hx); go_simp; try with_reducible rfl)
    try simp only [Act.put, List.setIfInBounds_toArray, List.set_cons_zero, List.set_cons_succ]
    refine wpAnyH_take (i := 12) (oi := { dst := some 55, op := Op.fieldAddr 82 (Operand.tmp 54) 2, type := 0, pos := "pack.go:112", after := #[{ on := 11, ground := Ground.data }], guard := none }) (v := ?v12a1) rfl (by kernel_rfl) (by kernel_rfl) (by kernel_rfl) (fun _ _ _ h => h) (Or.inl ⟨by rfl, ?y12a1⟩) (by assumption) ?r12a1
    case y12a1 => (intro x hx; (try dsimp only at hx); go_simp; try with_reducible rfl)
    try simp only [Act.put, List.setIfInBounds_toArray, List.set_cons_zero, List.set_cons_succ]
    refine wpAnyH_take (i := 13) (oi := { dst := some 56, op := Op.load 3 (Operand.tmp 55), type := 3, pos := "pack.go:112", after := #[{ on := 12, ground := Ground.data }], guard := none }) (v := ?v13a1) rfl (by kernel_rfl) (by kernel_rfl) (by kernel_rfl) (fun _ _ _ h => h) (Or.inl ⟨by rfl, ?y13a1⟩) (by assumption) ?r13a1
    case y13a1 => (intro x hx; (try dsimp only at hx); go_simp; try with_reducible rfl)
    try simp only [Act.put, List.setIfInBounds_toArray, List.set_cons_zero, List.set_cons_succ]
    refine wpAnyH_take (i := 14) (oi := { dst := some 57, op := Op.convert 3 108 (Operand.tmp 56), type := 108, pos := "pack.go:112", after := #[{ on := 13, ground := Ground.data }], guard := none }) (v := ?v14a1) rfl (by kernel_rfl) (by kernel_rfl) (by kernel_rfl) (fun _ _ _ h => h) (Or.inl ⟨by rfl, ?y14a1⟩) (by assumption) ?r14a1
    case y14a1 => (intro x hx; (try dsimp only at hx); go_simp; try with_reducible rfl)
    try simp only [Act.put, List.setIfInBounds_toArray, List.set_cons_zero, List.set_cons_succ]
    refine wpAnyH_ready (rs := [15]) (by kernel_rfl) (by simp) ?_
    refine AllReadyH.cons (o := { dst := some 58, op := Op.call { callee := Callee.value (Operand.func 62), args := #[Operand.tmp 46, Operand.tmp 52, Operand.const (Value.int IntKind.i64 2), Operand.tmp 57], argTypes := #[22, 3, 3, 108] }, type := 33, pos := "pack.go:112", after := #[{ on := 3, ground := Ground.data }, { on := 9, ground := Ground.data }, { on := 14, ground := Ground.data }], guard := none }) rfl (fun K hK => ?_) AllReadyH.nil
    go_simp
    go_at_call 62
    refine (put_ok B g1 (n + 1 + 2) cc (n + 1 + 2) m 2 1 (laid ++ leN 1 (k : Int) ++ leN 2 0) _ (by omega) (by omega) (by omega) HF.out hm2 (Nat.le_refl _) (by omega) HO5.out).mono ?_
    rintro e w6 ⟨rfl, own6, grow6⟩
    have HO6 : Hid (Own w6 B g1 (n + 1 + 2) cc (putL (laid ++ leN 1 (k : Int) ++ leN 2 0) m 1 2)) := own6
    have HQ6 : Hid _ := (grow6.block q (Array.getElem?_eq_some_iff.1 HQ5.out).1 (fun e => (Own.ne HO5.out HQ5.out (by decide)) (by cases e; rfl))).trans HQ5.out
    have HG6 : Hid _ := grow6
    have hSnew := And.intro (blk3_cells HQ6.out).1 (blk3_cells HQ6.out).2.2.1
    clear own6 grow6
    go_wp2_with fail
    refine hK.out _ _ hSnew (fun hHeld15 => ?_)
    clear hK K hSnew
    clear hHeld
    have hHeld := hHeld15
    clear hHeld15
    try simp only [Act.put, List.setIfInBounds_toArray, List.set_cons_zero, List.set_cons_succ]
    refine wpAnyH_done (by kernel_rfl) ?_ _
    go_wp2
    go_end0
    have e9 : putL (laid ++ leN 1 (k : Int) ++ leN 2 0) m 1 2 = laid ++ ((k : Int) :: le2 1) := by
      have h2 : (laid ++ leN 1 (k : Int)).length = n + 1 := by rw [List.length_append, leN_length, HN.out]
      have h3 := putL_tail (laid ++ leN 1 (k : Int)) (leN 2 0) 1 2
      rw [h2] at h3
      rw [← HM.out, h3, leN1 k (by omega), List.append_assoc]
      rfl
    have o6 := HO6.out
    rw [e9] at o6
    have hlen : (laid ++ ((k : Int) :: le2 1)).length = n + 1 + 2 := by simp [HN.out, le2]
    refine ⟨rfl, ⟨g1, cc, ?_, ?_, hBq, ?_⟩, ?_⟩
    · simp only [hlen]; exact HQ6.out
    · simp only [hlen]; exact o6
    · intro x hx
      simp only [le2, List.mem_append, List.mem_cons, List.not_mem_nil, or_false] at hx
      rcases hx with hx | rfl | rfl | rfl
      · exact hby x hx
      all_goals omega
    · have s2 := Nat.le_trans hBw (HK1.out.trans HK2.out).bel.size
      exact ((HK1.out.trans HK2.out).trans (Kw.of_box HQ2.out hBq s2 HG5.out)).trans ((Kw.drewl _ _).trans (Kw.of_own HO5.out (Nat.le_trans s2 HG5.out.size) HG6.out))
set_option maxHeartbeats 2000000 in
set_option maxRecDepth 100000 in
theorem run_new2 (B q k : Nat) (laid : List Int) (kind count : Nat) (w : World) (hW : WrAt w B q ⟨laid, kind, count⟩) (hl : laid.length ≤ 900000000) (hk : k ≤ 2) (k1 : ((kind : Int) != (k : Int)) = false) (k2 : ((count : Int) == 0) = true) :
    Calls Tryd.prog 67 #[.pointer (some ⟨q, 0, none⟩), .int .i64 (k : Int)] w fun e w' => e = .returned (.tuple #[]) ∧ WrAt w' B q ⟨laid ++ ([(k : Int)] ++ le2 1), k, 1⟩ ∧ Kw B w w' := by
    have hBw := hW.size
    have HW : Hid (WrAt w B q ⟨laid, kind, count⟩) := hW
    obtain ⟨g, cap, hq, hown, hBq, hby⟩ := hW
    obtain ⟨n, hn⟩ : ∃ n, laid.length = n := ⟨_, rfl⟩
    simp only at hq hown hby
    obtain ⟨c0, c1, c2, f0, f1, f2⟩ := blk3_cells hq
    have HN : Hid (laid.length = n) := hn
    rw [hn] at hl c0
    clear hq hown hn
    go_enter Tryd.func67, Tryd.ntmps67
    go_upto_region 5 with (first
      | (go_at_call 38; have zz := M1; refine (number_any B q ⟨laid ++ leN 1 (k : Int), kind, count⟩ 2 0 _ wr1 (by simp only [List.length_append, leN_length, HN.out]; omega) (by omega) (by omega) (by omega) (by decide)).mono ?_; rintro e w2 ⟨rfl, wr2, kw2⟩; clear M1 zz
         obtain ⟨g1, cc, hq2, own2, _, by2⟩ := wr2
         simp only [List.length_append, leN_length, HN.out] at hq2 own2
         clear d0 d1 d2 e0 e1 e2
         obtain ⟨d0, d1, d2, e0, e1, e2⟩ := blk3_cells hq2
         have HQ2 : Hid _ := hq2
         have HO2 : Hid (Own w2 B g1 (n + 1 + 2) cc (laid ++ leN 1 (k : Int) ++ leN 2 0)) := own2
         have HY2 : Hid _ := by2
         have HK2 : Hid _ := kw2
         clear hq2 own2 by2 kw2)
      | (go_at_call 38; refine (number_any B q ⟨laid, kind, count⟩ 1 (k : Int) _ HW.out (by simp only [HN.out]; omega) (by omega) (by omega) (by omega) (by omega)).mono ?_; rintro e w1 ⟨rfl, wr1, kw1⟩; have M1 : Hid True := trivial; have HK1 : Hid _ := kw1; clear kw1 c0 c1 c2 f0 f1 f2
         obtain ⟨g0, cc0, hq1, _, _, _⟩ := id wr1
         obtain ⟨d0, d1, d2, e0, e1, e2⟩ := blk3_cells hq1
         clear hq1))
    have HQ5 : Hid ((((w2.setCell ⟨q, 1, none⟩ (.int .i64 (k : Int))).setCell ⟨q, 2, none⟩ (.int .i64 0)).setCell ⟨q, 2, none⟩ (.int .i64 1)).heap[q]? = some (.cells #[.slice (some ⟨g1, 0, none⟩) (n + 1 + 2) cc, .int .i64 (k : Int), .int .i64 1] 82 (0, 0))) := blk3_2 (blk3_2 (blk3_1 HQ2.out _) _) _
    have hg5 : w2.grownBy (((w2.setCell ⟨q, 1, none⟩ (.int .i64 (k : Int))).setCell ⟨q, 2, none⟩ (.int .i64 0)).setCell ⟨q, 2, none⟩ (.int .i64 1)) (some q) := grownBy_trans (grownBy_trans (set_grown w2 q 1 _) (set_grown _ q 2 _)) (set_grown _ q 2 _)
    have HO5 : Hid (Own (((w2.setCell ⟨q, 1, none⟩ (.int .i64 (k : Int))).setCell ⟨q, 2, none⟩ (.int .i64 0)).setCell ⟨q, 2, none⟩ (.int .i64 1)).drew B g1 (n + 1 + 2) cc (laid ++ leN 1 (k : Int) ++ leN 2 0)) := Own.drew1 (Own.apart HO2.out hg5 (Own.ne HO2.out HQ2.out (by decide)).symm)
    have HG5 : Hid _ := hg5
    have HF : Hid (((1 : Int) / 2 ^ (8 * ((2 : Nat) : Int)).toNat == 0) = true) := fits_pow 1 2 (by omega) (by omega)
    clear hg5 d0 d1 d2 e0 e1 e2
    obtain ⟨m, hm⟩ : ∃ m, n + 1 = m := ⟨_, rfl⟩
    have wr5 : IntKind.i64.wrap ((n : Int) + 1) = (m : Int) := by rw [IntKind.wrap_i64]; omega
    have wr7 : IntKind.u64.wrap 1 = 1 := by decide
    have HM : Hid (n + 1 = m) := hm
    have hm2 : m + 2 ≤ n + 1 + 2 := by omega
    clear hm
    refine wp_region_held_drew (S := (fun x : World => x.cell? ⟨q, 0, none⟩ = some (.slice (some ⟨g1, 0, none⟩) (n + 1 + 2) cc) ∧ x.cell? ⟨q, 2, none⟩ = some (.int .i64 1))) (by kernel_rfl) (⟨(blk3_cells HQ5.out).1, (blk3_cells HQ5.out).2.2.1⟩) (fun hHeld => ?_)
    refine wpAnyH_take (i := 0) (oi := { dst := some 43, op := Op.move (Operand.tmp 0), type := 80, pos := "pack.go:112", after := #[], guard := none }) (v := ?v0a2) rfl (by kernel_rfl) (by kernel_rfl) (by kernel_rfl) (fun _ _ _ h => h) (Or.inl ⟨by rfl, ?y0a2⟩) (by assumption) ?r0a2
    case y0a2 => (intro x hx; (try dsimp only at hx); go_simp; try with_reducible rfl)
    try simp only [Act.put, List.setIfInBounds_toArray, List.set_cons_zero, List.set_cons_succ]
    refine wpAnyH_take (i := 1) (oi := { dst := some 44, op := Op.nilCheck (Operand.tmp 43), type := 0, pos := "pack.go:112", after := #[{ on := 0, ground := Ground.data }], guard := none }) (v := ?v1a2) rfl (by kernel_rfl) (by kernel_rfl) (by kernel_rfl) (fun _ _ _ h => h) (Or.inl ⟨by rfl, ?y1a2⟩) (by assumption) ?r1a2
    case y1a2 => (intro x hx; (try dsimp only at hx); go_simp; try with_reducible rfl)
    try simp only [Act.put, List.setIfInBounds_toArray, List.set_cons_zero, List.set_cons_succ]
    refine wpAnyH_take (i := 2) (oi := { dst := some 45, op := Op.fieldAddr 82 (Operand.tmp 44) 0, type := 0, pos := "pack.go:112", after := #[{ on := 1, ground := Ground.data }], guard := none }) (v := ?v2a2) rfl (by kernel_rfl) (by kernel_rfl) (by kernel_rfl) (fun _ _ _ h => h) (Or.inl ⟨by rfl, ?y2a2⟩) (by assumption) ?r2a2
    case y2a2 => (intro x hx; (try dsimp only at hx); go_simp; try with_reducible rfl)
    try simp only [Act.put, List.setIfInBounds_toArray, List.set_cons_zero, List.set_cons_succ]
    refine wpAnyH_take (i := 3) (oi := { dst := some 46, op := Op.load 22 (Operand.tmp 45), type := 22, pos := "pack.go:112", after := #[{ on := 2, ground := Ground.data }], guard := none }) (v := ?v3a2) rfl (by kernel_rfl) (by kernel_rfl) (by kernel_rfl) (fun _ _ _ h => h) (Or.inl ⟨by rfl, ?y3a2⟩) (by assumption) ?r3a2
    case y3a2 => (intro x hx; (try dsimp only at hx); go_simp; try with_reducible rfl)
    try simp only [Act.put, List.setIfInBounds_toArray, List.set_cons_zero, List.set_cons_succ]
    refine wpAnyH_take (i := 4) (oi := { dst := some 47, op := Op.move (Operand.tmp 0), type := 80, pos := "pack.go:112", after := #[], guard := none }) (v := ?v4a2) rfl (by kernel_rfl) (by kernel_rfl) (by kernel_rfl) (fun _ _ _ h => h) (Or.inl ⟨by rfl, ?y4a2⟩) (by assumption) ?r4a2
    case y4a2 => (intro x hx; (try dsimp only at hx); go_simp; try with_reducible rfl)
    try simp only [Act.put, List.setIfInBounds_toArray, List.set_cons_zero, List.set_cons_succ]
    refine wpAnyH_take (i := 5) (oi := { dst := some 48, op := Op.nilCheck (Operand.tmp 47), type := 0, pos := "pack.go:112", after := #[{ on := 4, ground := Ground.data }], guard := none }) (v := ?v5a2) rfl (by kernel_rfl) (by kernel_rfl) (by kernel_rfl) (fun _ _ _ h => h) (Or.inl ⟨by rfl, ?y5a2⟩) (by assumption) ?r5a2
    case y5a2 => (intro x hx; (try dsimp only at hx); go_simp; try with_reducible rfl)
    try simp only [Act.put, List.setIfInBounds_toArray, List.set_cons_zero, List.set_cons_succ]
    refine wpAnyH_take (i := 6) (oi := { dst := some 49, op := Op.fieldAddr 82 (Operand.tmp 48) 0, type := 0, pos := "pack.go:112", after := #[{ on := 5, ground := Ground.data }], guard := none }) (v := ?v6a2) rfl (by kernel_rfl) (by kernel_rfl) (by kernel_rfl) (fun _ _ _ h => h) (Or.inl ⟨by rfl, ?y6a2⟩) (by assumption) ?r6a2
    case y6a2 => (intro x hx; (try dsimp only at hx); go_simp; try with_reducible rfl)
    try simp only [Act.put, List.setIfInBounds_toArray, List.set_cons_zero, List.set_cons_succ]
    refine wpAnyH_take (i := 7) (oi := { dst := some 50, op := Op.load 22 (Operand.tmp 49), type := 22, pos := "pack.go:112", after := #[{ on := 6, ground := Ground.data }], guard := none }) (v := ?v7a2) rfl (by kernel_rfl) (by kernel_rfl) (by kernel_rfl) (fun _ _ _ h => h) (Or.inl ⟨by rfl, ?y7a2⟩) (by assumption) ?r7a2
    case y7a2 => (intro x hx; (try dsimp only at hx); go_simp; try with_reducible rfl)
    try simp only [Act.put, List.setIfInBounds_toArray, List.set_cons_zero, List.set_cons_succ]
    refine wpAnyH_take (i := 8) (oi := { dst := some 51, op := Op.call { callee := Callee.builtin Builtin.len, args := #[Operand.tmp 50], argTypes := #[22] }, type := 3, pos := "pack.go:112", after := #[{ on := 7, ground := Ground.data }], guard := none }) (v := ?v8a2) rfl (by kernel_rfl) (by kernel_rfl) (by kernel_rfl) (fun _ _ _ h => h) (Or.inl ⟨by rfl, ?y8a2⟩) (by assumption) ?r8a2
    case y8a2 => (intro x hx; (try dsimp only at hx); go_simp; try with_reducible rfl)
    try simp only [Act.put, List.setIfInBounds_toArray, List.set_cons_zero, List.set_cons_succ]
    refine wpAnyH_take (i := 9) (oi := { dst := some 52, op := Op.binOp BinOp.sub 3 (Operand.tmp 51) (Operand.const (Value.int IntKind.i64 2)) 3, type := 3, pos := "pack.go:112", after := #[{ on := 8, ground := Ground.data }], guard := none }) (v := ?v9a2) rfl (by kernel_rfl) (by kernel_rfl) (by kernel_rfl) (fun _ _ _ h => h) (Or.inl ⟨by rfl, ?y9a2⟩) (by assumption) ?r9a2
    case y9a2 => (intro x hx; (try dsimp only at hx); go_simp; try with_reducible rfl)
    try simp only [Act.put, List.setIfInBounds_toArray, List.set_cons_zero, List.set_cons_succ]
    refine wpAnyH_take (i := 10) (oi := { dst := some 53, op := Op.move (Operand.tmp 0), type := 80, pos := "pack.go:112", after := #[], guard := none }) (v := ?v10a2) rfl (by kernel_rfl) (by kernel_rfl) (by kernel_rfl) (fun _ _ _ h => h) (Or.inl ⟨by rfl, ?y10a2⟩) (by assumption) ?r10a2
    case y10a2 => (intro x hx; (try dsimp only at hx); go_simp; try with_reducible rfl)
    try simp only [Act.put, List.setIfInBounds_toArray, List.set_cons_zero, List.set_cons_succ]
    refine wpAnyH_take (i := 11) (oi := { dst := some 54, op := Op.nilCheck (Operand.tmp 53), type := 0, pos := "pack.go:112", after := #[{ on := 10, ground := Ground.data }], guard := none }) (v := ?v11a2) rfl (by kernel_rfl) (by kernel_rfl) (by kernel_rfl) (fun _ _ _ h => h) (Or.inl ⟨by rfl, ?y11a2⟩) (by assumption) ?r11a2
    case y11a2 => (intro x hx; (try dsimp only at hx); go_simp; try with_reducible rfl)
    try simp only [Act.put, List.setIfInBounds_toArray, List.set_cons_zero, List.set_cons_succ]
    refine wpAnyH_take (i := 12) (oi := { dst := some 55, op := Op.fieldAddr 82 (Operand.tmp 54) 2, type := 0, pos := "pack.go:112", after := #[{ on := 11, ground := Ground.data }], guard := none }) (v := ?v12a2) rfl (by kernel_rfl) (by kernel_rfl) (by kernel_rfl) (fun _ _ _ h => h) (Or.inl ⟨by rfl, ?y12a2⟩) (by assumption) ?r12a2
    case y12a2 => (intro x hx; (try dsimp only at hx); go_simp; try with_reducible rfl)
    try simp only [Act.put, List.setIfInBounds_toArray, List.set_cons_zero, List.set_cons_succ]
    refine wpAnyH_take (i := 13) (oi := { dst := some 56, op := Op.load 3 (Operand.tmp 55), type := 3, pos := "pack.go:112", after := #[{ on := 12, ground := Ground.data }], guard := none }) (v := ?v13a2) rfl (by kernel_rfl) (by kernel_rfl) (by kernel_rfl) (fun _ _ _ h => h) (Or.inl ⟨by rfl, ?y13a2⟩) (by assumption) ?r13a2
    case y13a2 => (intro x hx; (try dsimp only at hx); go_simp; try with_reducible rfl)
    try simp only [Act.put, List.setIfInBounds_toArray, List.set_cons_zero, List.set_cons_succ]
    refine wpAnyH_take (i := 14) (oi := { dst := some 57, op := Op.convert 3 108 (Operand.tmp 56), type := 108, pos := "pack.go:112", after := #[{ on := 13, ground := Ground.data }], guard := none }) (v := ?v14a2) rfl (by kernel_rfl) (by kernel_rfl) (by kernel_rfl) (fun _ _ _ h => h) (Or.inl ⟨by rfl, ?y14a2⟩) (by assumption) ?r14a2
    case y14a2 => (intro x hx; (try dsimp only at hx); go_simp; try with_reducible rfl)
    try simp only [Act.put, List.setIfInBounds_toArray, List.set_cons_zero, List.set_cons_succ]
    refine wpAnyH_ready (rs := [15]) (by kernel_rfl) (by simp) ?_
    refine AllReadyH.cons (o := { dst := some 58, op := Op.call { callee := Callee.value (Operand.func 62), args := #[Operand.tmp 46, Operand.tmp 52, Operand.const (Value.int IntKind.i64 2), Operand.tmp 57], argTypes := #[22, 3, 3, 108] }, type := 33, pos := "pack.go:112", after := #[{ on := 3, ground := Ground.data }, { on := 9, ground := Ground.data }, { on := 14, ground := Ground.data }], guard := none }) rfl (fun K hK => ?_) AllReadyH.nil
    go_simp
    go_at_call 62
    refine (put_ok B g1 (n + 1 + 2) cc (n + 1 + 2) m 2 1 (laid ++ leN 1 (k : Int) ++ leN 2 0) _ (by omega) (by omega) (by omega) HF.out hm2 (Nat.le_refl _) (by omega) HO5.out).mono ?_
    rintro e w6 ⟨rfl, own6, grow6⟩
    have HO6 : Hid (Own w6 B g1 (n + 1 + 2) cc (putL (laid ++ leN 1 (k : Int) ++ leN 2 0) m 1 2)) := own6
    have HQ6 : Hid _ := (grow6.block q (Array.getElem?_eq_some_iff.1 HQ5.out).1 (fun e => (Own.ne HO5.out HQ5.out (by decide)) (by cases e; rfl))).trans HQ5.out
    have HG6 : Hid _ := grow6
    have hSnew := And.intro (blk3_cells HQ6.out).1 (blk3_cells HQ6.out).2.2.1
    clear own6 grow6
    go_wp2_with fail
    refine hK.out _ _ hSnew (fun hHeld15 => ?_)
    clear hK K hSnew
    clear hHeld
    have hHeld := hHeld15
    clear hHeld15
    try simp only [Act.put, List.setIfInBounds_toArray, List.set_cons_zero, List.set_cons_succ]
    refine wpAnyH_done (by kernel_rfl) ?_ _
    go_wp2
    go_end0
    have e9 : putL (laid ++ leN 1 (k : Int) ++ leN 2 0) m 1 2 = laid ++ ((k : Int) :: le2 1) := by
      have h2 : (laid ++ leN 1 (k : Int)).length = n + 1 := by rw [List.length_append, leN_length, HN.out]
      have h3 := putL_tail (laid ++ leN 1 (k : Int)) (leN 2 0) 1 2
      rw [h2] at h3
      rw [← HM.out, h3, leN1 k (by omega), List.append_assoc]
      rfl
    have o6 := HO6.out
    rw [e9] at o6
    have hlen : (laid ++ ((k : Int) :: le2 1)).length = n + 1 + 2 := by simp [HN.out, le2]
    refine ⟨rfl, ⟨g1, cc, ?_, ?_, hBq, ?_⟩, ?_⟩
    · simp only [hlen]; exact HQ6.out
    · simp only [hlen]; exact o6
    · intro x hx
      simp only [le2, List.mem_append, List.mem_cons, List.not_mem_nil, or_false] at hx
      rcases hx with hx | rfl | rfl | rfl
      · exact hby x hx
      all_goals omega
    · have s2 := Nat.le_trans hBw (HK1.out.trans HK2.out).bel.size
      exact ((HK1.out.trans HK2.out).trans (Kw.of_box HQ2.out hBq s2 HG5.out)).trans ((Kw.drewl _ _).trans (Kw.of_own HO5.out (Nat.le_trans s2 HG5.out.size) HG6.out))
set_option maxHeartbeats 2000000 in
set_option maxRecDepth 100000 in
theorem run_new3 (B q k : Nat) (laid : List Int) (kind count : Nat) (w : World) (hW : WrAt w B q ⟨laid, kind, count⟩) (hl : laid.length ≤ 900000000) (hk : k ≤ 2) (k1 : ((kind : Int) != (k : Int)) = false) (k2 : ((count : Int) == 0) = false) (k3 : ((count : Int) == 65535) = true) :
    Calls Tryd.prog 67 #[.pointer (some ⟨q, 0, none⟩), .int .i64 (k : Int)] w fun e w' => e = .returned (.tuple #[]) ∧ WrAt w' B q ⟨laid ++ ([(k : Int)] ++ le2 1), k, 1⟩ ∧ Kw B w w' := by
    have hBw := hW.size
    have HW : Hid (WrAt w B q ⟨laid, kind, count⟩) := hW
    obtain ⟨g, cap, hq, hown, hBq, hby⟩ := hW
    obtain ⟨n, hn⟩ : ∃ n, laid.length = n := ⟨_, rfl⟩
    simp only at hq hown hby
    obtain ⟨c0, c1, c2, f0, f1, f2⟩ := blk3_cells hq
    have HN : Hid (laid.length = n) := hn
    rw [hn] at hl c0
    clear hq hown hn
    go_enter Tryd.func67, Tryd.ntmps67
    go_upto_region 5 with (first
      | (go_at_call 38; have zz := M1; refine (number_any B q ⟨laid ++ leN 1 (k : Int), kind, count⟩ 2 0 _ wr1 (by simp only [List.length_append, leN_length, HN.out]; omega) (by omega) (by omega) (by omega) (by decide)).mono ?_; rintro e w2 ⟨rfl, wr2, kw2⟩; clear M1 zz
         obtain ⟨g1, cc, hq2, own2, _, by2⟩ := wr2
         simp only [List.length_append, leN_length, HN.out] at hq2 own2
         clear d0 d1 d2 e0 e1 e2
         obtain ⟨d0, d1, d2, e0, e1, e2⟩ := blk3_cells hq2
         have HQ2 : Hid _ := hq2
         have HO2 : Hid (Own w2 B g1 (n + 1 + 2) cc (laid ++ leN 1 (k : Int) ++ leN 2 0)) := own2
         have HY2 : Hid _ := by2
         have HK2 : Hid _ := kw2
         clear hq2 own2 by2 kw2)
      | (go_at_call 38; refine (number_any B q ⟨laid, kind, count⟩ 1 (k : Int) _ HW.out (by simp only [HN.out]; omega) (by omega) (by omega) (by omega) (by omega)).mono ?_; rintro e w1 ⟨rfl, wr1, kw1⟩; have M1 : Hid True := trivial; have HK1 : Hid _ := kw1; clear kw1 c0 c1 c2 f0 f1 f2
         obtain ⟨g0, cc0, hq1, _, _, _⟩ := id wr1
         obtain ⟨d0, d1, d2, e0, e1, e2⟩ := blk3_cells hq1
         clear hq1))
    have HQ5 : Hid ((((w2.setCell ⟨q, 1, none⟩ (.int .i64 (k : Int))).setCell ⟨q, 2, none⟩ (.int .i64 0)).setCell ⟨q, 2, none⟩ (.int .i64 1)).heap[q]? = some (.cells #[.slice (some ⟨g1, 0, none⟩) (n + 1 + 2) cc, .int .i64 (k : Int), .int .i64 1] 82 (0, 0))) := blk3_2 (blk3_2 (blk3_1 HQ2.out _) _) _
    have hg5 : w2.grownBy (((w2.setCell ⟨q, 1, none⟩ (.int .i64 (k : Int))).setCell ⟨q, 2, none⟩ (.int .i64 0)).setCell ⟨q, 2, none⟩ (.int .i64 1)) (some q) := grownBy_trans (grownBy_trans (set_grown w2 q 1 _) (set_grown _ q 2 _)) (set_grown _ q 2 _)
    have HO5 : Hid (Own (((w2.setCell ⟨q, 1, none⟩ (.int .i64 (k : Int))).setCell ⟨q, 2, none⟩ (.int .i64 0)).setCell ⟨q, 2, none⟩ (.int .i64 1)).drew B g1 (n + 1 + 2) cc (laid ++ leN 1 (k : Int) ++ leN 2 0)) := Own.drew1 (Own.apart HO2.out hg5 (Own.ne HO2.out HQ2.out (by decide)).symm)
    have HG5 : Hid _ := hg5
    have HF : Hid (((1 : Int) / 2 ^ (8 * ((2 : Nat) : Int)).toNat == 0) = true) := fits_pow 1 2 (by omega) (by omega)
    clear hg5 d0 d1 d2 e0 e1 e2
    obtain ⟨m, hm⟩ : ∃ m, n + 1 = m := ⟨_, rfl⟩
    have wr5 : IntKind.i64.wrap ((n : Int) + 1) = (m : Int) := by rw [IntKind.wrap_i64]; omega
    have wr7 : IntKind.u64.wrap 1 = 1 := by decide
    have HM : Hid (n + 1 = m) := hm
    have hm2 : m + 2 ≤ n + 1 + 2 := by omega
    clear hm
    refine wp_region_held_drew (S := (fun x : World => x.cell? ⟨q, 0, none⟩ = some (.slice (some ⟨g1, 0, none⟩) (n + 1 + 2) cc) ∧ x.cell? ⟨q, 2, none⟩ = some (.int .i64 1))) (by kernel_rfl) (⟨(blk3_cells HQ5.out).1, (blk3_cells HQ5.out).2.2.1⟩) (fun hHeld => ?_)
    refine wpAnyH_take (i := 0) (oi := { dst := some 43, op := Op.move (Operand.tmp 0), type := 80, pos := "pack.go:112", after := #[], guard := none }) (v := ?v0a3) rfl (by kernel_rfl) (by kernel_rfl) (by kernel_rfl) (fun _ _ _ h => h) (Or.inl ⟨by rfl, ?y0a3⟩) (by assumption) ?r0a3
    case y0a3 => (intro x hx; (try dsimp only at hx); go_simp; try with_reducible rfl)
    try simp only [Act.put, List.setIfInBounds_toArray, List.set_cons_zero, List.set_cons_succ]
    refine wpAnyH_take (i := 1) (oi := { dst := some 44, op := Op.nilCheck (Operand.tmp 43), type := 0, pos := "pack.go:112", after := #[{ on := 0, ground := Ground.data }], guard := none }) (v := ?v1a3) rfl (by kernel_rfl) (by kernel_rfl) (by kernel_rfl) (fun _ _ _ h => h) (Or.inl ⟨by rfl, ?y1a3⟩) (by assumption) ?r1a3
    case y1a3 => (intro x hx; (try dsimp only at hx); go_simp; try with_reducible rfl)
    try simp only [Act.put, List.setIfInBounds_toArray, List.set_cons_zero, List.set_cons_succ]
    refine wpAnyH_take (i := 2) (oi := { dst := some 45, op := Op.fieldAddr 82 (Operand.tmp 44) 0, type := 0, pos := "pack.go:112", after := #[{ on := 1, ground := Ground.data }], guard := none }) (v := ?v2a3) rfl (by kernel_rfl) (by kernel_rfl) (by kernel_rfl) (fun _ _ _ h => h) (Or.inl ⟨by rfl, ?y2a3⟩) (by assumption) ?r2a3
    case y2a3 => (intro x hx; (try dsimp only at hx); go_simp; try with_reducible rfl)
    try simp only [Act.put, List.setIfInBounds_toArray, List.set_cons_zero, List.set_cons_succ]
    refine wpAnyH_take (i := 3) (oi := { dst := some 46, op := Op.load 22 (Operand.tmp 45), type := 22, pos := "pack.go:112", after := #[{ on := 2, ground := Ground.data }], guard := none }) (v := ?v3a3) rfl (by kernel_rfl) (by kernel_rfl) (by kernel_rfl) (fun _ _ _ h => h) (Or.inl ⟨by rfl, ?y3a3⟩) (by assumption) ?r3a3
    case y3a3 => (intro x hx; (try dsimp only at hx); go_simp; try with_reducible rfl)
    try simp only [Act.put, List.setIfInBounds_toArray, List.set_cons_zero, List.set_cons_succ]
    refine wpAnyH_take (i := 4) (oi := { dst := some 47, op := Op.move (Operand.tmp 0), type := 80, pos := "pack.go:112", after := #[], guard := none }) (v := ?v4a3) rfl (by kernel_rfl) (by kernel_rfl) (by kernel_rfl) (fun _ _ _ h => h) (Or.inl ⟨by rfl, ?y4a3⟩) (by assumption) ?r4a3
    case y4a3 => (intro x hx; (try dsimp only at hx); go_simp; try with_reducible rfl)
    try simp only [Act.put, List.setIfInBounds_toArray, List.set_cons_zero, List.set_cons_succ]
    refine wpAnyH_take (i := 5) (oi := { dst := some 48, op := Op.nilCheck (Operand.tmp 47), type := 0, pos := "pack.go:112", after := #[{ on := 4, ground := Ground.data }], guard := none }) (v := ?v5a3) rfl (by kernel_rfl) (by kernel_rfl) (by kernel_rfl) (fun _ _ _ h => h) (Or.inl ⟨by rfl, ?y5a3⟩) (by assumption) ?r5a3
    case y5a3 => (intro x hx; (try dsimp only at hx); go_simp; try with_reducible rfl)
    try simp only [Act.put, List.setIfInBounds_toArray, List.set_cons_zero, List.set_cons_succ]
    refine wpAnyH_take (i := 6) (oi := { dst := some 49, op := Op.fieldAddr 82 (Operand.tmp 48) 0, type := 0, pos := "pack.go:112", after := #[{ on := 5, ground := Ground.data }], guard := none }) (v := ?v6a3) rfl (by kernel_rfl) (by kernel_rfl) (by kernel_rfl) (fun _ _ _ h => h) (Or.inl ⟨by rfl, ?y6a3⟩) (by assumption) ?r6a3
    case y6a3 => (intro x hx; (try dsimp only at hx); go_simp; try with_reducible rfl)
    try simp only [Act.put, List.setIfInBounds_toArray, List.set_cons_zero, List.set_cons_succ]
    refine wpAnyH_take (i := 7) (oi := { dst := some 50, op := Op.load 22 (Operand.tmp 49), type := 22, pos := "pack.go:112", after := #[{ on := 6, ground := Ground.data }], guard := none }) (v := ?v7a3) rfl (by kernel_rfl) (by kernel_rfl) (by kernel_rfl) (fun _ _ _ h => h) (Or.inl ⟨by rfl, ?y7a3⟩) (by assumption) ?r7a3
    case y7a3 => (intro x hx; (try dsimp only at hx); go_simp; try with_reducible rfl)
    try simp only [Act.put, List.setIfInBounds_toArray, List.set_cons_zero, List.set_cons_succ]
    refine wpAnyH_take (i := 8) (oi := { dst := some 51, op := Op.call { callee := Callee.builtin Builtin.len, args := #[Operand.tmp 50], argTypes := #[22] }, type := 3, pos := "pack.go:112", after := #[{ on := 7, ground := Ground.data }], guard := none }) (v := ?v8a3) rfl (by kernel_rfl) (by kernel_rfl) (by kernel_rfl) (fun _ _ _ h => h) (Or.inl ⟨by rfl, ?y8a3⟩) (by assumption) ?r8a3
    case y8a3 => (intro x hx; (try dsimp only at hx); go_simp; try with_reducible rfl)
    try simp only [Act.put, List.setIfInBounds_toArray, List.set_cons_zero, List.set_cons_succ]
    refine wpAnyH_take (i := 9) (oi := { dst := some 52, op := Op.binOp BinOp.sub 3 (Operand.tmp 51) (Operand.const (Value.int IntKind.i64 2)) 3, type := 3, pos := "pack.go:112", after := #[{ on := 8, ground := Ground.data }], guard := none }) (v := ?v9a3) rfl (by kernel_rfl) (by kernel_rfl) (by kernel_rfl) (fun _ _ _ h => h) (Or.inl ⟨by rfl, ?y9a3⟩) (by assumption) ?r9a3
    case y9a3 => (intro x hx; (try dsimp only at hx); go_simp; try with_reducible rfl)
    try simp only [Act.put, List.setIfInBounds_toArray, List.set_cons_zero, List.set_cons_succ]
    refine wpAnyH_take (i := 10) (oi := { dst := some 53, op := Op.move (Operand.tmp 0), type := 80, pos := "pack.go:112", after := #[], guard := none }) (v := ?v10a3) rfl (by kernel_rfl) (by kernel_rfl) (by kernel_rfl) (fun _ _ _ h => h) (Or.inl ⟨by rfl, ?y10a3⟩) (by assumption) ?r10a3
    case y10a3 => (intro x hx; (try dsimp only at hx); go_simp; try with_reducible rfl)
    try simp only [Act.put, List.setIfInBounds_toArray, List.set_cons_zero, List.set_cons_succ]
    refine wpAnyH_take (i := 11) (oi := { dst := some 54, op := Op.nilCheck (Operand.tmp 53), type := 0, pos := "pack.go:112", after := #[{ on := 10, ground := Ground.data }], guard := none }) (v := ?v11a3) rfl (by kernel_rfl) (by kernel_rfl) (by kernel_rfl) (fun _ _ _ h => h) (Or.inl ⟨by rfl, ?y11a3⟩) (by assumption) ?r11a3
    case y11a3 => (intro x hx; (try dsimp only at hx); go_simp; try with_reducible rfl)
    try simp only [Act.put, List.setIfInBounds_toArray, List.set_cons_zero, List.set_cons_succ]
    refine wpAnyH_take (i := 12) (oi := { dst := some 55, op := Op.fieldAddr 82 (Operand.tmp 54) 2, type := 0, pos := "pack.go:112", after := #[{ on := 11, ground := Ground.data }], guard := none }) (v := ?v12a3) rfl (by kernel_rfl) (by kernel_rfl) (by kernel_rfl) (fun _ _ _ h => h) (Or.inl ⟨by rfl, ?y12a3⟩) (by assumption) ?r12a3
    case y12a3 => (intro x hx; (try dsimp only at hx); go_simp; try with_reducible rfl)
    try simp only [Act.put, List.setIfInBounds_toArray, List.set_cons_zero, List.set_cons_succ]
    refine wpAnyH_take (i := 13) (oi := { dst := some 56, op := Op.load 3 (Operand.tmp 55), type := 3, pos := "pack.go:112", after := #[{ on := 12, ground := Ground.data }], guard := none }) (v := ?v13a3) rfl (by kernel_rfl) (by kernel_rfl) (by kernel_rfl) (fun _ _ _ h => h) (Or.inl ⟨by rfl, ?y13a3⟩) (by assumption) ?r13a3
    case y13a3 => (intro x hx; (try dsimp only at hx); go_simp; try with_reducible rfl)
    try simp only [Act.put, List.setIfInBounds_toArray, List.set_cons_zero, List.set_cons_succ]
    refine wpAnyH_take (i := 14) (oi := { dst := some 57, op := Op.convert 3 108 (Operand.tmp 56), type := 108, pos := "pack.go:112", after := #[{ on := 13, ground := Ground.data }], guard := none }) (v := ?v14a3) rfl (by kernel_rfl) (by kernel_rfl) (by kernel_rfl) (fun _ _ _ h => h) (Or.inl ⟨by rfl, ?y14a3⟩) (by assumption) ?r14a3
    case y14a3 => (intro x hx; (try dsimp only at hx); go_simp; try with_reducible rfl)
    try simp only [Act.put, List.setIfInBounds_toArray, List.set_cons_zero, List.set_cons_succ]
    refine wpAnyH_ready (rs := [15]) (by kernel_rfl) (by simp) ?_
    refine AllReadyH.cons (o := { dst := some 58, op := Op.call { callee := Callee.value (Operand.func 62), args := #[Operand.tmp 46, Operand.tmp 52, Operand.const (Value.int IntKind.i64 2), Operand.tmp 57], argTypes := #[22, 3, 3, 108] }, type := 33, pos := "pack.go:112", after := #[{ on := 3, ground := Ground.data }, { on := 9, ground := Ground.data }, { on := 14, ground := Ground.data }], guard := none }) rfl (fun K hK => ?_) AllReadyH.nil
    go_simp
    go_at_call 62
    refine (put_ok B g1 (n + 1 + 2) cc (n + 1 + 2) m 2 1 (laid ++ leN 1 (k : Int) ++ leN 2 0) _ (by omega) (by omega) (by omega) HF.out hm2 (Nat.le_refl _) (by omega) HO5.out).mono ?_
    rintro e w6 ⟨rfl, own6, grow6⟩
    have HO6 : Hid (Own w6 B g1 (n + 1 + 2) cc (putL (laid ++ leN 1 (k : Int) ++ leN 2 0) m 1 2)) := own6
    have HQ6 : Hid _ := (grow6.block q (Array.getElem?_eq_some_iff.1 HQ5.out).1 (fun e => (Own.ne HO5.out HQ5.out (by decide)) (by cases e; rfl))).trans HQ5.out
    have HG6 : Hid _ := grow6
    have hSnew := And.intro (blk3_cells HQ6.out).1 (blk3_cells HQ6.out).2.2.1
    clear own6 grow6
    go_wp2_with fail
    refine hK.out _ _ hSnew (fun hHeld15 => ?_)
    clear hK K hSnew
    clear hHeld
    have hHeld := hHeld15
    clear hHeld15
    try simp only [Act.put, List.setIfInBounds_toArray, List.set_cons_zero, List.set_cons_succ]
    refine wpAnyH_done (by kernel_rfl) ?_ _
    go_wp2
    go_end0
    have e9 : putL (laid ++ leN 1 (k : Int) ++ leN 2 0) m 1 2 = laid ++ ((k : Int) :: le2 1) := by
      have h2 : (laid ++ leN 1 (k : Int)).length = n + 1 := by rw [List.length_append, leN_length, HN.out]
      have h3 := putL_tail (laid ++ leN 1 (k : Int)) (leN 2 0) 1 2
      rw [h2] at h3
      rw [← HM.out, h3, leN1 k (by omega), List.append_assoc]
      rfl
    have o6 := HO6.out
    rw [e9] at o6
    have hlen : (laid ++ ((k : Int) :: le2 1)).length = n + 1 + 2 := by simp [HN.out, le2]
    refine ⟨rfl, ⟨g1, cc, ?_, ?_, hBq, ?_⟩, ?_⟩
    · simp only [hlen]; exact HQ6.out
    · simp only [hlen]; exact o6
    · intro x hx
      simp only [le2, List.mem_append, List.mem_cons, List.not_mem_nil, or_false] at hx
      rcases hx with hx | rfl | rfl | rfl
      · exact hby x hx
      all_goals omega
    · have s2 := Nat.le_trans hBw (HK1.out.trans HK2.out).bel.size
      exact ((HK1.out.trans HK2.out).trans (Kw.of_box HQ2.out hBq s2 HG5.out)).trans ((Kw.drewl _ _).trans (Kw.of_own HO5.out (Nat.le_trans s2 HG5.out.size) HG6.out))
set_option maxHeartbeats 2000000 in
set_option maxRecDepth 100000 in
theorem run_moreN (B q k : Nat) (st : St) (w : World) (hW : WrAt w B q st) (hl : st.laid.length ≤ 900000000) (hl2 : 2 ≤ st.laid.length) (hk : k ≤ 2) (hct : st.count ≤ 65535) (hnew : ¬ (st.kind ≠ k ∨ st.count = 0 ∨ st.count = 65535)) :
    Calls Tryd.prog 67 #[.pointer (some ⟨q, 0, none⟩), .int .i64 (k : Int)] w fun e w' => e = .returned (.tuple #[]) ∧ WrAt w' B q (runS st k) ∧ Kw B w w' := by
    have hpost : runS st k = ⟨st.laid.take (st.laid.length - 2) ++ le2 (st.count + 1), k, st.count + 1⟩ := by unfold runS; rw [if_neg hnew]
    rw [hpost]
    have hBw := hW.size
    obtain ⟨g1, cc, hq, hown, hBq, hby⟩ := hW
    obtain ⟨laid, kind, count⟩ := st
    simp only at *
    obtain ⟨n, hn⟩ : ∃ n, laid.length = n := ⟨_, rfl⟩
    obtain ⟨k1, k2, k3⟩ : kind = k ∧ count ≠ 0 ∧ count ≠ 65535 := by omega
    subst k1
    have k2' : ((count : Int) == 0) = false := by simp; omega
    have k3' : ((count : Int) == 65535) = false := by simp; omega
    have hc1 : count + 1 ≤ 65535 := by omega
    have HN : Hid (laid.length = n) := hn
    rw [hn] at hl hl2 hown hq
    obtain ⟨c0, c1, c2, f0, f1, f2⟩ := blk3_cells hq
    have HQ2 : Hid _ := hq
    have HO2 : Hid (Own w B g1 n cc laid) := hown
    clear hq hown hnew hn hpost k2 k3
    go_enter Tryd.func67, Tryd.ntmps67
    go_upto_region 5 with fail
    have HQ5 : Hid ((w.setCell ⟨q, 2, none⟩ (.int .i64 ((count : Int) + 1))).heap[q]? = some (.cells #[.slice (some ⟨g1, 0, none⟩) n cc, .int .i64 (kind : Int), .int .i64 ((count : Int) + 1)] 82 (0, 0))) := blk3_2 HQ2.out _
    have hg5 : w.grownBy (w.setCell ⟨q, 2, none⟩ (.int .i64 ((count : Int) + 1))) (some q) := set_grown w q 2 _
    have HO5 : Hid (Own (w.setCell ⟨q, 2, none⟩ (.int .i64 ((count : Int) + 1))).drew B g1 n cc laid) := Own.drew1 (Own.apart HO2.out hg5 (Own.ne HO2.out HQ2.out (by decide)).symm)
    have HG5 : Hid _ := hg5
    have HF : Hid ((((count : Int) + 1) / 2 ^ (8 * ((2 : Nat) : Int)).toNat == 0) = true) := fits_pow ((count : Int) + 1) 2 (by omega) (by omega)
    clear hg5 c0 c1 c2 f0 f1 f2
    obtain ⟨m, hm⟩ : ∃ m, n - 2 = m := ⟨_, rfl⟩
    have wr5 : IntKind.i64.wrap ((n : Int) - 2) = (m : Int) := by rw [IntKind.wrap_i64]; omega
    have HM : Hid (n - 2 = m) := hm
    have hm2 : m + 2 ≤ n := by omega
    clear hm
    have wr6 : IntKind.u64.wrap ((count : Int) + 1) = (count : Int) + 1 := by rw [IntKind.wrap_u64]; omega
    refine wp_region_held_drew (S := (fun x : World => x.cell? ⟨q, 0, none⟩ = some (.slice (some ⟨g1, 0, none⟩) n cc) ∧ x.cell? ⟨q, 2, none⟩ = some (.int .i64 ((count : Int) + 1)))) (by kernel_rfl) (⟨(blk3_cells HQ5.out).1, (blk3_cells HQ5.out).2.2.1⟩) (fun hHeld => ?_)
    refine wpAnyH_take (i := 0) (oi := { dst := some 43, op := Op.move (Operand.tmp 0), type := 80, pos := "pack.go:112", after := #[], guard := none }) (v := ?v0b) rfl (by kernel_rfl) (by kernel_rfl) (by kernel_rfl) (fun _ _ _ h => h) (Or.inl ⟨by rfl, ?y0b⟩) (by assumption) ?r0b
    case y0b => (intro x hx; (try dsimp only at hx); go_simp; try with_reducible rfl)
    try simp only [Act.put, List.setIfInBounds_toArray, List.set_cons_zero, List.set_cons_succ]
    refine wpAnyH_take (i := 1) (oi := { dst := some 44, op := Op.nilCheck (Operand.tmp 43), type := 0, pos := "pack.go:112", after := #[{ on := 0, ground := Ground.data }], guard := none }) (v := ?v1b) rfl (by kernel_rfl) (by kernel_rfl) (by kernel_rfl) (fun _ _ _ h => h) (Or.inl ⟨by rfl, ?y1b⟩) (by assumption) ?r1b
    case y1b => (intro x hx; (try dsimp only at hx); go_simp; try with_reducible rfl)
    try simp only [Act.put, List.setIfInBounds_toArray, List.set_cons_zero, List.set_cons_succ]
    refine wpAnyH_take (i := 2) (oi := { dst := some 45, op := Op.fieldAddr 82 (Operand.tmp 44) 0, type := 0, pos := "pack.go:112", after := #[{ on := 1, ground := Ground.data }], guard := none }) (v := ?v2b) rfl (by kernel_rfl) (by kernel_rfl) (by kernel_rfl) (fun _ _ _ h => h) (Or.inl ⟨by rfl, ?y2b⟩) (by assumption) ?r2b
    case y2b => (intro x hx; (try dsimp only at hx); go_simp; try with_reducible rfl)
    try simp only [Act.put, List.setIfInBounds_toArray, List.set_cons_zero, List.set_cons_succ]
    refine wpAnyH_take (i := 3) (oi := { dst := some 46, op := Op.load 22 (Operand.tmp 45), type := 22, pos := "pack.go:112", after := #[{ on := 2, ground := Ground.data }], guard := none }) (v := ?v3b) rfl (by kernel_rfl) (by kernel_rfl) (by kernel_rfl) (fun _ _ _ h => h) (Or.inl ⟨by rfl, ?y3b⟩) (by assumption) ?r3b
    case y3b => (intro x hx; (try dsimp only at hx); go_simp; try with_reducible rfl)
    try simp only [Act.put, List.setIfInBounds_toArray, List.set_cons_zero, List.set_cons_succ]
    refine wpAnyH_take (i := 4) (oi := { dst := some 47, op := Op.move (Operand.tmp 0), type := 80, pos := "pack.go:112", after := #[], guard := none }) (v := ?v4b) rfl (by kernel_rfl) (by kernel_rfl) (by kernel_rfl) (fun _ _ _ h => h) (Or.inl ⟨by rfl, ?y4b⟩) (by assumption) ?r4b
    case y4b => (intro x hx; (try dsimp only at hx); go_simp; try with_reducible rfl)
    try simp only [Act.put, List.setIfInBounds_toArray, List.set_cons_zero, List.set_cons_succ]
    refine wpAnyH_take (i := 5) (oi := { dst := some 48, op := Op.nilCheck (Operand.tmp 47), type := 0, pos := "pack.go:112", after := #[{ on := 4, ground := Ground.data }], guard := none }) (v := ?v5b) rfl (by kernel_rfl) (by kernel_rfl) (by kernel_rfl) (fun _ _ _ h => h) (Or.inl ⟨by rfl, ?y5b⟩) (by assumption) ?r5b
    case y5b => (intro x hx; (try dsimp only at hx); go_simp; try with_reducible rfl)
    try simp only [Act.put, List.setIfInBounds_toArray, List.set_cons_zero, List.set_cons_succ]
    refine wpAnyH_take (i := 6) (oi := { dst := some 49, op := Op.fieldAddr 82 (Operand.tmp 48) 0, type := 0, pos := "pack.go:112", after := #[{ on := 5, ground := Ground.data }], guard := none }) (v := ?v6b) rfl (by kernel_rfl) (by kernel_rfl) (by kernel_rfl) (fun _ _ _ h => h) (Or.inl ⟨by rfl, ?y6b⟩) (by assumption) ?r6b
    case y6b => (intro x hx; (try dsimp only at hx); go_simp; try with_reducible rfl)
    try simp only [Act.put, List.setIfInBounds_toArray, List.set_cons_zero, List.set_cons_succ]
    refine wpAnyH_take (i := 7) (oi := { dst := some 50, op := Op.load 22 (Operand.tmp 49), type := 22, pos := "pack.go:112", after := #[{ on := 6, ground := Ground.data }], guard := none }) (v := ?v7b) rfl (by kernel_rfl) (by kernel_rfl) (by kernel_rfl) (fun _ _ _ h => h) (Or.inl ⟨by rfl, ?y7b⟩) (by assumption) ?r7b
    case y7b => (intro x hx; (try dsimp only at hx); go_simp; try with_reducible rfl)
    try simp only [Act.put, List.setIfInBounds_toArray, List.set_cons_zero, List.set_cons_succ]
    refine wpAnyH_take (i := 8) (oi := { dst := some 51, op := Op.call { callee := Callee.builtin Builtin.len, args := #[Operand.tmp 50], argTypes := #[22] }, type := 3, pos := "pack.go:112", after := #[{ on := 7, ground := Ground.data }], guard := none }) (v := ?v8b) rfl (by kernel_rfl) (by kernel_rfl) (by kernel_rfl) (fun _ _ _ h => h) (Or.inl ⟨by rfl, ?y8b⟩) (by assumption) ?r8b
    case y8b => (intro x hx; (try dsimp only at hx); go_simp; try with_reducible rfl)
    try simp only [Act.put, List.setIfInBounds_toArray, List.set_cons_zero, List.set_cons_succ]
    refine wpAnyH_take (i := 9) (oi := { dst := some 52, op := Op.binOp BinOp.sub 3 (Operand.tmp 51) (Operand.const (Value.int IntKind.i64 2)) 3, type := 3, pos := "pack.go:112", after := #[{ on := 8, ground := Ground.data }], guard := none }) (v := ?v9b) rfl (by kernel_rfl) (by kernel_rfl) (by kernel_rfl) (fun _ _ _ h => h) (Or.inl ⟨by rfl, ?y9b⟩) (by assumption) ?r9b
    case y9b => (intro x hx; (try dsimp only at hx); go_simp; try with_reducible rfl)
    try simp only [Act.put, List.setIfInBounds_toArray, List.set_cons_zero, List.set_cons_succ]
    refine wpAnyH_take (i := 10) (oi := { dst := some 53, op := Op.move (Operand.tmp 0), type := 80, pos := "pack.go:112", after := #[], guard := none }) (v := ?v10b) rfl (by kernel_rfl) (by kernel_rfl) (by kernel_rfl) (fun _ _ _ h => h) (Or.inl ⟨by rfl, ?y10b⟩) (by assumption) ?r10b
    case y10b => (intro x hx; (try dsimp only at hx); go_simp; try with_reducible rfl)
    try simp only [Act.put, List.setIfInBounds_toArray, List.set_cons_zero, List.set_cons_succ]
    refine wpAnyH_take (i := 11) (oi := { dst := some 54, op := Op.nilCheck (Operand.tmp 53), type := 0, pos := "pack.go:112", after := #[{ on := 10, ground := Ground.data }], guard := none }) (v := ?v11b) rfl (by kernel_rfl) (by kernel_rfl) (by kernel_rfl) (fun _ _ _ h => h) (Or.inl ⟨by rfl, ?y11b⟩) (by assumption) ?r11b
    case y11b => (intro x hx; (try dsimp only at hx); go_simp; try with_reducible rfl)
    try simp only [Act.put, List.setIfInBounds_toArray, List.set_cons_zero, List.set_cons_succ]
    refine wpAnyH_take (i := 12) (oi := { dst := some 55, op := Op.fieldAddr 82 (Operand.tmp 54) 2, type := 0, pos := "pack.go:112", after := #[{ on := 11, ground := Ground.data }], guard := none }) (v := ?v12b) rfl (by kernel_rfl) (by kernel_rfl) (by kernel_rfl) (fun _ _ _ h => h) (Or.inl ⟨by rfl, ?y12b⟩) (by assumption) ?r12b
    case y12b => (intro x hx; (try dsimp only at hx); go_simp; try with_reducible rfl)
    try simp only [Act.put, List.setIfInBounds_toArray, List.set_cons_zero, List.set_cons_succ]
    refine wpAnyH_take (i := 13) (oi := { dst := some 56, op := Op.load 3 (Operand.tmp 55), type := 3, pos := "pack.go:112", after := #[{ on := 12, ground := Ground.data }], guard := none }) (v := ?v13b) rfl (by kernel_rfl) (by kernel_rfl) (by kernel_rfl) (fun _ _ _ h => h) (Or.inl ⟨by rfl, ?y13b⟩) (by assumption) ?r13b
    case y13b => (intro x hx; (try dsimp only at hx); go_simp; try with_reducible rfl)
    try simp only [Act.put, List.setIfInBounds_toArray, List.set_cons_zero, List.set_cons_succ]
    refine wpAnyH_take (i := 14) (oi := { dst := some 57, op := Op.convert 3 108 (Operand.tmp 56), type := 108, pos := "pack.go:112", after := #[{ on := 13, ground := Ground.data }], guard := none }) (v := ?v14b) rfl (by kernel_rfl) (by kernel_rfl) (by kernel_rfl) (fun _ _ _ h => h) (Or.inl ⟨by rfl, ?y14b⟩) (by assumption) ?r14b
    case y14b => (intro x hx; (try dsimp only at hx); go_simp; try with_reducible rfl)
    try simp only [Act.put, List.setIfInBounds_toArray, List.set_cons_zero, List.set_cons_succ]
    refine wpAnyH_ready (rs := [15]) (by kernel_rfl) (by simp) ?_
    refine AllReadyH.cons (o := { dst := some 58, op := Op.call { callee := Callee.value (Operand.func 62), args := #[Operand.tmp 46, Operand.tmp 52, Operand.const (Value.int IntKind.i64 2), Operand.tmp 57], argTypes := #[22, 3, 3, 108] }, type := 33, pos := "pack.go:112", after := #[{ on := 3, ground := Ground.data }, { on := 9, ground := Ground.data }, { on := 14, ground := Ground.data }], guard := none }) rfl (fun K hK => ?_) AllReadyH.nil
    go_simp
    go_at_call 62
    refine (put_ok B g1 n cc n m 2 ((count : Int) + 1) laid _ (by omega) (by omega) (by omega) HF.out hm2 (Nat.le_refl _) (by omega) HO5.out).mono ?_
    rintro e w6 ⟨rfl, own6, grow6⟩
    have HO6 : Hid (Own w6 B g1 n cc (putL laid m ((count : Int) + 1) 2)) := own6
    have HQ6 : Hid _ := (grow6.block q (Array.getElem?_eq_some_iff.1 HQ5.out).1 (fun e => (Own.ne HO5.out HQ5.out (by decide)) (by cases e; rfl))).trans HQ5.out
    have HG6 : Hid _ := grow6
    have hSnew := And.intro (blk3_cells HQ6.out).1 (blk3_cells HQ6.out).2.2.1
    clear own6 grow6
    go_wp2_with fail
    refine hK.out _ _ hSnew (fun hHeld15 => ?_)
    clear hK K hSnew
    clear hHeld
    have hHeld := hHeld15
    clear hHeld15
    try simp only [Act.put, List.setIfInBounds_toArray, List.set_cons_zero, List.set_cons_succ]
    refine wpAnyH_done (by kernel_rfl) ?_ _
    go_wp2
    go_end0
    have e9 : putL laid m ((count : Int) + 1) 2 = laid.take (n - 2) ++ le2 (count + 1) := by
      rw [← HM.out]
      have := put2 laid (count + 1) (by omega) (by rw [HN.out]; omega)
      rw [HN.out] at this
      simpa using this
    have o6 := HO6.out
    rw [e9] at o6
    have hlen : (laid.take (n - 2) ++ le2 (count + 1)).length = n := by simp [HN.out, le2]; omega
    rw [HN.out]
    refine ⟨rfl, ⟨g1, cc, ?_, ?_, hBq, ?_⟩, ?_⟩
    · simp only [hlen]; exact HQ6.out
    · simp only [hlen]; exact o6
    · intro x hx
      simp only [le2, List.mem_append, List.mem_cons, List.not_mem_nil, or_false] at hx
      rcases hx with hx | rfl | rfl
      · exact hby x (List.mem_of_mem_take hx)
      all_goals omega
    · exact (Kw.of_box HQ2.out hBq hBw HG5.out).trans ((Kw.drewl _ _).trans (Kw.of_own HO5.out (Nat.le_trans hBw HG5.out.size) HG6.out))

theorem run_any (B q k : Nat) (st : St) (w : World) (hW : WrAt w B q st) (hl : st.laid.length ≤ 900000000) (hl2 : 2 ≤ st.laid.length) (hk : k ≤ 2) (hct : st.count ≤ 65535) :
    Calls Tryd.prog 67 #[.pointer (some ⟨q, 0, none⟩), .int .i64 (k : Int)] w fun e w' => e = .returned (.tuple #[]) ∧ WrAt w' B q (runS st k) ∧ Kw B w w' := by
  by_cases hnew : st.kind ≠ k ∨ st.count = 0 ∨ st.count = 65535
  · have hpost : runS st k = ⟨st.laid ++ ([(k : Int)] ++ le2 1), k, 1⟩ := by unfold runS; rw [if_pos hnew]
    rw [hpost]
    obtain ⟨laid, kind, count⟩ := st
    simp only at *
    by_cases h1 : kind = k
    · by_cases h2 : count = 0
      · exact run_new2 B q k laid kind count w hW hl hk (by simp [h1]) (by simp [h2])
      · exact run_new3 B q k laid kind count w hW hl hk (by simp [h1]) (by simp; omega) (by simp; omega)
    · exact run_new1 B q k laid kind count w hW hl hk (by simp; omega)
  · exact run_moreN B q k st w hW hl hl2 hk hct hnew

end Go.Proofs.YteefekhlbillfaaDoor
