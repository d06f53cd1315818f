/-
  SEAT YteefekhlbillfaaDoor: Check, and the reference's.
-/
import Derived.Test.YteefekhlbillfaaDoorA
import Derived.Deep.RegionHeld3
import Derived.Deep.DeepCutAuto
namespace Go.Proofs.YteefekhlbillfaaDoor
open Go.RowKit
set_option linter.unusedVariables false

theorem grown_of {w w' : World} (h : Below w.heap.size w w') (row : Option Nat) : w.grownBy w' row := ⟨h.os, h.tape, h.output, h.size, fun k hk _ => h.block k hk⟩
theorem below_of {w w' : World} (h : w.grownBy w' none) : Below w.heap.size w w' := ⟨h.os, h.tape, h.output, h.size, fun k hk => h.block k hk (by simp)⟩
theorem drew_grown (w : World) (r : Option Nat) : w.grownBy w.drew r := ⟨rfl, rfl, rfl, Nat.le_refl _, fun _ _ _ => rfl⟩
theorem below_trans {a b c : World} (h : Below a.heap.size a b) (k : Below b.heap.size b c) : Below a.heap.size a c := h.trans (k.mono h.size)
theorem below_alloc (w : World) (b) : Below w.heap.size w (w.alloc b) := (Below.refl _ _).alloc (Nat.le_refl _) _

theorem held3 {w x : World} {b p s : Int} (q : (w.alloc (.cells #[.int .i64 b, .int .i64 p, .int .i64 s] 27)).grownBy x none) :
    (fun x : World => (w.alloc (.cells #[.int .i64 b, .int .i64 p, .int .i64 s] 27)).grownBy x none ∧ x.cell? ⟨w.heap.size, 0, none⟩ = some (.int .i64 b) ∧ x.cell? ⟨w.heap.size, 1, none⟩ = some (.int .i64 p) ∧ x.cell? ⟨w.heap.size, 2, none⟩ = some (.int .i64 s)) x := ⟨q, box3 (below_of q)⟩

set_option maxHeartbeats 1000000 in
theorem long_any (b p s : Int) (w : World) (h0 : 1 ≤ s) (h1 : s ≤ 8) : Calls Tryd.prog 50 #[.agg #[.int .i64 b, .int .i64 p, .int .i64 s]] w fun e w' => e = .returned (.int .i64 (256 * s + (54 + 3 * s))) ∧ Below w.heap.size w w' := by
  go_enter Tryd.func50, Tryd.ntmps50
  go_wp2
  go_region_held3 (fun x => (w.alloc (.cells #[.int .i64 b, .int .i64 p, .int .i64 s] 27)).grownBy x none ∧ x.cell? ⟨w.heap.size, 0, none⟩ = some (.int .i64 b) ∧ x.cell? ⟨w.heap.size, 1, none⟩ = some (.int .i64 p) ∧ x.cell? ⟨w.heap.size, 2, none⟩ = some (.int .i64 s))
    ((first | exact held3 (drew_grown _ _) | exact held3 (grownBy_trans (drew_grown _ none) (grown_of b1 none))))
    ((first | (go_at_call 69; refine (rspare_any _ _ _ _ h0 h1).mono ?_; rintro e u1 ⟨rfl, b1⟩)))
  all_goals go_wp2
  all_goals go_ret
  all_goals exact ⟨ret_int (by simp only [IntKind.wrap_i64]; omega), below_trans (below_alloc w _) (below_of (grownBy_trans (drew_grown _ none) (grown_of b1 none)))⟩

theorem box5 {w u : World} {b p s : Int} {vc vm : Value} (h : (w.alloc (.cells #[.int .i64 b, .int .i64 p, .int .i64 s, vc, vm] 30)).grownBy u none) :
    u.cell? ⟨w.heap.size, 0, none⟩ = some (.int .i64 b) ∧ u.cell? ⟨w.heap.size, 1, none⟩ = some (.int .i64 p) ∧ u.cell? ⟨w.heap.size, 2, none⟩ = some (.int .i64 s) ∧ u.cell? ⟨w.heap.size, 3, none⟩ = some vc ∧ u.cell? ⟨w.heap.size, 4, none⟩ = some vm := by
  refine ⟨?_, ?_, ?_, ?_, ?_⟩ <;> exact h.cell (by simp) (by simp)

theorem held5 {w x : World} {b p s : Int} {vc vm : Value} (q : (w.alloc (.cells #[.int .i64 b, .int .i64 p, .int .i64 s, vc, vm] 30)).grownBy x none) :
    (fun x : World => (w.alloc (.cells #[.int .i64 b, .int .i64 p, .int .i64 s, vc, vm] 30)).grownBy x none ∧ x.cell? ⟨w.heap.size, 0, none⟩ = some (.int .i64 b) ∧ x.cell? ⟨w.heap.size, 1, none⟩ = some (.int .i64 p) ∧ x.cell? ⟨w.heap.size, 2, none⟩ = some (.int .i64 s) ∧ x.cell? ⟨w.heap.size, 3, none⟩ = some vc ∧ x.cell? ⟨w.heap.size, 4, none⟩ = some vm) x := ⟨q, box5 q⟩

/-- How many bytes a page has. -/
def pgL (s : Int) : Int := 256 * s + (54 + 3 * s)

/-- What Check answers. -/
def chkE (b p s : Int) (n m : Nat) : Int := if Fits b p s then (if (n : Int) = b * p * pgL s ∧ (m : Int) = b then 0 else 47) else 40

theorem mul_small {x y : Int} (h0 : 0 ≤ x) (h1 : x ≤ 65536) (h2 : 0 ≤ y) (h3 : y ≤ 2126) : 0 ≤ x * y ∧ x * y ≤ 139329536 :=
  ⟨Int.mul_nonneg h0 h2, by have := Int.mul_le_mul h1 h3 h2 (by omega : (0 : Int) ≤ 65536); omega⟩

set_option maxHeartbeats 2000000 in
set_option maxRecDepth 100000 in
theorem check_any (b p s : Int) (a a' : Option Addr) (n c m c' : Nat) (w : World) (hn : n ≤ 140737488355000) (hm : m ≤ 140737488355000) :
    Calls Tryd.prog 14 #[.agg #[.int .i64 b, .int .i64 p, .int .i64 s, .slice a n c, .slice a' m c']] w fun e w' => e = .returned (.int .i64 (chkE b p s n m)) ∧ Below w.heap.size w w' := by
  have hb0 : Below w.heap.size w (w.alloc (.cells #[.int .i64 b, .int .i64 p, .int .i64 s, .slice a n c, .slice a' m c'] 30)) := below_alloc w _
  cases hf : Fits b p s with
  | false =>
    have e1 : spN b p s = 0 := by unfold spN; rw [hf]; rfl
    have e2 : spE b p s = 40 := by unfold spE; rw [hf]; rfl
    unfold chkE
    rw [hf]
    go_enter Tryd.func14, Tryd.ntmps14
    go_wp2_with (go_at_call 35; refine (spare_any _ _ _ _).mono ?_; rintro e u1 ⟨rfl, bel1⟩; rw [e1, e2])
    go_ret
    exact ⟨rfl, below_trans hb0 bel1⟩
  | true =>
    have e1 : spN b p s = 54 + 3 * s := by unfold spN; rw [hf]; rfl
    have e2 : spE b p s = 0 := by unfold spE; rw [hf]; rfl
    obtain ⟨q1, q2, q3, q4, q5, q6, q7, q8⟩ := fits_all hf
    have hml := mul_small (y := pgL s) q7 q8 (by unfold pgL; omega) (by unfold pgL; omega)
    obtain ⟨P, hP⟩ : ∃ P, b * p = P := ⟨_, rfl⟩
    obtain ⟨L, hL⟩ : ∃ L, 256 * s + (54 + 3 * s) = L := ⟨_, rfl⟩
    have hL' : pgL s = L := hL
    rw [hP, hL'] at hml
    obtain ⟨M, hM⟩ : ∃ M, P * L = M := ⟨_, rfl⟩
    rw [hM] at hml
    unfold chkE
    rw [hf, hP, hL', hM]
    have wP : IntKind.i64.wrap (b * p) = P := by rw [IntKind.wrap_i64]; omega
    have wM : IntKind.i64.wrap (P * L) = M := by rw [IntKind.wrap_i64]; omega
    have HP : Hid (b * p = P) := hP
    have HL : Hid (256 * s + (54 + 3 * s) = L) := hL
    clear hP hL hL' hM
    cases k1 : ((n : Int) == M) with
    | true =>
      have k1' : (n : Int) = M := by simpa using k1
      cases k2 : ((m : Int) == b) with
      | true =>
        have k3 : (m : Int) = b := by simpa using k2
        simp only [if_true, if_pos (show (n : Int) = M ∧ (m : Int) = b from ⟨k1', k3⟩)]
        have k4 : ((n : Int) != M) = false := by simp [k1']
        have k5 : ((m : Int) != b) = false := by simp [k3]
        clear k1' k3 k1 k2
        go_enter Tryd.func14, Tryd.ntmps14
        go_upto_region 4 with (go_at_call 35; refine (spare_any _ _ _ _).mono ?_; rintro e u1 ⟨rfl, bel1⟩; rw [e1, e2]; have g1 := grown_of bel1 none)
        refine wp_region_held_drew (S := (fun x : World => (w.alloc (.cells #[.int .i64 b, .int .i64 p, .int .i64 s, .slice a n c, .slice a' m c'] 30)).grownBy x none ∧ x.cell? ⟨w.heap.size, 0, none⟩ = some (.int .i64 b) ∧ x.cell? ⟨w.heap.size, 1, none⟩ = some (.int .i64 p) ∧ x.cell? ⟨w.heap.size, 2, none⟩ = some (.int .i64 s) ∧ x.cell? ⟨w.heap.size, 3, none⟩ = some (.slice a n c) ∧ x.cell? ⟨w.heap.size, 4, none⟩ = some (.slice a' m c'))) (by kernel_rfl) (held5 (grownBy_trans g1 (drew_grown _ _))) (fun hHeld => ?_)
        refine wpAnyH_take (i := 0) (oi := { dst := some 14, op := Op.fieldAddr 30 (Operand.tmp 1) 1, type := 0, pos := "image.go:21", after := #[], guard := none }) (v := ?v0711) rfl (by kernel_rfl) (by kernel_rfl) (by kernel_rfl) (fun _ _ _ h => h) (Or.inl ⟨by rfl, ?y0711⟩) (by assumption) ?r0711
        case y0711 => (intro x hx; (try dsimp only at hx); go_simp; try with_reducible rfl)
        try simp only [Act.put, List.setIfInBounds_toArray, List.set_cons_zero, List.set_cons_succ]
        refine wpAnyH_take (i := 1) (oi := { dst := some 15, op := Op.load 22 (Operand.tmp 14), type := 22, pos := "image.go:21", after := #[{ on := 0, ground := Ground.data }], guard := none }) (v := ?v1711) rfl (by kernel_rfl) (by kernel_rfl) (by kernel_rfl) (fun _ _ _ h => h) (Or.inl ⟨by rfl, ?y1711⟩) (by assumption) ?r1711
        case y1711 => (intro x hx; (try dsimp only at hx); go_simp; try with_reducible rfl)
        try simp only [Act.put, List.setIfInBounds_toArray, List.set_cons_zero, List.set_cons_succ]
        refine wpAnyH_take (i := 2) (oi := { dst := some 16, op := Op.call { callee := Callee.builtin Builtin.len, args := #[Operand.tmp 15], argTypes := #[22] }, type := 3, pos := "image.go:21", after := #[{ on := 1, ground := Ground.data }], guard := none }) (v := ?v2711) rfl (by kernel_rfl) (by kernel_rfl) (by kernel_rfl) (fun _ _ _ h => h) (Or.inl ⟨by rfl, ?y2711⟩) (by assumption) ?r2711
        case y2711 => (intro x hx; (try dsimp only at hx); go_simp; try with_reducible rfl)
        try simp only [Act.put, List.setIfInBounds_toArray, List.set_cons_zero, List.set_cons_succ]
        refine wpAnyH_take (i := 3) (oi := { dst := some 17, op := Op.fieldAddr 30 (Operand.tmp 1) 0, type := 0, pos := "image.go:21", after := #[], guard := none }) (v := ?v3711) rfl (by kernel_rfl) (by kernel_rfl) (by kernel_rfl) (fun _ _ _ h => h) (Or.inl ⟨by rfl, ?y3711⟩) (by assumption) ?r3711
        case y3711 => (intro x hx; (try dsimp only at hx); go_simp; try with_reducible rfl)
        try simp only [Act.put, List.setIfInBounds_toArray, List.set_cons_zero, List.set_cons_succ]
        refine wpAnyH_take (i := 4) (oi := { dst := some 18, op := Op.load 27 (Operand.tmp 17), type := 27, pos := "image.go:21", after := #[{ on := 3, ground := Ground.data }], guard := none }) (v := ?v4711) rfl (by kernel_rfl) (by kernel_rfl) (by kernel_rfl) (fun _ _ _ h => h) (Or.inl ⟨by rfl, ?y4711⟩) (by assumption) ?r4711
        case y4711 => (intro x hx; (try dsimp only at hx); go_simp; try with_reducible rfl)
        try simp only [Act.put, List.setIfInBounds_toArray, List.set_cons_zero, List.set_cons_succ]
        refine wpAnyH_take (i := 6) (oi := { dst := some 20, op := Op.fieldAddr 30 (Operand.tmp 1) 0, type := 0, pos := "image.go:21", after := #[], guard := none }) (v := ?v6711) rfl (by kernel_rfl) (by kernel_rfl) (by kernel_rfl) (fun _ _ _ h => h) (Or.inl ⟨by rfl, ?y6711⟩) (by assumption) ?r6711
        case y6711 => (intro x hx; (try dsimp only at hx); go_simp; try with_reducible rfl)
        try simp only [Act.put, List.setIfInBounds_toArray, List.set_cons_zero, List.set_cons_succ]
        refine wpAnyH_take (i := 7) (oi := { dst := some 21, op := Op.load 27 (Operand.tmp 20), type := 27, pos := "image.go:21", after := #[{ on := 6, ground := Ground.data }], guard := none }) (v := ?v7711) rfl (by kernel_rfl) (by kernel_rfl) (by kernel_rfl) (fun _ _ _ h => h) (Or.inl ⟨by rfl, ?y7711⟩) (by assumption) ?r7711
        case y7711 => (intro x hx; (try dsimp only at hx); go_simp; try with_reducible rfl)
        try simp only [Act.put, List.setIfInBounds_toArray, List.set_cons_zero, List.set_cons_succ]
        refine wpAnyH_ready (rs := [5]) (by kernel_rfl) (by simp) ?_
        refine AllReadyH.cons (o := { dst := some 19, op := Op.call { callee := Callee.value (Operand.func 36), args := #[Operand.tmp 18], argTypes := #[27] }, type := 3, pos := "image.go:21", after := #[{ on := 4, ground := Ground.data }], guard := none }) rfl (fun K hK => ?_) AllReadyH.nil
        go_simp
        go_at_call 36
        refine (pagesIn_any _ _ _ _ q7 q8).mono ?_
        rintro e u2 ⟨rfl, b2⟩
        rw [HP.out]
        have g2 := grownBy_trans (grownBy_trans g1 (drew_grown _ none)) (grown_of b2 none)
        have hSnew := held5 g2
        go_wp2_with fail
        refine hK.out _ _ hSnew (fun hHeld5 => ?_)
        clear hK K hSnew
        clear hHeld
        have hHeld := hHeld5
        clear hHeld5
        try simp only [Act.put, List.setIfInBounds_toArray, List.set_cons_zero, List.set_cons_succ]
        refine wpAnyH_ready (rs := [8]) (by kernel_rfl) (by simp) ?_
        refine AllReadyH.cons (o := { dst := some 22, op := Op.call { callee := Callee.value (Operand.func 37), args := #[Operand.tmp 21], argTypes := #[27] }, type := 3, pos := "image.go:21", after := #[{ on := 7, ground := Ground.data }, { on := 5, ground := Ground.chain }], guard := none }) rfl (fun K hK => ?_) AllReadyH.nil
        go_simp
        go_at_call 37
        refine (pageBytes_any _ _ _ _ hf).mono ?_
        rintro e u3 ⟨rfl, b3⟩
        rw [HL.out]
        have g3 := grownBy_trans g2 (grown_of b3 none)
        have hSnew := held5 g3
        go_wp2_with fail
        refine hK.out _ _ hSnew (fun hHeld8 => ?_)
        clear hK K hSnew
        clear hHeld
        have hHeld := hHeld8
        clear hHeld8
        try simp only [Act.put, List.setIfInBounds_toArray, List.set_cons_zero, List.set_cons_succ]
        refine wpAnyH_take (i := 9) (oi := { dst := some 23, op := Op.binOp BinOp.mul 3 (Operand.tmp 19) (Operand.tmp 22) 3, type := 3, pos := "image.go:21", after := #[{ on := 5, ground := Ground.data }, { on := 8, ground := Ground.data }], guard := none }) (v := ?v9711) rfl (by kernel_rfl) (by kernel_rfl) (by kernel_rfl) (fun _ _ _ h => h) (Or.inl ⟨by rfl, ?y9711⟩) (by assumption) ?r9711
        case y9711 => (intro x hx; (try dsimp only at hx); go_simp; try with_reducible rfl)
        try simp only [Act.put, List.setIfInBounds_toArray, List.set_cons_zero, List.set_cons_succ]
        refine wpAnyH_take (i := 10) (oi := { dst := some 24, op := Op.binOp BinOp.neq 3 (Operand.tmp 16) (Operand.tmp 23) 3, type := 4, pos := "image.go:21", after := #[{ on := 2, ground := Ground.data }, { on := 9, ground := Ground.data }], guard := none }) (v := ?v10711) rfl (by kernel_rfl) (by kernel_rfl) (by kernel_rfl) (fun _ _ _ h => h) (Or.inl ⟨by rfl, ?y10711⟩) (by assumption) ?r10711
        case y10711 => (intro x hx; (try dsimp only at hx); go_simp; try with_reducible rfl)
        try simp only [Act.put, List.setIfInBounds_toArray, List.set_cons_zero, List.set_cons_succ]
        refine wpAnyH_take (i := 11) (oi := { dst := some 25, op := Op.move (Operand.tmp 24), type := 4, pos := "image.go:21", after := #[{ on := 10, ground := Ground.data }, { on := 8, ground := Ground.chain }], guard := none }) (v := ?v11711) rfl (by kernel_rfl) (by kernel_rfl) (by kernel_rfl) (fun _ _ _ h => h) (Or.inl ⟨by rfl, ?y11711⟩) (by assumption) ?r11711
        case y11711 => (intro x hx; (try dsimp only at hx); go_simp; try with_reducible rfl)
        try simp only [Act.put, List.setIfInBounds_toArray, List.set_cons_zero, List.set_cons_succ]
        refine wpAnyH_take (i := 12) (oi := { dst := some 26, op := Op.fieldAddr 30 (Operand.tmp 1) 2, type := 0, pos := "image.go:21", after := #[{ on := 11, ground := Ground.guard }], guard := some (11, false) }) (v := ?v12711) rfl (by kernel_rfl) (by kernel_rfl) (by kernel_rfl) (fun _ _ _ h => h) (Or.inl ⟨by rfl, ?y12711⟩) (by assumption) ?r12711
        case y12711 => (intro x hx; (try dsimp only at hx); go_simp; try with_reducible rfl)
        try simp only [Act.put, List.setIfInBounds_toArray, List.set_cons_zero, List.set_cons_succ]
        refine wpAnyH_take (i := 13) (oi := { dst := some 27, op := Op.load 28 (Operand.tmp 26), type := 28, pos := "image.go:21", after := #[{ on := 12, ground := Ground.data }, { on := 11, ground := Ground.guard }], guard := some (11, false) }) (v := ?v13711) rfl (by kernel_rfl) (by kernel_rfl) (by kernel_rfl) (fun _ _ _ h => h) (Or.inl ⟨by rfl, ?y13711⟩) (by assumption) ?r13711
        case y13711 => (intro x hx; (try dsimp only at hx); go_simp; try with_reducible rfl)
        try simp only [Act.put, List.setIfInBounds_toArray, List.set_cons_zero, List.set_cons_succ]
        refine wpAnyH_take (i := 14) (oi := { dst := some 28, op := Op.call { callee := Callee.builtin Builtin.len, args := #[Operand.tmp 27], argTypes := #[28] }, type := 3, pos := "image.go:21", after := #[{ on := 13, ground := Ground.data }, { on := 11, ground := Ground.guard }], guard := some (11, false) }) (v := ?v14711) rfl (by kernel_rfl) (by kernel_rfl) (by kernel_rfl) (fun _ _ _ h => h) (Or.inl ⟨by rfl, ?y14711⟩) (by assumption) ?r14711
        case y14711 => (intro x hx; (try dsimp only at hx); go_simp; try with_reducible rfl)
        try simp only [Act.put, List.setIfInBounds_toArray, List.set_cons_zero, List.set_cons_succ]
        refine wpAnyH_take (i := 15) (oi := { dst := some 29, op := Op.fieldAddr 30 (Operand.tmp 1) 0, type := 0, pos := "image.go:21", after := #[{ on := 11, ground := Ground.guard }], guard := some (11, false) }) (v := ?v15711) rfl (by kernel_rfl) (by kernel_rfl) (by kernel_rfl) (fun _ _ _ h => h) (Or.inl ⟨by rfl, ?y15711⟩) (by assumption) ?r15711
        case y15711 => (intro x hx; (try dsimp only at hx); go_simp; try with_reducible rfl)
        try simp only [Act.put, List.setIfInBounds_toArray, List.set_cons_zero, List.set_cons_succ]
        refine wpAnyH_take (i := 16) (oi := { dst := some 30, op := Op.fieldAddr 27 (Operand.tmp 29) 0, type := 0, pos := "image.go:21", after := #[{ on := 15, ground := Ground.data }, { on := 11, ground := Ground.guard }], guard := some (11, false) }) (v := ?v16711) rfl (by kernel_rfl) (by kernel_rfl) (by kernel_rfl) (fun _ _ _ h => h) (Or.inl ⟨by rfl, ?y16711⟩) (by assumption) ?r16711
        case y16711 => (intro x hx; (try dsimp only at hx); go_simp; try with_reducible rfl)
        try simp only [Act.put, List.setIfInBounds_toArray, List.set_cons_zero, List.set_cons_succ]
        refine wpAnyH_take (i := 17) (oi := { dst := some 31, op := Op.load 3 (Operand.tmp 30), type := 3, pos := "image.go:21", after := #[{ on := 16, ground := Ground.data }, { on := 11, ground := Ground.guard }], guard := some (11, false) }) (v := ?v17711) rfl (by kernel_rfl) (by kernel_rfl) (by kernel_rfl) (fun _ _ _ h => h) (Or.inl ⟨by rfl, ?y17711⟩) (by assumption) ?r17711
        case y17711 => (intro x hx; (try dsimp only at hx); go_simp; try with_reducible rfl)
        try simp only [Act.put, List.setIfInBounds_toArray, List.set_cons_zero, List.set_cons_succ]
        refine wpAnyH_take (i := 18) (oi := { dst := some 32, op := Op.binOp BinOp.neq 3 (Operand.tmp 28) (Operand.tmp 31) 3, type := 4, pos := "image.go:21", after := #[{ on := 14, ground := Ground.data }, { on := 17, ground := Ground.data }, { on := 11, ground := Ground.guard }], guard := some (11, false) }) (v := ?v18711) rfl (by kernel_rfl) (by kernel_rfl) (by kernel_rfl) (fun _ _ _ h => h) (Or.inl ⟨by rfl, ?y18711⟩) (by assumption) ?r18711
        case y18711 => (intro x hx; (try dsimp only at hx); go_simp; try with_reducible rfl)
        try simp only [Act.put, List.setIfInBounds_toArray, List.set_cons_zero, List.set_cons_succ]
        refine wpAnyH_take (i := 19) (oi := { dst := some 33, op := Op.pick (Operand.tmp 25) (Operand.const (Value.bool true)) (Operand.tmp 32), type := 4, pos := "image.go:21", after := #[{ on := 11, ground := Ground.data }, { on := 18, ground := Ground.data }], guard := none }) (v := ?v19711) rfl (by kernel_rfl) (by kernel_rfl) (by kernel_rfl) (fun _ _ _ h => h) (Or.inl ⟨by rfl, ?y19711⟩) (by assumption) ?r19711
        case y19711 => (intro x hx; (try dsimp only at hx); go_simp; try with_reducible rfl)
        try simp only [Act.put, List.setIfInBounds_toArray, List.set_cons_zero, List.set_cons_succ]
        refine wpAnyH_done (by kernel_rfl) ?_ _
        go_wp2
        go_ret
        exact ⟨rfl, below_trans hb0 (below_of g3)⟩
      | false =>
        have k3 : ¬ (m : Int) = b := by simpa using k2
        simp only [if_true, if_neg (show ¬ ((n : Int) = M ∧ (m : Int) = b) from fun h => k3 h.2)]
        have k4 : ((n : Int) != M) = false := by simp [k1']
        have k5 : ((m : Int) != b) = true := by simp [k3]
        clear k1' k3 k1 k2
        go_enter Tryd.func14, Tryd.ntmps14
        go_upto_region 4 with (go_at_call 35; refine (spare_any _ _ _ _).mono ?_; rintro e u1 ⟨rfl, bel1⟩; rw [e1, e2]; have g1 := grown_of bel1 none)
        refine wp_region_held_drew (S := (fun x : World => (w.alloc (.cells #[.int .i64 b, .int .i64 p, .int .i64 s, .slice a n c, .slice a' m c'] 30)).grownBy x none ∧ x.cell? ⟨w.heap.size, 0, none⟩ = some (.int .i64 b) ∧ x.cell? ⟨w.heap.size, 1, none⟩ = some (.int .i64 p) ∧ x.cell? ⟨w.heap.size, 2, none⟩ = some (.int .i64 s) ∧ x.cell? ⟨w.heap.size, 3, none⟩ = some (.slice a n c) ∧ x.cell? ⟨w.heap.size, 4, none⟩ = some (.slice a' m c'))) (by kernel_rfl) (held5 (grownBy_trans g1 (drew_grown _ _))) (fun hHeld => ?_)
        refine wpAnyH_take (i := 0) (oi := { dst := some 14, op := Op.fieldAddr 30 (Operand.tmp 1) 1, type := 0, pos := "image.go:21", after := #[], guard := none }) (v := ?v0710) rfl (by kernel_rfl) (by kernel_rfl) (by kernel_rfl) (fun _ _ _ h => h) (Or.inl ⟨by rfl, ?y0710⟩) (by assumption) ?r0710
        case y0710 => (intro x hx; (try dsimp only at hx); go_simp; try with_reducible rfl)
        try simp only [Act.put, List.setIfInBounds_toArray, List.set_cons_zero, List.set_cons_succ]
        refine wpAnyH_take (i := 1) (oi := { dst := some 15, op := Op.load 22 (Operand.tmp 14), type := 22, pos := "image.go:21", after := #[{ on := 0, ground := Ground.data }], guard := none }) (v := ?v1710) rfl (by kernel_rfl) (by kernel_rfl) (by kernel_rfl) (fun _ _ _ h => h) (Or.inl ⟨by rfl, ?y1710⟩) (by assumption) ?r1710
        case y1710 => (intro x hx; (try dsimp only at hx); go_simp; try with_reducible rfl)
        try simp only [Act.put, List.setIfInBounds_toArray, List.set_cons_zero, List.set_cons_succ]
        refine wpAnyH_take (i := 2) (oi := { dst := some 16, op := Op.call { callee := Callee.builtin Builtin.len, args := #[Operand.tmp 15], argTypes := #[22] }, type := 3, pos := "image.go:21", after := #[{ on := 1, ground := Ground.data }], guard := none }) (v := ?v2710) rfl (by kernel_rfl) (by kernel_rfl) (by kernel_rfl) (fun _ _ _ h => h) (Or.inl ⟨by rfl, ?y2710⟩) (by assumption) ?r2710
        case y2710 => (intro x hx; (try dsimp only at hx); go_simp; try with_reducible rfl)
        try simp only [Act.put, List.setIfInBounds_toArray, List.set_cons_zero, List.set_cons_succ]
        refine wpAnyH_take (i := 3) (oi := { dst := some 17, op := Op.fieldAddr 30 (Operand.tmp 1) 0, type := 0, pos := "image.go:21", after := #[], guard := none }) (v := ?v3710) rfl (by kernel_rfl) (by kernel_rfl) (by kernel_rfl) (fun _ _ _ h => h) (Or.inl ⟨by rfl, ?y3710⟩) (by assumption) ?r3710
        case y3710 => (intro x hx; (try dsimp only at hx); go_simp; try with_reducible rfl)
        try simp only [Act.put, List.setIfInBounds_toArray, List.set_cons_zero, List.set_cons_succ]
        refine wpAnyH_take (i := 4) (oi := { dst := some 18, op := Op.load 27 (Operand.tmp 17), type := 27, pos := "image.go:21", after := #[{ on := 3, ground := Ground.data }], guard := none }) (v := ?v4710) rfl (by kernel_rfl) (by kernel_rfl) (by kernel_rfl) (fun _ _ _ h => h) (Or.inl ⟨by rfl, ?y4710⟩) (by assumption) ?r4710
        case y4710 => (intro x hx; (try dsimp only at hx); go_simp; try with_reducible rfl)
        try simp only [Act.put, List.setIfInBounds_toArray, List.set_cons_zero, List.set_cons_succ]
        refine wpAnyH_take (i := 6) (oi := { dst := some 20, op := Op.fieldAddr 30 (Operand.tmp 1) 0, type := 0, pos := "image.go:21", after := #[], guard := none }) (v := ?v6710) rfl (by kernel_rfl) (by kernel_rfl) (by kernel_rfl) (fun _ _ _ h => h) (Or.inl ⟨by rfl, ?y6710⟩) (by assumption) ?r6710
        case y6710 => (intro x hx; (try dsimp only at hx); go_simp; try with_reducible rfl)
        try simp only [Act.put, List.setIfInBounds_toArray, List.set_cons_zero, List.set_cons_succ]
        refine wpAnyH_take (i := 7) (oi := { dst := some 21, op := Op.load 27 (Operand.tmp 20), type := 27, pos := "image.go:21", after := #[{ on := 6, ground := Ground.data }], guard := none }) (v := ?v7710) rfl (by kernel_rfl) (by kernel_rfl) (by kernel_rfl) (fun _ _ _ h => h) (Or.inl ⟨by rfl, ?y7710⟩) (by assumption) ?r7710
        case y7710 => (intro x hx; (try dsimp only at hx); go_simp; try with_reducible rfl)
        try simp only [Act.put, List.setIfInBounds_toArray, List.set_cons_zero, List.set_cons_succ]
        refine wpAnyH_ready (rs := [5]) (by kernel_rfl) (by simp) ?_
        refine AllReadyH.cons (o := { dst := some 19, op := Op.call { callee := Callee.value (Operand.func 36), args := #[Operand.tmp 18], argTypes := #[27] }, type := 3, pos := "image.go:21", after := #[{ on := 4, ground := Ground.data }], guard := none }) rfl (fun K hK => ?_) AllReadyH.nil
        go_simp
        go_at_call 36
        refine (pagesIn_any _ _ _ _ q7 q8).mono ?_
        rintro e u2 ⟨rfl, b2⟩
        rw [HP.out]
        have g2 := grownBy_trans (grownBy_trans g1 (drew_grown _ none)) (grown_of b2 none)
        have hSnew := held5 g2
        go_wp2_with fail
        refine hK.out _ _ hSnew (fun hHeld5 => ?_)
        clear hK K hSnew
        clear hHeld
        have hHeld := hHeld5
        clear hHeld5
        try simp only [Act.put, List.setIfInBounds_toArray, List.set_cons_zero, List.set_cons_succ]
        refine wpAnyH_ready (rs := [8]) (by kernel_rfl) (by simp) ?_
        refine AllReadyH.cons (o := { dst := some 22, op := Op.call { callee := Callee.value (Operand.func 37), args := #[Operand.tmp 21], argTypes := #[27] }, type := 3, pos := "image.go:21", after := #[{ on := 7, ground := Ground.data }, { on := 5, ground := Ground.chain }], guard := none }) rfl (fun K hK => ?_) AllReadyH.nil
        go_simp
        go_at_call 37
        refine (pageBytes_any _ _ _ _ hf).mono ?_
        rintro e u3 ⟨rfl, b3⟩
        rw [HL.out]
        have g3 := grownBy_trans g2 (grown_of b3 none)
        have hSnew := held5 g3
        go_wp2_with fail
        refine hK.out _ _ hSnew (fun hHeld8 => ?_)
        clear hK K hSnew
        clear hHeld
        have hHeld := hHeld8
        clear hHeld8
        try simp only [Act.put, List.setIfInBounds_toArray, List.set_cons_zero, List.set_cons_succ]
        refine wpAnyH_take (i := 9) (oi := { dst := some 23, op := Op.binOp BinOp.mul 3 (Operand.tmp 19) (Operand.tmp 22) 3, type := 3, pos := "image.go:21", after := #[{ on := 5, ground := Ground.data }, { on := 8, ground := Ground.data }], guard := none }) (v := ?v9710) rfl (by kernel_rfl) (by kernel_rfl) (by kernel_rfl) (fun _ _ _ h => h) (Or.inl ⟨by rfl, ?y9710⟩) (by assumption) ?r9710
        case y9710 => (intro x hx; (try dsimp only at hx); go_simp; try with_reducible rfl)
        try simp only [Act.put, List.setIfInBounds_toArray, List.set_cons_zero, List.set_cons_succ]
        refine wpAnyH_take (i := 10) (oi := { dst := some 24, op := Op.binOp BinOp.neq 3 (Operand.tmp 16) (Operand.tmp 23) 3, type := 4, pos := "image.go:21", after := #[{ on := 2, ground := Ground.data }, { on := 9, ground := Ground.data }], guard := none }) (v := ?v10710) rfl (by kernel_rfl) (by kernel_rfl) (by kernel_rfl) (fun _ _ _ h => h) (Or.inl ⟨by rfl, ?y10710⟩) (by assumption) ?r10710
        case y10710 => (intro x hx; (try dsimp only at hx); go_simp; try with_reducible rfl)
        try simp only [Act.put, List.setIfInBounds_toArray, List.set_cons_zero, List.set_cons_succ]
        refine wpAnyH_take (i := 11) (oi := { dst := some 25, op := Op.move (Operand.tmp 24), type := 4, pos := "image.go:21", after := #[{ on := 10, ground := Ground.data }, { on := 8, ground := Ground.chain }], guard := none }) (v := ?v11710) rfl (by kernel_rfl) (by kernel_rfl) (by kernel_rfl) (fun _ _ _ h => h) (Or.inl ⟨by rfl, ?y11710⟩) (by assumption) ?r11710
        case y11710 => (intro x hx; (try dsimp only at hx); go_simp; try with_reducible rfl)
        try simp only [Act.put, List.setIfInBounds_toArray, List.set_cons_zero, List.set_cons_succ]
        refine wpAnyH_take (i := 12) (oi := { dst := some 26, op := Op.fieldAddr 30 (Operand.tmp 1) 2, type := 0, pos := "image.go:21", after := #[{ on := 11, ground := Ground.guard }], guard := some (11, false) }) (v := ?v12710) rfl (by kernel_rfl) (by kernel_rfl) (by kernel_rfl) (fun _ _ _ h => h) (Or.inl ⟨by rfl, ?y12710⟩) (by assumption) ?r12710
        case y12710 => (intro x hx; (try dsimp only at hx); go_simp; try with_reducible rfl)
        try simp only [Act.put, List.setIfInBounds_toArray, List.set_cons_zero, List.set_cons_succ]
        refine wpAnyH_take (i := 13) (oi := { dst := some 27, op := Op.load 28 (Operand.tmp 26), type := 28, pos := "image.go:21", after := #[{ on := 12, ground := Ground.data }, { on := 11, ground := Ground.guard }], guard := some (11, false) }) (v := ?v13710) rfl (by kernel_rfl) (by kernel_rfl) (by kernel_rfl) (fun _ _ _ h => h) (Or.inl ⟨by rfl, ?y13710⟩) (by assumption) ?r13710
        case y13710 => (intro x hx; (try dsimp only at hx); go_simp; try with_reducible rfl)
        try simp only [Act.put, List.setIfInBounds_toArray, List.set_cons_zero, List.set_cons_succ]
        refine wpAnyH_take (i := 14) (oi := { dst := some 28, op := Op.call { callee := Callee.builtin Builtin.len, args := #[Operand.tmp 27], argTypes := #[28] }, type := 3, pos := "image.go:21", after := #[{ on := 13, ground := Ground.data }, { on := 11, ground := Ground.guard }], guard := some (11, false) }) (v := ?v14710) rfl (by kernel_rfl) (by kernel_rfl) (by kernel_rfl) (fun _ _ _ h => h) (Or.inl ⟨by rfl, ?y14710⟩) (by assumption) ?r14710
        case y14710 => (intro x hx; (try dsimp only at hx); go_simp; try with_reducible rfl)
        try simp only [Act.put, List.setIfInBounds_toArray, List.set_cons_zero, List.set_cons_succ]
        refine wpAnyH_take (i := 15) (oi := { dst := some 29, op := Op.fieldAddr 30 (Operand.tmp 1) 0, type := 0, pos := "image.go:21", after := #[{ on := 11, ground := Ground.guard }], guard := some (11, false) }) (v := ?v15710) rfl (by kernel_rfl) (by kernel_rfl) (by kernel_rfl) (fun _ _ _ h => h) (Or.inl ⟨by rfl, ?y15710⟩) (by assumption) ?r15710
        case y15710 => (intro x hx; (try dsimp only at hx); go_simp; try with_reducible rfl)
        try simp only [Act.put, List.setIfInBounds_toArray, List.set_cons_zero, List.set_cons_succ]
        refine wpAnyH_take (i := 16) (oi := { dst := some 30, op := Op.fieldAddr 27 (Operand.tmp 29) 0, type := 0, pos := "image.go:21", after := #[{ on := 15, ground := Ground.data }, { on := 11, ground := Ground.guard }], guard := some (11, false) }) (v := ?v16710) rfl (by kernel_rfl) (by kernel_rfl) (by kernel_rfl) (fun _ _ _ h => h) (Or.inl ⟨by rfl, ?y16710⟩) (by assumption) ?r16710
        case y16710 => (intro x hx; (try dsimp only at hx); go_simp; try with_reducible rfl)
        try simp only [Act.put, List.setIfInBounds_toArray, List.set_cons_zero, List.set_cons_succ]
        refine wpAnyH_take (i := 17) (oi := { dst := some 31, op := Op.load 3 (Operand.tmp 30), type := 3, pos := "image.go:21", after := #[{ on := 16, ground := Ground.data }, { on := 11, ground := Ground.guard }], guard := some (11, false) }) (v := ?v17710) rfl (by kernel_rfl) (by kernel_rfl) (by kernel_rfl) (fun _ _ _ h => h) (Or.inl ⟨by rfl, ?y17710⟩) (by assumption) ?r17710
        case y17710 => (intro x hx; (try dsimp only at hx); go_simp; try with_reducible rfl)
        try simp only [Act.put, List.setIfInBounds_toArray, List.set_cons_zero, List.set_cons_succ]
        refine wpAnyH_take (i := 18) (oi := { dst := some 32, op := Op.binOp BinOp.neq 3 (Operand.tmp 28) (Operand.tmp 31) 3, type := 4, pos := "image.go:21", after := #[{ on := 14, ground := Ground.data }, { on := 17, ground := Ground.data }, { on := 11, ground := Ground.guard }], guard := some (11, false) }) (v := ?v18710) rfl (by kernel_rfl) (by kernel_rfl) (by kernel_rfl) (fun _ _ _ h => h) (Or.inl ⟨by rfl, ?y18710⟩) (by assumption) ?r18710
        case y18710 => (intro x hx; (try dsimp only at hx); go_simp; try with_reducible rfl)
        try simp only [Act.put, List.setIfInBounds_toArray, List.set_cons_zero, List.set_cons_succ]
        refine wpAnyH_take (i := 19) (oi := { dst := some 33, op := Op.pick (Operand.tmp 25) (Operand.const (Value.bool true)) (Operand.tmp 32), type := 4, pos := "image.go:21", after := #[{ on := 11, ground := Ground.data }, { on := 18, ground := Ground.data }], guard := none }) (v := ?v19710) rfl (by kernel_rfl) (by kernel_rfl) (by kernel_rfl) (fun _ _ _ h => h) (Or.inl ⟨by rfl, ?y19710⟩) (by assumption) ?r19710
        case y19710 => (intro x hx; (try dsimp only at hx); go_simp; try with_reducible rfl)
        try simp only [Act.put, List.setIfInBounds_toArray, List.set_cons_zero, List.set_cons_succ]
        refine wpAnyH_done (by kernel_rfl) ?_ _
        go_wp2
        go_ret
        exact ⟨rfl, below_trans hb0 (below_of g3)⟩
    | false =>
        have k1' : ¬ (n : Int) = M := by simpa using k1
        simp only [if_true, if_neg (show ¬ ((n : Int) = M ∧ (m : Int) = b) from fun h => k1' h.1)]
        have k4 : ((n : Int) != M) = true := by simp [k1']
        clear k1' k1
        go_enter Tryd.func14, Tryd.ntmps14
        go_upto_region 4 with (go_at_call 35; refine (spare_any _ _ _ _).mono ?_; rintro e u1 ⟨rfl, bel1⟩; rw [e1, e2]; have g1 := grown_of bel1 none)
        refine wp_region_held_drew (S := (fun x : World => (w.alloc (.cells #[.int .i64 b, .int .i64 p, .int .i64 s, .slice a n c, .slice a' m c'] 30)).grownBy x none ∧ x.cell? ⟨w.heap.size, 0, none⟩ = some (.int .i64 b) ∧ x.cell? ⟨w.heap.size, 1, none⟩ = some (.int .i64 p) ∧ x.cell? ⟨w.heap.size, 2, none⟩ = some (.int .i64 s) ∧ x.cell? ⟨w.heap.size, 3, none⟩ = some (.slice a n c) ∧ x.cell? ⟨w.heap.size, 4, none⟩ = some (.slice a' m c'))) (by kernel_rfl) (held5 (grownBy_trans g1 (drew_grown _ _))) (fun hHeld => ?_)
        refine wpAnyH_take (i := 0) (oi := { dst := some 14, op := Op.fieldAddr 30 (Operand.tmp 1) 1, type := 0, pos := "image.go:21", after := #[], guard := none }) (v := ?v0700) rfl (by kernel_rfl) (by kernel_rfl) (by kernel_rfl) (fun _ _ _ h => h) (Or.inl ⟨by rfl, ?y0700⟩) (by assumption) ?r0700
        case y0700 => (intro x hx; (try dsimp only at hx); go_simp; try with_reducible rfl)
        try simp only [Act.put, List.setIfInBounds_toArray, List.set_cons_zero, List.set_cons_succ]
        refine wpAnyH_take (i := 1) (oi := { dst := some 15, op := Op.load 22 (Operand.tmp 14), type := 22, pos := "image.go:21", after := #[{ on := 0, ground := Ground.data }], guard := none }) (v := ?v1700) rfl (by kernel_rfl) (by kernel_rfl) (by kernel_rfl) (fun _ _ _ h => h) (Or.inl ⟨by rfl, ?y1700⟩) (by assumption) ?r1700
        case y1700 => (intro x hx; (try dsimp only at hx); go_simp; try with_reducible rfl)
        try simp only [Act.put, List.setIfInBounds_toArray, List.set_cons_zero, List.set_cons_succ]
        refine wpAnyH_take (i := 2) (oi := { dst := some 16, op := Op.call { callee := Callee.builtin Builtin.len, args := #[Operand.tmp 15], argTypes := #[22] }, type := 3, pos := "image.go:21", after := #[{ on := 1, ground := Ground.data }], guard := none }) (v := ?v2700) rfl (by kernel_rfl) (by kernel_rfl) (by kernel_rfl) (fun _ _ _ h => h) (Or.inl ⟨by rfl, ?y2700⟩) (by assumption) ?r2700
        case y2700 => (intro x hx; (try dsimp only at hx); go_simp; try with_reducible rfl)
        try simp only [Act.put, List.setIfInBounds_toArray, List.set_cons_zero, List.set_cons_succ]
        refine wpAnyH_take (i := 3) (oi := { dst := some 17, op := Op.fieldAddr 30 (Operand.tmp 1) 0, type := 0, pos := "image.go:21", after := #[], guard := none }) (v := ?v3700) rfl (by kernel_rfl) (by kernel_rfl) (by kernel_rfl) (fun _ _ _ h => h) (Or.inl ⟨by rfl, ?y3700⟩) (by assumption) ?r3700
        case y3700 => (intro x hx; (try dsimp only at hx); go_simp; try with_reducible rfl)
        try simp only [Act.put, List.setIfInBounds_toArray, List.set_cons_zero, List.set_cons_succ]
        refine wpAnyH_take (i := 4) (oi := { dst := some 18, op := Op.load 27 (Operand.tmp 17), type := 27, pos := "image.go:21", after := #[{ on := 3, ground := Ground.data }], guard := none }) (v := ?v4700) rfl (by kernel_rfl) (by kernel_rfl) (by kernel_rfl) (fun _ _ _ h => h) (Or.inl ⟨by rfl, ?y4700⟩) (by assumption) ?r4700
        case y4700 => (intro x hx; (try dsimp only at hx); go_simp; try with_reducible rfl)
        try simp only [Act.put, List.setIfInBounds_toArray, List.set_cons_zero, List.set_cons_succ]
        refine wpAnyH_take (i := 6) (oi := { dst := some 20, op := Op.fieldAddr 30 (Operand.tmp 1) 0, type := 0, pos := "image.go:21", after := #[], guard := none }) (v := ?v6700) rfl (by kernel_rfl) (by kernel_rfl) (by kernel_rfl) (fun _ _ _ h => h) (Or.inl ⟨by rfl, ?y6700⟩) (by assumption) ?r6700
        case y6700 => (intro x hx; (try dsimp only at hx); go_simp; try with_reducible rfl)
        try simp only [Act.put, List.setIfInBounds_toArray, List.set_cons_zero, List.set_cons_succ]
        refine wpAnyH_take (i := 7) (oi := { dst := some 21, op := Op.load 27 (Operand.tmp 20), type := 27, pos := "image.go:21", after := #[{ on := 6, ground := Ground.data }], guard := none }) (v := ?v7700) rfl (by kernel_rfl) (by kernel_rfl) (by kernel_rfl) (fun _ _ _ h => h) (Or.inl ⟨by rfl, ?y7700⟩) (by assumption) ?r7700
        case y7700 => (intro x hx; (try dsimp only at hx); go_simp; try with_reducible rfl)
        try simp only [Act.put, List.setIfInBounds_toArray, List.set_cons_zero, List.set_cons_succ]
        refine wpAnyH_ready (rs := [5]) (by kernel_rfl) (by simp) ?_
        refine AllReadyH.cons (o := { dst := some 19, op := Op.call { callee := Callee.value (Operand.func 36), args := #[Operand.tmp 18], argTypes := #[27] }, type := 3, pos := "image.go:21", after := #[{ on := 4, ground := Ground.data }], guard := none }) rfl (fun K hK => ?_) AllReadyH.nil
        go_simp
        go_at_call 36
        refine (pagesIn_any _ _ _ _ q7 q8).mono ?_
        rintro e u2 ⟨rfl, b2⟩
        rw [HP.out]
        have g2 := grownBy_trans (grownBy_trans g1 (drew_grown _ none)) (grown_of b2 none)
        have hSnew := held5 g2
        go_wp2_with fail
        refine hK.out _ _ hSnew (fun hHeld5 => ?_)
        clear hK K hSnew
        clear hHeld
        have hHeld := hHeld5
        clear hHeld5
        try simp only [Act.put, List.setIfInBounds_toArray, List.set_cons_zero, List.set_cons_succ]
        refine wpAnyH_ready (rs := [8]) (by kernel_rfl) (by simp) ?_
        refine AllReadyH.cons (o := { dst := some 22, op := Op.call { callee := Callee.value (Operand.func 37), args := #[Operand.tmp 21], argTypes := #[27] }, type := 3, pos := "image.go:21", after := #[{ on := 7, ground := Ground.data }, { on := 5, ground := Ground.chain }], guard := none }) rfl (fun K hK => ?_) AllReadyH.nil
        go_simp
        go_at_call 37
        refine (pageBytes_any _ _ _ _ hf).mono ?_
        rintro e u3 ⟨rfl, b3⟩
        rw [HL.out]
        have g3 := grownBy_trans g2 (grown_of b3 none)
        have hSnew := held5 g3
        go_wp2_with fail
        refine hK.out _ _ hSnew (fun hHeld8 => ?_)
        clear hK K hSnew
        clear hHeld
        have hHeld := hHeld8
        clear hHeld8
        try simp only [Act.put, List.setIfInBounds_toArray, List.set_cons_zero, List.set_cons_succ]
        refine wpAnyH_take (i := 9) (oi := { dst := some 23, op := Op.binOp BinOp.mul 3 (Operand.tmp 19) (Operand.tmp 22) 3, type := 3, pos := "image.go:21", after := #[{ on := 5, ground := Ground.data }, { on := 8, ground := Ground.data }], guard := none }) (v := ?v9700) rfl (by kernel_rfl) (by kernel_rfl) (by kernel_rfl) (fun _ _ _ h => h) (Or.inl ⟨by rfl, ?y9700⟩) (by assumption) ?r9700
        case y9700 => (intro x hx; (try dsimp only at hx); go_simp; try with_reducible rfl)
        try simp only [Act.put, List.setIfInBounds_toArray, List.set_cons_zero, List.set_cons_succ]
        refine wpAnyH_take (i := 10) (oi := { dst := some 24, op := Op.binOp BinOp.neq 3 (Operand.tmp 16) (Operand.tmp 23) 3, type := 4, pos := "image.go:21", after := #[{ on := 2, ground := Ground.data }, { on := 9, ground := Ground.data }], guard := none }) (v := ?v10700) rfl (by kernel_rfl) (by kernel_rfl) (by kernel_rfl) (fun _ _ _ h => h) (Or.inl ⟨by rfl, ?y10700⟩) (by assumption) ?r10700
        case y10700 => (intro x hx; (try dsimp only at hx); go_simp; try with_reducible rfl)
        try simp only [Act.put, List.setIfInBounds_toArray, List.set_cons_zero, List.set_cons_succ]
        refine wpAnyH_take (i := 11) (oi := { dst := some 25, op := Op.move (Operand.tmp 24), type := 4, pos := "image.go:21", after := #[{ on := 10, ground := Ground.data }, { on := 8, ground := Ground.chain }], guard := none }) (v := ?v11700) rfl (by kernel_rfl) (by kernel_rfl) (by kernel_rfl) (fun _ _ _ h => h) (Or.inl ⟨by rfl, ?y11700⟩) (by assumption) ?r11700
        case y11700 => (intro x hx; (try dsimp only at hx); go_simp; try with_reducible rfl)
        try simp only [Act.put, List.setIfInBounds_toArray, List.set_cons_zero, List.set_cons_succ]
        refine wpAnyH_take (i := 12) (oi := { dst := some 26, op := Op.fieldAddr 30 (Operand.tmp 1) 2, type := 0, pos := "image.go:21", after := #[{ on := 11, ground := Ground.guard }], guard := some (11, false) }) (v := undef) rfl (by kernel_rfl) (by kernel_rfl) (by kernel_rfl) (fun _ _ _ h => h) (Or.inr ⟨by rfl, rfl⟩) (by assumption) ?_
        try simp only [Act.put, List.setIfInBounds_toArray, List.set_cons_zero, List.set_cons_succ]
        refine wpAnyH_take (i := 13) (oi := { dst := some 27, op := Op.load 28 (Operand.tmp 26), type := 28, pos := "image.go:21", after := #[{ on := 12, ground := Ground.data }, { on := 11, ground := Ground.guard }], guard := some (11, false) }) (v := undef) rfl (by kernel_rfl) (by kernel_rfl) (by kernel_rfl) (fun _ _ _ h => h) (Or.inr ⟨by rfl, rfl⟩) (by assumption) ?_
        try simp only [Act.put, List.setIfInBounds_toArray, List.set_cons_zero, List.set_cons_succ]
        refine wpAnyH_take (i := 14) (oi := { dst := some 28, op := Op.call { callee := Callee.builtin Builtin.len, args := #[Operand.tmp 27], argTypes := #[28] }, type := 3, pos := "image.go:21", after := #[{ on := 13, ground := Ground.data }, { on := 11, ground := Ground.guard }], guard := some (11, false) }) (v := undef) rfl (by kernel_rfl) (by kernel_rfl) (by kernel_rfl) (fun _ _ _ h => h) (Or.inr ⟨by rfl, rfl⟩) (by assumption) ?_
        try simp only [Act.put, List.setIfInBounds_toArray, List.set_cons_zero, List.set_cons_succ]
        refine wpAnyH_take (i := 15) (oi := { dst := some 29, op := Op.fieldAddr 30 (Operand.tmp 1) 0, type := 0, pos := "image.go:21", after := #[{ on := 11, ground := Ground.guard }], guard := some (11, false) }) (v := undef) rfl (by kernel_rfl) (by kernel_rfl) (by kernel_rfl) (fun _ _ _ h => h) (Or.inr ⟨by rfl, rfl⟩) (by assumption) ?_
        try simp only [Act.put, List.setIfInBounds_toArray, List.set_cons_zero, List.set_cons_succ]
        refine wpAnyH_take (i := 16) (oi := { dst := some 30, op := Op.fieldAddr 27 (Operand.tmp 29) 0, type := 0, pos := "image.go:21", after := #[{ on := 15, ground := Ground.data }, { on := 11, ground := Ground.guard }], guard := some (11, false) }) (v := undef) rfl (by kernel_rfl) (by kernel_rfl) (by kernel_rfl) (fun _ _ _ h => h) (Or.inr ⟨by rfl, rfl⟩) (by assumption) ?_
        try simp only [Act.put, List.setIfInBounds_toArray, List.set_cons_zero, List.set_cons_succ]
        refine wpAnyH_take (i := 17) (oi := { dst := some 31, op := Op.load 3 (Operand.tmp 30), type := 3, pos := "image.go:21", after := #[{ on := 16, ground := Ground.data }, { on := 11, ground := Ground.guard }], guard := some (11, false) }) (v := undef) rfl (by kernel_rfl) (by kernel_rfl) (by kernel_rfl) (fun _ _ _ h => h) (Or.inr ⟨by rfl, rfl⟩) (by assumption) ?_
        try simp only [Act.put, List.setIfInBounds_toArray, List.set_cons_zero, List.set_cons_succ]
        refine wpAnyH_take (i := 18) (oi := { dst := some 32, op := Op.binOp BinOp.neq 3 (Operand.tmp 28) (Operand.tmp 31) 3, type := 4, pos := "image.go:21", after := #[{ on := 14, ground := Ground.data }, { on := 17, ground := Ground.data }, { on := 11, ground := Ground.guard }], guard := some (11, false) }) (v := undef) rfl (by kernel_rfl) (by kernel_rfl) (by kernel_rfl) (fun _ _ _ h => h) (Or.inr ⟨by rfl, rfl⟩) (by assumption) ?_
        try simp only [Act.put, List.setIfInBounds_toArray, List.set_cons_zero, List.set_cons_succ]
        refine wpAnyH_take (i := 19) (oi := { dst := some 33, op := Op.pick (Operand.tmp 25) (Operand.const (Value.bool true)) (Operand.tmp 32), type := 4, pos := "image.go:21", after := #[{ on := 11, ground := Ground.data }, { on := 18, ground := Ground.data }], guard := none }) (v := ?v19700) rfl (by kernel_rfl) (by kernel_rfl) (by kernel_rfl) (fun _ _ _ h => h) (Or.inl ⟨by rfl, ?y19700⟩) (by assumption) ?r19700
        case y19700 => (intro x hx; (try dsimp only at hx); go_simp; try with_reducible rfl)
        try simp only [Act.put, List.setIfInBounds_toArray, List.set_cons_zero, List.set_cons_succ]
        refine wpAnyH_done (by kernel_rfl) ?_ _
        go_wp2
        go_ret
        exact ⟨rfl, below_trans hb0 (below_of g3)⟩

end Go.Proofs.YteefekhlbillfaaDoor
