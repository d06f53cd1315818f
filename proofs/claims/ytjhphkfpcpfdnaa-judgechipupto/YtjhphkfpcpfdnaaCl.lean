/-
  SEAT Ytjhphkfpcpfdnaa: Program.
-/
import Derived.Test.YtjhphkfpcpfdnaaCj
namespace Go.Proofs.Ytjhphkfpcpfdnaa
open Go.RowKit Go.Conc
set_option linter.unusedVariables false

def S3 (pg p : Nat) (da sa : Option Addr) (n1 dc n2 sc : Nat) (C : Ch) (u : World) : Prop :=
  u.cell? ⟨pg, 0, none⟩ = some (.slice da n1 dc) ∧ u.cell? ⟨pg, 1, none⟩ = some (.slice sa n2 sc) ∧ u.cell? ⟨p, 0, none⟩ = some (.int .i64 (C.B : Int)) ∧ u.cell? ⟨p, 1, none⟩ = some (.int .i64 (C.P : Int)) ∧ u.cell? ⟨p, 2, none⟩ = some (.int .i64 (C.S : Int))
theorem pg_keep {pg p : Nat} {da sa : Option Addr} {n1 dc n2 sc : Nat} {C : Ch} {u u' : World} (h : S3 pg p da sa n1 dc n2 sc C u) (hb : Below u.heap.size u u') : S3 pg p da sa n1 dc n2 sc C u' := by
  obtain ⟨h0, h1, h2, h3, h4⟩ := h
  exact ⟨(hb.cell (block_lt_of_cell h0)).trans h0, (hb.cell (block_lt_of_cell h1)).trans h1, (hb.cell (block_lt_of_cell h2)).trans h2, (hb.cell (block_lt_of_cell h3)).trans h3, (hb.cell (block_lt_of_cell h4)).trans h4⟩
theorem pg_drew {pg p : Nat} {da sa : Option Addr} {n1 dc n2 sc : Nat} {C : Ch} {u : World} (h : S3 pg p da sa n1 dc n2 sc C u) : S3 pg p da sa n1 dc n2 sc C u.drew := h
def S5 (pl : Nat) (pb pp : Int) (da sa : Option Addr) (n1 dc n2 sc : Nat) (u : World) : Prop :=
  u.cell? ⟨pl, 0, none⟩ = some (.int .i64 pb) ∧ u.cell? ⟨pl, 1, none⟩ = some (.int .i64 pp) ∧ u.cell? ⟨pl + 1, 0, none⟩ = some (.slice da n1 dc) ∧ u.cell? ⟨pl + 1, 1, none⟩ = some (.slice sa n2 sc)
theorem s5_drew {pl : Nat} {pb pp : Int} {da sa : Option Addr} {n1 dc n2 sc : Nat} {u : World} (h : S5 pl pb pp da sa n1 dc n2 sc u) : S5 pl pb pp da sa n1 dc n2 sc u.drew := h
theorem s5_keep {pl : Nat} {pb pp : Int} {da sa : Option Addr} {n1 dc n2 sc : Nat} {u u' : World} {F : Nat → Prop} (h : S5 pl pb pp da sa n1 dc n2 sc u) (hb : Only F u u') (hF : ¬ F pl ∧ ¬ F (pl + 1)) : S5 pl pb pp da sa n1 dc n2 sc u' := by
  obtain ⟨h0, h1, h2, h3⟩ := h
  exact ⟨hb.cell h0 hF.1, hb.cell h1 hF.1, hb.cell h2 hF.2, hb.cell h3 hF.2⟩
theorem fx_not {F : Nat → Prop} {u v : World} {a : Nat} (h : ¬ F a ∧ ¬ F (a + 1)) (hl : a + 1 < u.heap.size) : ¬ Fx F u v a ∧ ¬ Fx F u v (a + 1) :=
  ⟨fun e => Or.elim e h.1 (fun k => absurd k.1 (by omega)), fun e => Or.elim e h.2 (fun k => absurd k.1 (by omega))⟩
theorem progC_tr (C : Ch) (pb pp : Int) (want : List Int) : (progC C pb pp want).2.tr = C.tr := by
  unfold progC
  split
  · rfl
  · split
    · rfl
    · split
      · rfl
      · split <;> rfl

set_option maxRecDepth 100000 in
theorem Program_dark (w : World) (p : Nat) (F : Nat → Prop) (C : Ch) (h : ChipAt w p F C) (hok : C.Ok) (pb pp : Int) (da sa : Option Addr) (n1 dc n2 sc : Nat) (hd : C.dark = true) : Calls Try.prog 12 #[.pointer (some ⟨p, 0, none⟩), .agg #[.int .i64 pb, .int .i64 pp], .agg #[.slice da n1 dc, .slice sa n2 sc]] w fun e w' => e = .returned (.int .i64 45) ∧ Below w.heap.size w w' := by
  obtain ⟨x, bs, fe, hc⟩ := h
  have hs := hok.s
  have g0 : (1 : Int) ≤ C.S := by omega
  have g1 : (C.S : Int) ≤ 8 := by omega
  have hK := (hc.below (below_alloc _ (.cells #[.int .i64 pb, .int .i64 pp] 51))).below (below_alloc _ (.cells #[.slice da n1 dc, .slice sa n2 sc] 43))
  have c11 := hK.box.c11
  rw [hc.dark, hd] at c11
  have HS3 : Hid (S3 (w.heap.size + 1) p da sa n1 dc n2 sc C ((w.alloc (.cells #[.int .i64 pb, .int .i64 pp] 51)).alloc (.cells #[.slice da n1 dc, .slice sa n2 sc] 43))) := by
    have e := alloc_new (w.alloc (.cells #[.int .i64 pb, .int .i64 pp] 51)) (.cells #[.slice da n1 dc, .slice sa n2 sc] 43)
    rw [alloc_size] at e
    obtain ⟨e0, e1⟩ := cells2 e
    have b0 := hK.box.c0
    have b1 := hK.box.c1
    have b2 := hK.box.c2
    rw [hK.B] at b0
    rw [hK.P] at b1
    rw [hK.S] at b2
    exact ⟨e0, e1, b0, b1, b2⟩
  clear HS3
  clear hK hc
  go_enter Try.func12, Try.ntmps12
  go_wp2
  go_ret
  exact ⟨rfl, below_trans (below_alloc _ _) (below_alloc _ _)⟩

set_option maxRecDepth 100000 in
theorem Program_n1 (w : World) (p : Nat) (F : Nat → Prop) (C : Ch) (h : ChipAt w p F C) (hok : C.Ok) (pb pp : Int) (da sa : Option Addr) (n1 dc n2 sc : Nat) (hl1 : n1 ≤ 140737488355000) (hd : C.dark = false) (hn1 : ((n1 : Int) != 256 * (C.S : Int)) = true) : Calls Try.prog 12 #[.pointer (some ⟨p, 0, none⟩), .agg #[.int .i64 pb, .int .i64 pp], .agg #[.slice da n1 dc, .slice sa n2 sc]] w fun e w' => e = .returned (.int .i64 42) ∧ Below w.heap.size w w' := by
  obtain ⟨x, bs, fe, hc⟩ := h
  have hs := hok.s
  have g0 : (1 : Int) ≤ C.S := by omega
  have g1 : (C.S : Int) ≤ 8 := by omega
  have hK := (hc.below (below_alloc _ (.cells #[.int .i64 pb, .int .i64 pp] 51))).below (below_alloc _ (.cells #[.slice da n1 dc, .slice sa n2 sc] 43))
  have c11 := hK.box.c11
  rw [hc.dark, hd] at c11
  have HS3 : Hid (S3 (w.heap.size + 1) p da sa n1 dc n2 sc C ((w.alloc (.cells #[.int .i64 pb, .int .i64 pp] 51)).alloc (.cells #[.slice da n1 dc, .slice sa n2 sc] 43))) := by
    have e := alloc_new (w.alloc (.cells #[.int .i64 pb, .int .i64 pp] 51)) (.cells #[.slice da n1 dc, .slice sa n2 sc] 43)
    rw [alloc_size] at e
    obtain ⟨e0, e1⟩ := cells2 e
    have b0 := hK.box.c0
    have b1 := hK.box.c1
    have b2 := hK.box.c2
    rw [hK.B] at b0
    rw [hK.P] at b1
    rw [hK.S] at b2
    exact ⟨e0, e1, b0, b1, b2⟩
  clear hK hc
  go_enter Try.func12, Try.ntmps12
  go_wp2
  refine wp_region_held_drew (S := (fun u => u.cell? ⟨w.heap.size + 1, 0, none⟩ = some (.slice da n1 dc) ∧ u.cell? ⟨w.heap.size + 1, 1, none⟩ = some (.slice sa n2 sc) ∧ u.cell? ⟨p, 0, none⟩ = some (.int .i64 (C.B : Int)) ∧ u.cell? ⟨p, 1, none⟩ = some (.int .i64 (C.P : Int)) ∧ u.cell? ⟨p, 2, none⟩ = some (.int .i64 (C.S : Int)))) (by kernel_rfl) (pg_drew HS3.out) (fun hHeld => ?_)
  refine wpAnyH_take (i := 0) (oi := { dst := some 11, op := Op.fieldAddr 43 (Operand.tmp 5) 0, type := 0, pos := "commands.go:15", after := #[], guard := none }) (v := ?v0) rfl (by kernel_rfl) (by kernel_rfl) (by kernel_rfl) (fun _ _ _ h => h) (Or.inl ⟨by rfl, ?y0⟩) (by assumption) ?r0
  case y0 => (intro x hx; (try dsimp only at hx); go_simp; try with_reducible rfl)
  try simp only [Act.put, List.setIfInBounds_toArray, List.set_cons_zero, List.set_cons_succ]
  refine wpAnyH_take (i := 1) (oi := { dst := some 12, op := Op.load 32 (Operand.tmp 11), type := 32, pos := "commands.go:15", after := #[{ on := 0, ground := Ground.data }], guard := none }) (v := ?v1) rfl (by kernel_rfl) (by kernel_rfl) (by kernel_rfl) (fun _ _ _ h => h) (Or.inl ⟨by rfl, ?y1⟩) (by assumption) ?r1
  case y1 => (intro x hx; (try dsimp only at hx); go_simp; try with_reducible rfl)
  try simp only [Act.put, List.setIfInBounds_toArray, List.set_cons_zero, List.set_cons_succ]
  refine wpAnyH_take (i := 2) (oi := { dst := some 13, op := Op.call { callee := Callee.builtin Builtin.len, args := #[Operand.tmp 12], argTypes := #[32] }, type := 3, pos := "commands.go:15", after := #[{ on := 1, ground := Ground.data }], guard := none }) (v := ?v2) rfl (by kernel_rfl) (by kernel_rfl) (by kernel_rfl) (fun _ _ _ h => h) (Or.inl ⟨by rfl, ?y2⟩) (by assumption) ?r2
  case y2 => (intro x hx; (try dsimp only at hx); go_simp; try with_reducible rfl)
  try simp only [Act.put, List.setIfInBounds_toArray, List.set_cons_zero, List.set_cons_succ]
  refine wpAnyH_take (i := 3) (oi := { dst := some 14, op := Op.move (Operand.tmp 0), type := 27, pos := "commands.go:15", after := #[], guard := none }) (v := ?v3) rfl (by kernel_rfl) (by kernel_rfl) (by kernel_rfl) (fun _ _ _ h => h) (Or.inl ⟨by rfl, ?y3⟩) (by assumption) ?r3
  case y3 => (intro x hx; (try dsimp only at hx); go_simp; try with_reducible rfl)
  try simp only [Act.put, List.setIfInBounds_toArray, List.set_cons_zero, List.set_cons_succ]
  refine wpAnyH_take (i := 4) (oi := { dst := some 15, op := Op.nilCheck (Operand.tmp 14), type := 0, pos := "commands.go:15", after := #[{ on := 3, ground := Ground.data }], guard := none }) (v := ?v4) rfl (by kernel_rfl) (by kernel_rfl) (by kernel_rfl) (fun _ _ _ h => h) (Or.inl ⟨by rfl, ?y4⟩) (by assumption) ?r4
  case y4 => (intro x hx; (try dsimp only at hx); go_simp; try with_reducible rfl)
  try simp only [Act.put, List.setIfInBounds_toArray, List.set_cons_zero, List.set_cons_succ]
  refine wpAnyH_take (i := 5) (oi := { dst := some 16, op := Op.fieldAddr 71 (Operand.tmp 15) 0, type := 0, pos := "commands.go:15", after := #[{ on := 4, ground := Ground.data }], guard := none }) (v := ?v5) rfl (by kernel_rfl) (by kernel_rfl) (by kernel_rfl) (fun _ _ _ h => h) (Or.inl ⟨by rfl, ?y5⟩) (by assumption) ?r5
  case y5 => (intro x hx; (try dsimp only at hx); go_simp; try with_reducible rfl)
  try simp only [Act.put, List.setIfInBounds_toArray, List.set_cons_zero, List.set_cons_succ]
  refine wpAnyH_take (i := 6) (oi := { dst := some 17, op := Op.load 23 (Operand.tmp 16), type := 23, pos := "commands.go:15", after := #[{ on := 5, ground := Ground.data }], guard := none }) (v := ?v6) rfl (by kernel_rfl) (by kernel_rfl) (by kernel_rfl) (fun _ _ _ h => h) (Or.inl ⟨by rfl, ?y6⟩) (by assumption) ?r6
  case y6 => (intro x hx; (try dsimp only at hx); go_simp; try with_reducible rfl)
  try simp only [Act.put, List.setIfInBounds_toArray, List.set_cons_zero, List.set_cons_succ]
  refine wpAnyH_ready (rs := [7]) (by kernel_rfl) (by simp) ?_
  refine AllReadyH.cons (o := { dst := some 18, op := Op.call { callee := Callee.value (Operand.func 34), args := #[Operand.tmp 17], argTypes := #[23] }, type := 3, pos := "commands.go:15", after := #[{ on := 6, ground := Ground.data }], guard := none }) rfl (fun K hK => ?_) AllReadyH.nil
  go_simp
  go_at_call 34
  refine (data_any _ _ _ _ g0 g1).mono ?_
  rintro e u1 ⟨rfl, b1⟩
  have HB1 := hide (below_trans (drew_below _) b1)
  have hSnew := pg_keep HS3.out HB1.out
  clear b1
  go_wp2_with fail
  refine hK.out _ _ hSnew (fun hHeld7 => ?_)
  clear hK K hSnew
  clear hHeld
  have hHeld := hHeld7
  clear hHeld7
  try simp only [Act.put, List.setIfInBounds_toArray, List.set_cons_zero, List.set_cons_succ]
  refine wpAnyH_take (i := 8) (oi := { dst := some 19, op := Op.binOp BinOp.neq 3 (Operand.tmp 13) (Operand.tmp 18) 3, type := 4, pos := "commands.go:15", after := #[{ on := 2, ground := Ground.data }, { on := 7, ground := Ground.data }], guard := none }) (v := ?v8) rfl (by kernel_rfl) (by kernel_rfl) (by kernel_rfl) (fun _ _ _ h => h) (Or.inl ⟨by rfl, ?y8⟩) (by assumption) ?r8
  case y8 => (intro x hx; (try dsimp only at hx); go_simp; try with_reducible rfl)
  try simp only [Act.put, List.setIfInBounds_toArray, List.set_cons_zero, List.set_cons_succ]
  refine wpAnyH_take (i := 9) (oi := { dst := some 20, op := Op.move (Operand.tmp 19), type := 4, pos := "commands.go:15", after := #[{ on := 8, ground := Ground.data }, { on := 7, ground := Ground.chain }], guard := none }) (v := ?v9) rfl (by kernel_rfl) (by kernel_rfl) (by kernel_rfl) (fun _ _ _ h => h) (Or.inl ⟨by rfl, ?y9⟩) (by assumption) ?r9
  case y9 => (intro x hx; (try dsimp only at hx); go_simp; try with_reducible rfl)
  try simp only [Act.put, List.setIfInBounds_toArray, List.set_cons_zero, List.set_cons_succ]
  refine wpAnyH_take (i := 10) (oi := { dst := some 21, op := Op.fieldAddr 43 (Operand.tmp 5) 1, type := 0, pos := "commands.go:15", after := #[{ on := 9, ground := Ground.guard }], guard := some (9, false) }) (v := undef) rfl (by kernel_rfl) (by kernel_rfl) (by kernel_rfl) (fun _ _ _ h => h) (Or.inr ⟨by rfl, rfl⟩) (by assumption) ?_
  try simp only [Act.put, List.setIfInBounds_toArray, List.set_cons_zero, List.set_cons_succ]
  refine wpAnyH_take (i := 11) (oi := { dst := some 22, op := Op.load 32 (Operand.tmp 21), type := 32, pos := "commands.go:15", after := #[{ on := 10, ground := Ground.data }, { on := 9, ground := Ground.guard }], guard := some (9, false) }) (v := undef) rfl (by kernel_rfl) (by kernel_rfl) (by kernel_rfl) (fun _ _ _ h => h) (Or.inr ⟨by rfl, rfl⟩) (by assumption) ?_
  try simp only [Act.put, List.setIfInBounds_toArray, List.set_cons_zero, List.set_cons_succ]
  refine wpAnyH_take (i := 12) (oi := { dst := some 23, op := Op.call { callee := Callee.builtin Builtin.len, args := #[Operand.tmp 22], argTypes := #[32] }, type := 3, pos := "commands.go:15", after := #[{ on := 11, ground := Ground.data }, { on := 9, ground := Ground.guard }], guard := some (9, false) }) (v := undef) rfl (by kernel_rfl) (by kernel_rfl) (by kernel_rfl) (fun _ _ _ h => h) (Or.inr ⟨by rfl, rfl⟩) (by assumption) ?_
  try simp only [Act.put, List.setIfInBounds_toArray, List.set_cons_zero, List.set_cons_succ]
  refine wpAnyH_take (i := 13) (oi := { dst := some 24, op := Op.move (Operand.tmp 0), type := 27, pos := "commands.go:15", after := #[{ on := 9, ground := Ground.guard }], guard := some (9, false) }) (v := undef) rfl (by kernel_rfl) (by kernel_rfl) (by kernel_rfl) (fun _ _ _ h => h) (Or.inr ⟨by rfl, rfl⟩) (by assumption) ?_
  try simp only [Act.put, List.setIfInBounds_toArray, List.set_cons_zero, List.set_cons_succ]
  refine wpAnyH_take (i := 14) (oi := { dst := some 25, op := Op.nilCheck (Operand.tmp 24), type := 0, pos := "commands.go:15", after := #[{ on := 13, ground := Ground.data }, { on := 9, ground := Ground.guard }], guard := some (9, false) }) (v := undef) rfl (by kernel_rfl) (by kernel_rfl) (by kernel_rfl) (fun _ _ _ h => h) (Or.inr ⟨by rfl, rfl⟩) (by assumption) ?_
  try simp only [Act.put, List.setIfInBounds_toArray, List.set_cons_zero, List.set_cons_succ]
  refine wpAnyH_take (i := 15) (oi := { dst := some 26, op := Op.fieldAddr 71 (Operand.tmp 25) 0, type := 0, pos := "commands.go:15", after := #[{ on := 14, ground := Ground.data }, { on := 9, ground := Ground.guard }], guard := some (9, false) }) (v := undef) rfl (by kernel_rfl) (by kernel_rfl) (by kernel_rfl) (fun _ _ _ h => h) (Or.inr ⟨by rfl, rfl⟩) (by assumption) ?_
  try simp only [Act.put, List.setIfInBounds_toArray, List.set_cons_zero, List.set_cons_succ]
  refine wpAnyH_take (i := 16) (oi := { dst := some 27, op := Op.load 23 (Operand.tmp 26), type := 23, pos := "commands.go:15", after := #[{ on := 15, ground := Ground.data }, { on := 9, ground := Ground.guard }], guard := some (9, false) }) (v := undef) rfl (by kernel_rfl) (by kernel_rfl) (by kernel_rfl) (fun _ _ _ h => h) (Or.inr ⟨by rfl, rfl⟩) (by assumption) ?_
  try simp only [Act.put, List.setIfInBounds_toArray, List.set_cons_zero, List.set_cons_succ]
  refine wpAnyH_take (i := 17) (oi := { dst := some 28, op := Op.call { callee := Callee.value (Operand.func 32), args := #[Operand.tmp 27], argTypes := #[23] }, type := 3, pos := "commands.go:15", after := #[{ on := 16, ground := Ground.data }, { on := 9, ground := Ground.chain }, { on := 9, ground := Ground.guard }], guard := some (9, false) }) (v := undef) rfl (by kernel_rfl) (by kernel_rfl) (by kernel_rfl) (fun _ _ _ h => h) (Or.inr ⟨by rfl, rfl⟩) (by assumption) ?_
  try simp only [Act.put, List.setIfInBounds_toArray, List.set_cons_zero, List.set_cons_succ]
  refine wpAnyH_take (i := 18) (oi := { dst := some 29, op := Op.binOp BinOp.neq 3 (Operand.tmp 23) (Operand.tmp 28) 3, type := 4, pos := "commands.go:15", after := #[{ on := 12, ground := Ground.data }, { on := 17, ground := Ground.data }, { on := 9, ground := Ground.guard }], guard := some (9, false) }) (v := undef) rfl (by kernel_rfl) (by kernel_rfl) (by kernel_rfl) (fun _ _ _ h => h) (Or.inr ⟨by rfl, rfl⟩) (by assumption) ?_
  try simp only [Act.put, List.setIfInBounds_toArray, List.set_cons_zero, List.set_cons_succ]
  refine wpAnyH_take (i := 19) (oi := { dst := some 30, op := Op.pick (Operand.tmp 20) (Operand.const (Value.bool true)) (Operand.tmp 29), type := 4, pos := "commands.go:15", after := #[{ on := 9, ground := Ground.data }, { on := 18, ground := Ground.data }], guard := none }) (v := ?v19) rfl (by kernel_rfl) (by kernel_rfl) (by kernel_rfl) (fun _ _ _ h => h) (Or.inl ⟨by rfl, ?y19⟩) (by assumption) ?r19
  case y19 => (intro x hx; (try dsimp only at hx); go_simp; try with_reducible rfl)
  try simp only [Act.put, List.setIfInBounds_toArray, List.set_cons_zero, List.set_cons_succ]
  refine wpAnyH_done (by kernel_rfl) ?_ _
  clear hHeld
  go_wp2
  go_ret
  exact ⟨rfl, below_trans (below_trans (below_alloc _ _) (below_alloc _ _)) HB1.out⟩

set_option maxRecDepth 100000 in
theorem Program_n2 (w : World) (p : Nat) (F : Nat → Prop) (C : Ch) (h : ChipAt w p F C) (hok : C.Ok) (pb pp : Int) (da sa : Option Addr) (n1 dc n2 sc : Nat) (hl1 : n1 ≤ 140737488355000) (hl2 : n2 ≤ 140737488355000) (hd : C.dark = false) (hn1 : ((n1 : Int) != 256 * (C.S : Int)) = false) (hn2 : ((n2 : Int) != 54 + 3 * (C.S : Int)) = true) : Calls Try.prog 12 #[.pointer (some ⟨p, 0, none⟩), .agg #[.int .i64 pb, .int .i64 pp], .agg #[.slice da n1 dc, .slice sa n2 sc]] w fun e w' => e = .returned (.int .i64 42) ∧ Below w.heap.size w w' := by
  obtain ⟨x, bs, fe, hc⟩ := h
  have hs := hok.s
  have g0 : (1 : Int) ≤ C.S := by omega
  have g1 : (C.S : Int) ≤ 8 := by omega
  have hK := (hc.below (below_alloc _ (.cells #[.int .i64 pb, .int .i64 pp] 51))).below (below_alloc _ (.cells #[.slice da n1 dc, .slice sa n2 sc] 43))
  have c11 := hK.box.c11
  rw [hc.dark, hd] at c11
  have HS3 : Hid (S3 (w.heap.size + 1) p da sa n1 dc n2 sc C ((w.alloc (.cells #[.int .i64 pb, .int .i64 pp] 51)).alloc (.cells #[.slice da n1 dc, .slice sa n2 sc] 43))) := by
    have e := alloc_new (w.alloc (.cells #[.int .i64 pb, .int .i64 pp] 51)) (.cells #[.slice da n1 dc, .slice sa n2 sc] 43)
    rw [alloc_size] at e
    obtain ⟨e0, e1⟩ := cells2 e
    have b0 := hK.box.c0
    have b1 := hK.box.c1
    have b2 := hK.box.c2
    rw [hK.B] at b0
    rw [hK.P] at b1
    rw [hK.S] at b2
    exact ⟨e0, e1, b0, b1, b2⟩
  clear hK hc
  go_enter Try.func12, Try.ntmps12
  go_wp2
  refine wp_region_held_drew (S := (fun u => u.cell? ⟨w.heap.size + 1, 0, none⟩ = some (.slice da n1 dc) ∧ u.cell? ⟨w.heap.size + 1, 1, none⟩ = some (.slice sa n2 sc) ∧ u.cell? ⟨p, 0, none⟩ = some (.int .i64 (C.B : Int)) ∧ u.cell? ⟨p, 1, none⟩ = some (.int .i64 (C.P : Int)) ∧ u.cell? ⟨p, 2, none⟩ = some (.int .i64 (C.S : Int)))) (by kernel_rfl) (pg_drew HS3.out) (fun hHeld => ?_)
  refine wpAnyH_take (i := 0) (oi := { dst := some 11, op := Op.fieldAddr 43 (Operand.tmp 5) 0, type := 0, pos := "commands.go:15", after := #[], guard := none }) (v := ?v0) rfl (by kernel_rfl) (by kernel_rfl) (by kernel_rfl) (fun _ _ _ h => h) (Or.inl ⟨by rfl, ?y0⟩) (by assumption) ?r0
  case y0 => (intro x hx; (try dsimp only at hx); go_simp; try with_reducible rfl)
  try simp only [Act.put, List.setIfInBounds_toArray, List.set_cons_zero, List.set_cons_succ]
  refine wpAnyH_take (i := 1) (oi := { dst := some 12, op := Op.load 32 (Operand.tmp 11), type := 32, pos := "commands.go:15", after := #[{ on := 0, ground := Ground.data }], guard := none }) (v := ?v1) rfl (by kernel_rfl) (by kernel_rfl) (by kernel_rfl) (fun _ _ _ h => h) (Or.inl ⟨by rfl, ?y1⟩) (by assumption) ?r1
  case y1 => (intro x hx; (try dsimp only at hx); go_simp; try with_reducible rfl)
  try simp only [Act.put, List.setIfInBounds_toArray, List.set_cons_zero, List.set_cons_succ]
  refine wpAnyH_take (i := 2) (oi := { dst := some 13, op := Op.call { callee := Callee.builtin Builtin.len, args := #[Operand.tmp 12], argTypes := #[32] }, type := 3, pos := "commands.go:15", after := #[{ on := 1, ground := Ground.data }], guard := none }) (v := ?v2) rfl (by kernel_rfl) (by kernel_rfl) (by kernel_rfl) (fun _ _ _ h => h) (Or.inl ⟨by rfl, ?y2⟩) (by assumption) ?r2
  case y2 => (intro x hx; (try dsimp only at hx); go_simp; try with_reducible rfl)
  try simp only [Act.put, List.setIfInBounds_toArray, List.set_cons_zero, List.set_cons_succ]
  refine wpAnyH_take (i := 3) (oi := { dst := some 14, op := Op.move (Operand.tmp 0), type := 27, pos := "commands.go:15", after := #[], guard := none }) (v := ?v3) rfl (by kernel_rfl) (by kernel_rfl) (by kernel_rfl) (fun _ _ _ h => h) (Or.inl ⟨by rfl, ?y3⟩) (by assumption) ?r3
  case y3 => (intro x hx; (try dsimp only at hx); go_simp; try with_reducible rfl)
  try simp only [Act.put, List.setIfInBounds_toArray, List.set_cons_zero, List.set_cons_succ]
  refine wpAnyH_take (i := 4) (oi := { dst := some 15, op := Op.nilCheck (Operand.tmp 14), type := 0, pos := "commands.go:15", after := #[{ on := 3, ground := Ground.data }], guard := none }) (v := ?v4) rfl (by kernel_rfl) (by kernel_rfl) (by kernel_rfl) (fun _ _ _ h => h) (Or.inl ⟨by rfl, ?y4⟩) (by assumption) ?r4
  case y4 => (intro x hx; (try dsimp only at hx); go_simp; try with_reducible rfl)
  try simp only [Act.put, List.setIfInBounds_toArray, List.set_cons_zero, List.set_cons_succ]
  refine wpAnyH_take (i := 5) (oi := { dst := some 16, op := Op.fieldAddr 71 (Operand.tmp 15) 0, type := 0, pos := "commands.go:15", after := #[{ on := 4, ground := Ground.data }], guard := none }) (v := ?v5) rfl (by kernel_rfl) (by kernel_rfl) (by kernel_rfl) (fun _ _ _ h => h) (Or.inl ⟨by rfl, ?y5⟩) (by assumption) ?r5
  case y5 => (intro x hx; (try dsimp only at hx); go_simp; try with_reducible rfl)
  try simp only [Act.put, List.setIfInBounds_toArray, List.set_cons_zero, List.set_cons_succ]
  refine wpAnyH_take (i := 6) (oi := { dst := some 17, op := Op.load 23 (Operand.tmp 16), type := 23, pos := "commands.go:15", after := #[{ on := 5, ground := Ground.data }], guard := none }) (v := ?v6) rfl (by kernel_rfl) (by kernel_rfl) (by kernel_rfl) (fun _ _ _ h => h) (Or.inl ⟨by rfl, ?y6⟩) (by assumption) ?r6
  case y6 => (intro x hx; (try dsimp only at hx); go_simp; try with_reducible rfl)
  try simp only [Act.put, List.setIfInBounds_toArray, List.set_cons_zero, List.set_cons_succ]
  refine wpAnyH_ready (rs := [7]) (by kernel_rfl) (by simp) ?_
  refine AllReadyH.cons (o := { dst := some 18, op := Op.call { callee := Callee.value (Operand.func 34), args := #[Operand.tmp 17], argTypes := #[23] }, type := 3, pos := "commands.go:15", after := #[{ on := 6, ground := Ground.data }], guard := none }) rfl (fun K hK => ?_) AllReadyH.nil
  go_simp
  go_at_call 34
  refine (data_any _ _ _ _ g0 g1).mono ?_
  rintro e u1 ⟨rfl, b1⟩
  have HB1 := hide (below_trans (drew_below _) b1)
  have hSnew := pg_keep HS3.out HB1.out
  clear b1
  go_wp2_with fail
  refine hK.out _ _ hSnew (fun hHeld7 => ?_)
  clear hK K hSnew
  clear hHeld
  have hHeld := hHeld7
  clear hHeld7
  try simp only [Act.put, List.setIfInBounds_toArray, List.set_cons_zero, List.set_cons_succ]
  refine wpAnyH_take (i := 8) (oi := { dst := some 19, op := Op.binOp BinOp.neq 3 (Operand.tmp 13) (Operand.tmp 18) 3, type := 4, pos := "commands.go:15", after := #[{ on := 2, ground := Ground.data }, { on := 7, ground := Ground.data }], guard := none }) (v := ?v8) rfl (by kernel_rfl) (by kernel_rfl) (by kernel_rfl) (fun _ _ _ h => h) (Or.inl ⟨by rfl, ?y8⟩) (by assumption) ?r8
  case y8 => (intro x hx; (try dsimp only at hx); go_simp; try with_reducible rfl)
  try simp only [Act.put, List.setIfInBounds_toArray, List.set_cons_zero, List.set_cons_succ]
  refine wpAnyH_take (i := 9) (oi := { dst := some 20, op := Op.move (Operand.tmp 19), type := 4, pos := "commands.go:15", after := #[{ on := 8, ground := Ground.data }, { on := 7, ground := Ground.chain }], guard := none }) (v := ?v9) rfl (by kernel_rfl) (by kernel_rfl) (by kernel_rfl) (fun _ _ _ h => h) (Or.inl ⟨by rfl, ?y9⟩) (by assumption) ?r9
  case y9 => (intro x hx; (try dsimp only at hx); go_simp; try with_reducible rfl)
  try simp only [Act.put, List.setIfInBounds_toArray, List.set_cons_zero, List.set_cons_succ]
  refine wpAnyH_take (i := 10) (oi := { dst := some 21, op := Op.fieldAddr 43 (Operand.tmp 5) 1, type := 0, pos := "commands.go:15", after := #[{ on := 9, ground := Ground.guard }], guard := some (9, false) }) (v := ?v10) rfl (by kernel_rfl) (by kernel_rfl) (by kernel_rfl) (fun _ _ _ h => h) (Or.inl ⟨by rfl, ?y10⟩) (by assumption) ?r10
  case y10 => (intro x hx; (try dsimp only at hx); go_simp; try with_reducible rfl)
  try simp only [Act.put, List.setIfInBounds_toArray, List.set_cons_zero, List.set_cons_succ]
  refine wpAnyH_take (i := 11) (oi := { dst := some 22, op := Op.load 32 (Operand.tmp 21), type := 32, pos := "commands.go:15", after := #[{ on := 10, ground := Ground.data }, { on := 9, ground := Ground.guard }], guard := some (9, false) }) (v := ?v11) rfl (by kernel_rfl) (by kernel_rfl) (by kernel_rfl) (fun _ _ _ h => h) (Or.inl ⟨by rfl, ?y11⟩) (by assumption) ?r11
  case y11 => (intro x hx; (try dsimp only at hx); go_simp; try with_reducible rfl)
  try simp only [Act.put, List.setIfInBounds_toArray, List.set_cons_zero, List.set_cons_succ]
  refine wpAnyH_take (i := 12) (oi := { dst := some 23, op := Op.call { callee := Callee.builtin Builtin.len, args := #[Operand.tmp 22], argTypes := #[32] }, type := 3, pos := "commands.go:15", after := #[{ on := 11, ground := Ground.data }, { on := 9, ground := Ground.guard }], guard := some (9, false) }) (v := ?v12) rfl (by kernel_rfl) (by kernel_rfl) (by kernel_rfl) (fun _ _ _ h => h) (Or.inl ⟨by rfl, ?y12⟩) (by assumption) ?r12
  case y12 => (intro x hx; (try dsimp only at hx); go_simp; try with_reducible rfl)
  try simp only [Act.put, List.setIfInBounds_toArray, List.set_cons_zero, List.set_cons_succ]
  refine wpAnyH_take (i := 13) (oi := { dst := some 24, op := Op.move (Operand.tmp 0), type := 27, pos := "commands.go:15", after := #[{ on := 9, ground := Ground.guard }], guard := some (9, false) }) (v := ?v13) rfl (by kernel_rfl) (by kernel_rfl) (by kernel_rfl) (fun _ _ _ h => h) (Or.inl ⟨by rfl, ?y13⟩) (by assumption) ?r13
  case y13 => (intro x hx; (try dsimp only at hx); go_simp; try with_reducible rfl)
  try simp only [Act.put, List.setIfInBounds_toArray, List.set_cons_zero, List.set_cons_succ]
  refine wpAnyH_take (i := 14) (oi := { dst := some 25, op := Op.nilCheck (Operand.tmp 24), type := 0, pos := "commands.go:15", after := #[{ on := 13, ground := Ground.data }, { on := 9, ground := Ground.guard }], guard := some (9, false) }) (v := ?v14) rfl (by kernel_rfl) (by kernel_rfl) (by kernel_rfl) (fun _ _ _ h => h) (Or.inl ⟨by rfl, ?y14⟩) (by assumption) ?r14
  case y14 => (intro x hx; (try dsimp only at hx); go_simp; try with_reducible rfl)
  try simp only [Act.put, List.setIfInBounds_toArray, List.set_cons_zero, List.set_cons_succ]
  refine wpAnyH_take (i := 15) (oi := { dst := some 26, op := Op.fieldAddr 71 (Operand.tmp 25) 0, type := 0, pos := "commands.go:15", after := #[{ on := 14, ground := Ground.data }, { on := 9, ground := Ground.guard }], guard := some (9, false) }) (v := ?v15) rfl (by kernel_rfl) (by kernel_rfl) (by kernel_rfl) (fun _ _ _ h => h) (Or.inl ⟨by rfl, ?y15⟩) (by assumption) ?r15
  case y15 => (intro x hx; (try dsimp only at hx); go_simp; try with_reducible rfl)
  try simp only [Act.put, List.setIfInBounds_toArray, List.set_cons_zero, List.set_cons_succ]
  refine wpAnyH_take (i := 16) (oi := { dst := some 27, op := Op.load 23 (Operand.tmp 26), type := 23, pos := "commands.go:15", after := #[{ on := 15, ground := Ground.data }, { on := 9, ground := Ground.guard }], guard := some (9, false) }) (v := ?v16) rfl (by kernel_rfl) (by kernel_rfl) (by kernel_rfl) (fun _ _ _ h => h) (Or.inl ⟨by rfl, ?y16⟩) (by assumption) ?r16
  case y16 => (intro x hx; (try dsimp only at hx); go_simp; try with_reducible rfl)
  try simp only [Act.put, List.setIfInBounds_toArray, List.set_cons_zero, List.set_cons_succ]
  refine wpAnyH_ready (rs := [17]) (by kernel_rfl) (by simp) ?_
  refine AllReadyH.cons (o := { dst := some 28, op := Op.call { callee := Callee.value (Operand.func 32), args := #[Operand.tmp 27], argTypes := #[23] }, type := 3, pos := "commands.go:15", after := #[{ on := 16, ground := Ground.data }, { on := 9, ground := Ground.chain }, { on := 9, ground := Ground.guard }], guard := some (9, false) }) rfl (fun K hK => ?_) AllReadyH.nil
  go_simp
  go_at_call 32
  refine (spareB_any _ _ _ _ g0 g1).mono ?_
  rintro e u2 ⟨rfl, b2⟩
  have HB2 := hide (below_trans HB1.out b2)
  have hSnew := pg_keep HS3.out HB2.out
  clear b2
  go_wp2_with fail
  refine hK.out _ _ hSnew (fun hHeld17 => ?_)
  clear hK K hSnew
  clear hHeld
  have hHeld := hHeld17
  clear hHeld17
  try simp only [Act.put, List.setIfInBounds_toArray, List.set_cons_zero, List.set_cons_succ]
  refine wpAnyH_take (i := 18) (oi := { dst := some 29, op := Op.binOp BinOp.neq 3 (Operand.tmp 23) (Operand.tmp 28) 3, type := 4, pos := "commands.go:15", after := #[{ on := 12, ground := Ground.data }, { on := 17, ground := Ground.data }, { on := 9, ground := Ground.guard }], guard := some (9, false) }) (v := ?v18) rfl (by kernel_rfl) (by kernel_rfl) (by kernel_rfl) (fun _ _ _ h => h) (Or.inl ⟨by rfl, ?y18⟩) (by assumption) ?r18
  case y18 => (intro x hx; (try dsimp only at hx); go_simp; try with_reducible rfl)
  try simp only [Act.put, List.setIfInBounds_toArray, List.set_cons_zero, List.set_cons_succ]
  refine wpAnyH_take (i := 19) (oi := { dst := some 30, op := Op.pick (Operand.tmp 20) (Operand.const (Value.bool true)) (Operand.tmp 29), type := 4, pos := "commands.go:15", after := #[{ on := 9, ground := Ground.data }, { on := 18, ground := Ground.data }], guard := none }) (v := ?v19) rfl (by kernel_rfl) (by kernel_rfl) (by kernel_rfl) (fun _ _ _ h => h) (Or.inl ⟨by rfl, ?y19⟩) (by assumption) ?r19
  case y19 => (intro x hx; (try dsimp only at hx); go_simp; try with_reducible rfl)
  try simp only [Act.put, List.setIfInBounds_toArray, List.set_cons_zero, List.set_cons_succ]
  refine wpAnyH_done (by kernel_rfl) ?_ _
  clear hHeld
  go_wp2
  go_ret
  exact ⟨rfl, below_trans (below_trans (below_alloc _ _) (below_alloc _ _)) HB2.out⟩

set_option maxRecDepth 100000 in
set_option maxHeartbeats 1000000 in
theorem Program_ok (w : World) (p : Nat) (F : Nat → Prop) (C : Ch) (h : ChipAt w p F C) (hok : C.Ok) (pb pp : Int) (da sa : Option Addr) (n1 dc n2 sc : Nat) (hl1 : n1 ≤ 140737488355000) (hl2 : n2 ≤ 140737488355000) (htr : C.tr.length ≤ 3000000000000) (hd : C.dark = false) (hn1 : ((n1 : Int) != 256 * (C.S : Int)) = false) (hn2 : ((n2 : Int) != 54 + 3 * (C.S : Int)) = false)
    (zd zp : List Int) (hD : Reads w da n1 zd) (hZ : Reads w sa n2 zp) (hdF : ∀ y, da = some y → ¬ F y.block) (hzF : ∀ y, sa = some y → ¬ F y.block) :
    Calls Try.prog 12 #[.pointer (some ⟨p, 0, none⟩), .agg #[.int .i64 pb, .int .i64 pp], .agg #[.slice da n1 dc, .slice sa n2 sc]] w fun e w' => e = .returned (.int .i64 (noteC 1 pb pp (progC C pb pp (zd ++ zp))).1) ∧ ChipAt w' p (Fx F w w') (noteC 1 pb pp (progC C pb pp (zd ++ zp))).2 ∧ Only F w w' := by
  obtain ⟨x, bs, fe, hc⟩ := h
  have hs := hok.s
  have g0 : (1 : Int) ≤ C.S := by omega
  have g1 : (C.S : Int) ≤ 8 := by omega
  have hK := (hc.below (below_alloc _ (.cells #[.int .i64 pb, .int .i64 pp] 51))).below (below_alloc _ (.cells #[.slice da n1 dc, .slice sa n2 sc] 43))
  have c11 := hK.box.c11
  rw [hc.dark, hd] at c11
  have HS3 : Hid (S3 (w.heap.size + 1) p da sa n1 dc n2 sc C ((w.alloc (.cells #[.int .i64 pb, .int .i64 pp] 51)).alloc (.cells #[.slice da n1 dc, .slice sa n2 sc] 43))) := by
    have e := alloc_new (w.alloc (.cells #[.int .i64 pb, .int .i64 pp] 51)) (.cells #[.slice da n1 dc, .slice sa n2 sc] 43)
    rw [alloc_size] at e
    obtain ⟨e0, e1⟩ := cells2 e
    have b0 := hK.box.c0
    have b1 := hK.box.c1
    have b2 := hK.box.c2
    rw [hK.B] at b0
    rw [hK.P] at b1
    rw [hK.S] at b2
    exact ⟨e0, e1, b0, b1, b2⟩
  have HCH : Hid (ChipAt w p F C) := ⟨x, bs, fe, hc⟩
  have HFW : Hid (∀ k, F k → k < w.heap.size) := hc.fin
  have HFN : Hid (¬ F w.heap.size ∧ ¬ F (w.heap.size + 1)) := ⟨fun e => by have := HFW.out _ e; omega, fun e => by have := HFW.out _ e; omega⟩
  have HN : Hid (n1 = 256 * C.S ∧ n2 = 54 + 3 * C.S) := by
    have e1 : (n1 : Int) = 256 * C.S := by simpa using hn1
    have e2 : (n2 : Int) = 54 + 3 * C.S := by simpa using hn2
    constructor <;> omega
  have hcn := hok.cnt
  have HD := hide hD
  have HZ := hide hZ
  have HDF := hide hdF
  have HZF := hide hzF
  have HS5 : Hid (S5 w.heap.size pb pp da sa n1 dc n2 sc ((w.alloc (.cells #[.int .i64 pb, .int .i64 pp] 51)).alloc (.cells #[.slice da n1 dc, .slice sa n2 sc] 43))) := by
    obtain ⟨e0, e1⟩ := cells2 ((alloc_old (w.alloc (.cells #[.int .i64 pb, .int .i64 pp] 51)) (.cells #[.slice da n1 dc, .slice sa n2 sc] 43) (by simp)).trans (alloc_new w (.cells #[.int .i64 pb, .int .i64 pp] 51)))
    exact ⟨e0, e1, HS3.out.1, HS3.out.2.1⟩
  clear hK hc hD hZ hdF hzF
  go_enter Try.func12, Try.ntmps12
  go_wp2
  refine wp_region_held_drew (S := (fun u => u.cell? ⟨w.heap.size + 1, 0, none⟩ = some (.slice da n1 dc) ∧ u.cell? ⟨w.heap.size + 1, 1, none⟩ = some (.slice sa n2 sc) ∧ u.cell? ⟨p, 0, none⟩ = some (.int .i64 (C.B : Int)) ∧ u.cell? ⟨p, 1, none⟩ = some (.int .i64 (C.P : Int)) ∧ u.cell? ⟨p, 2, none⟩ = some (.int .i64 (C.S : Int)))) (by kernel_rfl) (pg_drew HS3.out) (fun hHeld => ?_)
  refine wpAnyH_take (i := 0) (oi := { dst := some 11, op := Op.fieldAddr 43 (Operand.tmp 5) 0, type := 0, pos := "commands.go:15", after := #[], guard := none }) (v := ?v0) rfl (by kernel_rfl) (by kernel_rfl) (by kernel_rfl) (fun _ _ _ h => h) (Or.inl ⟨by rfl, ?y0⟩) (by assumption) ?r0
  case y0 => (intro x hx; (try dsimp only at hx); go_simp; try with_reducible rfl)
  try simp only [Act.put, List.setIfInBounds_toArray, List.set_cons_zero, List.set_cons_succ]
  refine wpAnyH_take (i := 1) (oi := { dst := some 12, op := Op.load 32 (Operand.tmp 11), type := 32, pos := "commands.go:15", after := #[{ on := 0, ground := Ground.data }], guard := none }) (v := ?v1) rfl (by kernel_rfl) (by kernel_rfl) (by kernel_rfl) (fun _ _ _ h => h) (Or.inl ⟨by rfl, ?y1⟩) (by assumption) ?r1
  case y1 => (intro x hx; (try dsimp only at hx); go_simp; try with_reducible rfl)
  try simp only [Act.put, List.setIfInBounds_toArray, List.set_cons_zero, List.set_cons_succ]
  refine wpAnyH_take (i := 2) (oi := { dst := some 13, op := Op.call { callee := Callee.builtin Builtin.len, args := #[Operand.tmp 12], argTypes := #[32] }, type := 3, pos := "commands.go:15", after := #[{ on := 1, ground := Ground.data }], guard := none }) (v := ?v2) rfl (by kernel_rfl) (by kernel_rfl) (by kernel_rfl) (fun _ _ _ h => h) (Or.inl ⟨by rfl, ?y2⟩) (by assumption) ?r2
  case y2 => (intro x hx; (try dsimp only at hx); go_simp; try with_reducible rfl)
  try simp only [Act.put, List.setIfInBounds_toArray, List.set_cons_zero, List.set_cons_succ]
  refine wpAnyH_take (i := 3) (oi := { dst := some 14, op := Op.move (Operand.tmp 0), type := 27, pos := "commands.go:15", after := #[], guard := none }) (v := ?v3) rfl (by kernel_rfl) (by kernel_rfl) (by kernel_rfl) (fun _ _ _ h => h) (Or.inl ⟨by rfl, ?y3⟩) (by assumption) ?r3
  case y3 => (intro x hx; (try dsimp only at hx); go_simp; try with_reducible rfl)
  try simp only [Act.put, List.setIfInBounds_toArray, List.set_cons_zero, List.set_cons_succ]
  refine wpAnyH_take (i := 4) (oi := { dst := some 15, op := Op.nilCheck (Operand.tmp 14), type := 0, pos := "commands.go:15", after := #[{ on := 3, ground := Ground.data }], guard := none }) (v := ?v4) rfl (by kernel_rfl) (by kernel_rfl) (by kernel_rfl) (fun _ _ _ h => h) (Or.inl ⟨by rfl, ?y4⟩) (by assumption) ?r4
  case y4 => (intro x hx; (try dsimp only at hx); go_simp; try with_reducible rfl)
  try simp only [Act.put, List.setIfInBounds_toArray, List.set_cons_zero, List.set_cons_succ]
  refine wpAnyH_take (i := 5) (oi := { dst := some 16, op := Op.fieldAddr 71 (Operand.tmp 15) 0, type := 0, pos := "commands.go:15", after := #[{ on := 4, ground := Ground.data }], guard := none }) (v := ?v5) rfl (by kernel_rfl) (by kernel_rfl) (by kernel_rfl) (fun _ _ _ h => h) (Or.inl ⟨by rfl, ?y5⟩) (by assumption) ?r5
  case y5 => (intro x hx; (try dsimp only at hx); go_simp; try with_reducible rfl)
  try simp only [Act.put, List.setIfInBounds_toArray, List.set_cons_zero, List.set_cons_succ]
  refine wpAnyH_take (i := 6) (oi := { dst := some 17, op := Op.load 23 (Operand.tmp 16), type := 23, pos := "commands.go:15", after := #[{ on := 5, ground := Ground.data }], guard := none }) (v := ?v6) rfl (by kernel_rfl) (by kernel_rfl) (by kernel_rfl) (fun _ _ _ h => h) (Or.inl ⟨by rfl, ?y6⟩) (by assumption) ?r6
  case y6 => (intro x hx; (try dsimp only at hx); go_simp; try with_reducible rfl)
  try simp only [Act.put, List.setIfInBounds_toArray, List.set_cons_zero, List.set_cons_succ]
  refine wpAnyH_ready (rs := [7]) (by kernel_rfl) (by simp) ?_
  refine AllReadyH.cons (o := { dst := some 18, op := Op.call { callee := Callee.value (Operand.func 34), args := #[Operand.tmp 17], argTypes := #[23] }, type := 3, pos := "commands.go:15", after := #[{ on := 6, ground := Ground.data }], guard := none }) rfl (fun K hK => ?_) AllReadyH.nil
  go_simp
  go_at_call 34
  refine (data_any _ _ _ _ g0 g1).mono ?_
  rintro e u1 ⟨rfl, b1⟩
  have HB1 := hide (below_trans (drew_below _) b1)
  have hSnew := pg_keep HS3.out HB1.out
  clear b1
  go_wp2_with fail
  refine hK.out _ _ hSnew (fun hHeld7 => ?_)
  clear hK K hSnew
  clear hHeld
  have hHeld := hHeld7
  clear hHeld7
  try simp only [Act.put, List.setIfInBounds_toArray, List.set_cons_zero, List.set_cons_succ]
  refine wpAnyH_take (i := 8) (oi := { dst := some 19, op := Op.binOp BinOp.neq 3 (Operand.tmp 13) (Operand.tmp 18) 3, type := 4, pos := "commands.go:15", after := #[{ on := 2, ground := Ground.data }, { on := 7, ground := Ground.data }], guard := none }) (v := ?v8) rfl (by kernel_rfl) (by kernel_rfl) (by kernel_rfl) (fun _ _ _ h => h) (Or.inl ⟨by rfl, ?y8⟩) (by assumption) ?r8
  case y8 => (intro x hx; (try dsimp only at hx); go_simp; try with_reducible rfl)
  try simp only [Act.put, List.setIfInBounds_toArray, List.set_cons_zero, List.set_cons_succ]
  refine wpAnyH_take (i := 9) (oi := { dst := some 20, op := Op.move (Operand.tmp 19), type := 4, pos := "commands.go:15", after := #[{ on := 8, ground := Ground.data }, { on := 7, ground := Ground.chain }], guard := none }) (v := ?v9) rfl (by kernel_rfl) (by kernel_rfl) (by kernel_rfl) (fun _ _ _ h => h) (Or.inl ⟨by rfl, ?y9⟩) (by assumption) ?r9
  case y9 => (intro x hx; (try dsimp only at hx); go_simp; try with_reducible rfl)
  try simp only [Act.put, List.setIfInBounds_toArray, List.set_cons_zero, List.set_cons_succ]
  refine wpAnyH_take (i := 10) (oi := { dst := some 21, op := Op.fieldAddr 43 (Operand.tmp 5) 1, type := 0, pos := "commands.go:15", after := #[{ on := 9, ground := Ground.guard }], guard := some (9, false) }) (v := ?v10) rfl (by kernel_rfl) (by kernel_rfl) (by kernel_rfl) (fun _ _ _ h => h) (Or.inl ⟨by rfl, ?y10⟩) (by assumption) ?r10
  case y10 => (intro x hx; (try dsimp only at hx); go_simp; try with_reducible rfl)
  try simp only [Act.put, List.setIfInBounds_toArray, List.set_cons_zero, List.set_cons_succ]
  refine wpAnyH_take (i := 11) (oi := { dst := some 22, op := Op.load 32 (Operand.tmp 21), type := 32, pos := "commands.go:15", after := #[{ on := 10, ground := Ground.data }, { on := 9, ground := Ground.guard }], guard := some (9, false) }) (v := ?v11) rfl (by kernel_rfl) (by kernel_rfl) (by kernel_rfl) (fun _ _ _ h => h) (Or.inl ⟨by rfl, ?y11⟩) (by assumption) ?r11
  case y11 => (intro x hx; (try dsimp only at hx); go_simp; try with_reducible rfl)
  try simp only [Act.put, List.setIfInBounds_toArray, List.set_cons_zero, List.set_cons_succ]
  refine wpAnyH_take (i := 12) (oi := { dst := some 23, op := Op.call { callee := Callee.builtin Builtin.len, args := #[Operand.tmp 22], argTypes := #[32] }, type := 3, pos := "commands.go:15", after := #[{ on := 11, ground := Ground.data }, { on := 9, ground := Ground.guard }], guard := some (9, false) }) (v := ?v12) rfl (by kernel_rfl) (by kernel_rfl) (by kernel_rfl) (fun _ _ _ h => h) (Or.inl ⟨by rfl, ?y12⟩) (by assumption) ?r12
  case y12 => (intro x hx; (try dsimp only at hx); go_simp; try with_reducible rfl)
  try simp only [Act.put, List.setIfInBounds_toArray, List.set_cons_zero, List.set_cons_succ]
  refine wpAnyH_take (i := 13) (oi := { dst := some 24, op := Op.move (Operand.tmp 0), type := 27, pos := "commands.go:15", after := #[{ on := 9, ground := Ground.guard }], guard := some (9, false) }) (v := ?v13) rfl (by kernel_rfl) (by kernel_rfl) (by kernel_rfl) (fun _ _ _ h => h) (Or.inl ⟨by rfl, ?y13⟩) (by assumption) ?r13
  case y13 => (intro x hx; (try dsimp only at hx); go_simp; try with_reducible rfl)
  try simp only [Act.put, List.setIfInBounds_toArray, List.set_cons_zero, List.set_cons_succ]
  refine wpAnyH_take (i := 14) (oi := { dst := some 25, op := Op.nilCheck (Operand.tmp 24), type := 0, pos := "commands.go:15", after := #[{ on := 13, ground := Ground.data }, { on := 9, ground := Ground.guard }], guard := some (9, false) }) (v := ?v14) rfl (by kernel_rfl) (by kernel_rfl) (by kernel_rfl) (fun _ _ _ h => h) (Or.inl ⟨by rfl, ?y14⟩) (by assumption) ?r14
  case y14 => (intro x hx; (try dsimp only at hx); go_simp; try with_reducible rfl)
  try simp only [Act.put, List.setIfInBounds_toArray, List.set_cons_zero, List.set_cons_succ]
  refine wpAnyH_take (i := 15) (oi := { dst := some 26, op := Op.fieldAddr 71 (Operand.tmp 25) 0, type := 0, pos := "commands.go:15", after := #[{ on := 14, ground := Ground.data }, { on := 9, ground := Ground.guard }], guard := some (9, false) }) (v := ?v15) rfl (by kernel_rfl) (by kernel_rfl) (by kernel_rfl) (fun _ _ _ h => h) (Or.inl ⟨by rfl, ?y15⟩) (by assumption) ?r15
  case y15 => (intro x hx; (try dsimp only at hx); go_simp; try with_reducible rfl)
  try simp only [Act.put, List.setIfInBounds_toArray, List.set_cons_zero, List.set_cons_succ]
  refine wpAnyH_take (i := 16) (oi := { dst := some 27, op := Op.load 23 (Operand.tmp 26), type := 23, pos := "commands.go:15", after := #[{ on := 15, ground := Ground.data }, { on := 9, ground := Ground.guard }], guard := some (9, false) }) (v := ?v16) rfl (by kernel_rfl) (by kernel_rfl) (by kernel_rfl) (fun _ _ _ h => h) (Or.inl ⟨by rfl, ?y16⟩) (by assumption) ?r16
  case y16 => (intro x hx; (try dsimp only at hx); go_simp; try with_reducible rfl)
  try simp only [Act.put, List.setIfInBounds_toArray, List.set_cons_zero, List.set_cons_succ]
  refine wpAnyH_ready (rs := [17]) (by kernel_rfl) (by simp) ?_
  refine AllReadyH.cons (o := { dst := some 28, op := Op.call { callee := Callee.value (Operand.func 32), args := #[Operand.tmp 27], argTypes := #[23] }, type := 3, pos := "commands.go:15", after := #[{ on := 16, ground := Ground.data }, { on := 9, ground := Ground.chain }, { on := 9, ground := Ground.guard }], guard := some (9, false) }) rfl (fun K hK => ?_) AllReadyH.nil
  go_simp
  go_at_call 32
  refine (spareB_any _ _ _ _ g0 g1).mono ?_
  rintro e u2 ⟨rfl, b2⟩
  have HB2 := hide (below_trans HB1.out b2)
  have hSnew := pg_keep HS3.out HB2.out
  clear b2
  go_wp2_with fail
  refine hK.out _ _ hSnew (fun hHeld17 => ?_)
  clear hK K hSnew
  clear hHeld
  have hHeld := hHeld17
  clear hHeld17
  try simp only [Act.put, List.setIfInBounds_toArray, List.set_cons_zero, List.set_cons_succ]
  refine wpAnyH_take (i := 18) (oi := { dst := some 29, op := Op.binOp BinOp.neq 3 (Operand.tmp 23) (Operand.tmp 28) 3, type := 4, pos := "commands.go:15", after := #[{ on := 12, ground := Ground.data }, { on := 17, ground := Ground.data }, { on := 9, ground := Ground.guard }], guard := some (9, false) }) (v := ?v18) rfl (by kernel_rfl) (by kernel_rfl) (by kernel_rfl) (fun _ _ _ h => h) (Or.inl ⟨by rfl, ?y18⟩) (by assumption) ?r18
  case y18 => (intro x hx; (try dsimp only at hx); go_simp; try with_reducible rfl)
  try simp only [Act.put, List.setIfInBounds_toArray, List.set_cons_zero, List.set_cons_succ]
  refine wpAnyH_take (i := 19) (oi := { dst := some 30, op := Op.pick (Operand.tmp 20) (Operand.const (Value.bool true)) (Operand.tmp 29), type := 4, pos := "commands.go:15", after := #[{ on := 9, ground := Ground.data }, { on := 18, ground := Ground.data }], guard := none }) (v := ?v19) rfl (by kernel_rfl) (by kernel_rfl) (by kernel_rfl) (fun _ _ _ h => h) (Or.inl ⟨by rfl, ?y19⟩) (by assumption) ?r19
  case y19 => (intro x hx; (try dsimp only at hx); go_simp; try with_reducible rfl)
  try simp only [Act.put, List.setIfInBounds_toArray, List.set_cons_zero, List.set_cons_succ]
  refine wpAnyH_done (by kernel_rfl) ?_ _
  clear hHeld
  have HB2d : Hid (Below w.heap.size w u2.drew) := below_trans (below_trans (below_trans (below_alloc _ _) (below_alloc _ _)) HB2.out) (drew_below _)
  have HS5d := hide (s5_keep (F := fun _ => False) HS5.out (Only.ofB HB2.out) ⟨fun h => h, fun h => h⟩)
  go_wp2
  refine wp_region_held_drew (S := (fun u => u.cell? ⟨w.heap.size, 0, none⟩ = some (.int .i64 pb) ∧ u.cell? ⟨w.heap.size, 1, none⟩ = some (.int .i64 pp) ∧ u.cell? ⟨w.heap.size + 1, 0, none⟩ = some (.slice da n1 dc) ∧ u.cell? ⟨w.heap.size + 1, 1, none⟩ = some (.slice sa n2 sc))) (by kernel_rfl) (s5_drew HS5d.out) (fun hHeld => ?_)
  refine wpAnyH_take (i := 0) (oi := { dst := some 31, op := Op.move (Operand.tmp 0), type := 27, pos := "commands.go:18", after := #[], guard := none }) (v := ?v0z) rfl (by kernel_rfl) (by kernel_rfl) (by kernel_rfl) (fun _ _ _ h => h) (Or.inl ⟨by rfl, ?y0z⟩) (by assumption) ?r0z
  case y0z => (intro x hx; (try dsimp only at hx); go_simp; try with_reducible rfl)
  try simp only [Act.put, List.setIfInBounds_toArray, List.set_cons_zero, List.set_cons_succ]
  refine wpAnyH_take (i := 1) (oi := { dst := some 32, op := Op.load 51 (Operand.tmp 4), type := 51, pos := "commands.go:18", after := #[], guard := none }) (v := ?v1z) rfl (by kernel_rfl) (by kernel_rfl) (by kernel_rfl) (fun _ _ _ h => h) (Or.inl ⟨by rfl, ?y1z⟩) (by assumption) ?r1z
  case y1z => (intro x hx; (try dsimp only at hx); go_simp; try with_reducible rfl)
  try simp only [Act.put, List.setIfInBounds_toArray, List.set_cons_zero, List.set_cons_succ]
  refine wpAnyH_take (i := 2) (oi := { dst := some 33, op := Op.move (Operand.tmp 0), type := 27, pos := "commands.go:18", after := #[], guard := none }) (v := ?v2z) rfl (by kernel_rfl) (by kernel_rfl) (by kernel_rfl) (fun _ _ _ h => h) (Or.inl ⟨by rfl, ?y2z⟩) (by assumption) ?r2z
  case y2z => (intro x hx; (try dsimp only at hx); go_simp; try with_reducible rfl)
  try simp only [Act.put, List.setIfInBounds_toArray, List.set_cons_zero, List.set_cons_succ]
  refine wpAnyH_take (i := 3) (oi := { dst := some 34, op := Op.load 51 (Operand.tmp 4), type := 51, pos := "commands.go:18", after := #[], guard := none }) (v := ?v3z) rfl (by kernel_rfl) (by kernel_rfl) (by kernel_rfl) (fun _ _ _ h => h) (Or.inl ⟨by rfl, ?y3z⟩) (by assumption) ?r3z
  case y3z => (intro x hx; (try dsimp only at hx); go_simp; try with_reducible rfl)
  try simp only [Act.put, List.setIfInBounds_toArray, List.set_cons_zero, List.set_cons_succ]
  refine wpAnyH_take (i := 4) (oi := { dst := some 35, op := Op.load 43 (Operand.tmp 5), type := 43, pos := "commands.go:18", after := #[], guard := none }) (v := ?v4z) rfl (by kernel_rfl) (by kernel_rfl) (by kernel_rfl) (fun _ _ _ h => h) (Or.inl ⟨by rfl, ?y4z⟩) (by assumption) ?r4z
  case y4z => (intro x hx; (try dsimp only at hx); go_simp; try with_reducible rfl)
  try simp only [Act.put, List.setIfInBounds_toArray, List.set_cons_zero, List.set_cons_succ]
  refine wpAnyH_ready (rs := [5]) (by kernel_rfl) (by simp) ?_
  refine AllReadyH.cons (o := { dst := some 36, op := Op.call { callee := Callee.value (Operand.func 36), args := #[Operand.tmp 33, Operand.tmp 34, Operand.tmp 35], argTypes := #[27, 51, 43] }, type := 28, pos := "commands.go:18", after := #[{ on := 2, ground := Ground.data }, { on := 3, ground := Ground.data }, { on := 4, ground := Ground.data }], guard := none }) rfl (fun K hK => ?_) AllReadyH.nil
  go_simp
  go_at_call 36
  refine (program_any _ p F C (HCH.out.below HB2d.out) hok (by omega) pb pp da sa n1 dc n2 sc zd zp HN.out.1 HN.out.2 (HD.out.below HB2d.out) (HZ.out.below HB2d.out) HDF.out HZF.out).mono ?_
  rintro e u3 ⟨rfl, k1, k2⟩
  have HC3 := hide k1
  have HO3 := hide (Only.trans (Only.ofB HB2d.out) k2 (fun _ _ h => h))
  have HO3d := hide k2
  have hSnew := s5_keep (s5_drew HS5d.out) HO3d.out HFN.out
  clear k1 k2
  go_wp2_with fail
  refine hK.out _ _ hSnew (fun hHeld5 => ?_)
  clear hK K hSnew
  clear hHeld
  have hHeld := hHeld5
  clear hHeld5
  try simp only [Act.put, List.setIfInBounds_toArray, List.set_cons_zero, List.set_cons_succ]
  refine wpAnyH_ready (rs := [6]) (by kernel_rfl) (by simp) ?_
  refine AllReadyH.cons (o := { dst := some 37, op := Op.call { callee := Callee.value (Operand.func 35), args := #[Operand.tmp 31, Operand.const (Value.int IntKind.i64 1), Operand.tmp 32, Operand.tmp 36], argTypes := #[27, 3, 51, 28] }, type := 28, pos := "commands.go:18", after := #[{ on := 0, ground := Ground.data }, { on := 1, ground := Ground.data }, { on := 5, ground := Ground.data }, { on := 5, ground := Ground.chain }], guard := none }) rfl (fun K hK => ?_) AllReadyH.nil
  go_simp
  go_at_call 35
  obtain ⟨x3, bs3, fe3, hc3⟩ := HC3.out
  refine (note_any _ p _ _ x3 bs3 fe3 hc3 (by rw [progC_tr]; omega) 1 pb pp _).mono ?_
  rintro e u4 ⟨rfl, k1, k2⟩
  have HC4 := hide k1
  have HO4 := hide k2
  have HFX : Hid (¬ Fx F u2.drew u3 w.heap.size ∧ ¬ Fx F u2.drew u3 (w.heap.size + 1)) := fx_not HFN.out (block_lt_of_cell HS5d.out.2.2.1)
  have hSnew := s5_keep (s5_keep (s5_drew HS5d.out) HO3d.out HFN.out) HO4.out HFX.out
  clear k1 k2 hc3
  go_wp2_with fail
  refine hK.out _ _ hSnew (fun hHeld6 => ?_)
  clear hK K hSnew
  clear hHeld
  have hHeld := hHeld6
  clear hHeld6
  try simp only [Act.put, List.setIfInBounds_toArray, List.set_cons_zero, List.set_cons_succ]
  refine wpAnyH_take (i := 7) (oi := { dst := some 6, op := Op.assign (Operand.tmp 37), type := 28, pos := "commands.go:18", after := #[{ on := 6, ground := Ground.data }, { on := 6, ground := Ground.chain }, { on := 0, ground := Ground.phase }, { on := 1, ground := Ground.phase }, { on := 2, ground := Ground.phase }, { on := 3, ground := Ground.phase }, { on := 4, ground := Ground.phase }, { on := 5, ground := Ground.phase }, { on := 6, ground := Ground.phase }], guard := none }) (v := ?v7z) rfl (by kernel_rfl) (by kernel_rfl) (by kernel_rfl) (fun _ _ _ h => h) (Or.inl ⟨by rfl, ?y7z⟩) (by assumption) ?r7z
  case y7z => (intro x hx; (try dsimp only at hx); go_simp; try with_reducible rfl)
  try simp only [Act.put, List.setIfInBounds_toArray, List.set_cons_zero, List.set_cons_succ]
  refine wpAnyH_done (by kernel_rfl) ?_ _
  clear hHeld
  go_wp2
  go_ret
  refine ⟨rfl, ?_, ?_⟩
  · exact HC4.out.grow (Below.refl _ _) (fun k hk => by
      rcases hk with (h1 | h1) | h1
      · exact Or.inl h1
      · exact Or.inr ⟨Nat.le_trans HB2d.out.size h1.1, Nat.lt_of_lt_of_le h1.2 HO4.out.size⟩
      · exact Or.inr ⟨Nat.le_trans HO3.out.size h1.1, h1.2⟩) (fun k hk => Or.elim hk (fun h1 => Nat.lt_of_lt_of_le (HFW.out k h1) (Nat.le_trans HO3.out.size HO4.out.size)) (fun h1 => h1.2))
  · exact HO3.out.trans HO4.out (fun j hj e => by
      rcases e with e | e
      · exact e
      · exact absurd (Nat.le_trans HB2d.out.size e.1) (by omega))

theorem Program_any (w : World) (p : Nat) (F : Nat → Prop) (C : Ch) (h : ChipAt w p F C) (hok : C.Ok) (pb pp : Int) (da sa : Option Addr) (n1 dc n2 sc : Nat) (hl1 : n1 ≤ 140737488355000) (hl2 : n2 ≤ 140737488355000) (htr : C.tr.length ≤ 3000000000000) (zd zp : List Int) (hD : Reads w da n1 zd) (hZ : Reads w sa n2 zp) (hdF : ∀ y, da = some y → ¬ F y.block) (hzF : ∀ y, sa = some y → ¬ F y.block) :
    Calls Try.prog 12 #[.pointer (some ⟨p, 0, none⟩), .agg #[.int .i64 pb, .int .i64 pp], .agg #[.slice da n1 dc, .slice sa n2 sc]] w fun e w' => e = .returned (.int .i64 (ProgramC C pb pp n1 n2 (zd ++ zp)).1) ∧ ChipAt w' p (Fx F w w') (ProgramC C pb pp n1 n2 (zd ++ zp)).2 ∧ Only F w w' := by
  unfold ProgramC
  cases hd : C.dark with
  | true =>
    refine (Program_dark w p F C h hok pb pp da sa n1 dc n2 sc hd).mono ?_
    rintro e w' ⟨rfl, hb⟩
    exact ⟨rfl, h.fx hb, Only.ofB hb⟩
  | false =>
    simp only [Bool.false_eq_true, if_false]
    by_cases e1 : n1 = 256 * C.S
    · have d1 : ((n1 : Int) != 256 * (C.S : Int)) = false := by have : (n1 : Int) = 256 * C.S := by omega
                                                                simpa using this
      by_cases e2 : n2 = 54 + 3 * C.S
      · have d2 : ((n2 : Int) != 54 + 3 * (C.S : Int)) = false := by have : (n2 : Int) = 54 + 3 * C.S := by omega
                                                                     simpa using this
        rw [if_neg (by omega)]
        exact Program_ok w p F C h hok pb pp da sa n1 dc n2 sc hl1 hl2 htr hd d1 d2 zd zp hD hZ hdF hzF
      · have d2 : ((n2 : Int) != 54 + 3 * (C.S : Int)) = true := by have : ¬ (n2 : Int) = 54 + 3 * C.S := by omega
                                                                    simpa using this
        rw [if_pos (Or.inr e2)]
        refine (Program_n2 w p F C h hok pb pp da sa n1 dc n2 sc hl1 hl2 hd d1 d2).mono ?_
        rintro e w' ⟨rfl, hb⟩
        exact ⟨rfl, h.fx hb, Only.ofB hb⟩
    · have d1 : ((n1 : Int) != 256 * (C.S : Int)) = true := by have : ¬ (n1 : Int) = 256 * C.S := by omega
                                                               simpa using this
      rw [if_pos (Or.inl e1)]
      refine (Program_n1 w p F C h hok pb pp da sa n1 dc n2 sc hl1 hd d1).mono ?_
      rintro e w' ⟨rfl, hb⟩
      exact ⟨rfl, h.fx hb, Only.ofB hb⟩
end Go.Proofs.Ytjhphkfpcpfdnaa
