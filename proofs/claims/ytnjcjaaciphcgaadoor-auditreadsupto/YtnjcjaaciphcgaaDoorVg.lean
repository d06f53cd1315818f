/-
  SEAT YtnjcjaaciphcgaaDoor: a finding's line.
-/
import Derived.Test.YtnjcjaaciphcgaaDoorVf
namespace Go.Proofs.YtnjcjaaciphcgaaDoor
open Go.RowKit Go.Sort
set_option linter.unusedVariables false

theorem Two.drew {q t : Nat} {a b : World} (h : Two q t a b) : Two q t a b.drew := ⟨h.os, h.tape, h.output, h.size, h.block⟩
theorem th_len (l : List UInt8) (i : Nat) : ((thL l).getD i []).length ≤ l.length := by
  rw [List.getD_eq_getElem?_getD]
  cases hx : (thL l)[i]? with
  | none => simp
  | some y =>
    have h1 := mem_pp (cutN l).1 [] y (List.mem_of_getElem? hx)
    have h2 := (cut_len l).1
    simp at h1 ⊢
    omega
/-- The finding of a line. -/
def fd4 (x0 x1 x2 x3 : List UInt8) : Option Fd := (kdOf x0).bind fun a => (numOf x1).bind fun b => (numOf x2).bind fun c => (numOf x3).bind fun d => some ⟨a, b, c, d⟩
def fdOf (l : List UInt8) : Option Fd := if thOk l 4 = true then fd4 ((thL l).getD 0 []) ((thL l).getD 1 []) ((thL l).getD 2 []) ((thL l).getD 3 []) else none
theorem cell_two {t : Nat} {a b : World} {g i : Nat} {x : Value} (h : Two t t a b) (hc : a.cell? ⟨g, i, none⟩ = some x) (hne : g ≠ t) : b.cell? ⟨g, i, none⟩ = some x := by
  rw [World.cell?_of_block (h.block g (block_lt_of_cell hc) hne hne)]
  exact hc

set_option maxHeartbeats 8000000 in
set_option maxRecDepth 100000 in
theorem finding_any (q k tb : Nat) (l : List UInt8) (F : Fd) (w : World) (hR : RdA w q l k) (hl : l.length < 4294967281) (hk : k ≤ 1000000000000) (hb : w.heap[tb]? = some (.cells #[.int .i64 F.k, .int .i64 F.b, .int .i64 F.p, .int .i64 F.o] 29 (0, 0))) (ht : P10 w) (hv : EV w) (hkw : KW w) (h9 : 9 ≤ tb) (hq9 : 9 ≤ q) (hne : tb ≠ q) :
    Calls Tryd.prog 40 #[.pointer (some ⟨q, 0, none⟩), .pointer (some ⟨tb, 0, none⟩)] w fun e w' => ∃ G : Fd, e = .returned (.bool (fdOf l).isSome) ∧ (∀ f, fdOf l = some f → G = f) ∧ w'.heap[tb]? = some (.cells #[.int .i64 G.k, .int .i64 G.b, .int .i64 G.p, .int .i64 G.o] 29 (0, 0)) ∧ RdA w' q (cutN l).2.1 (k + 1) ∧ Two q tb w w' := by
  obtain ⟨f0, f1, f2, f3⟩ := F
  simp only at hb
  have HTH : Calls Tryd.prog 52 #[.pointer (some ⟨q, 0, none⟩), .int .i64 4] w _ := things_any q k 4 l w hR hl hk
  have htb : tb < w.heap.size := (Array.getElem?_eq_some_iff.1 hb).1
  have HL : Hid (∀ i, ((thL l).getD i []).length ≤ l.length) := th_len l
  have HP : Hid (P10 w) := ht
  have HV : Hid (EV w) := hv
  have HK : Hid (KW w) := hkw
  have HB : Hid (w.heap[tb]? = some (.cells #[.int .i64 f0, .int .i64 f1, .int .i64 f2, .int .i64 f3] 29 (0, 0))) := hb
  clear hR ht hv hkw hb
  cases hok : thOk l 4 with
  | false =>
    have HN : Hid (fdOf l = none) := by unfold Hid fdOf; rw [hok]; rfl
    rw [hok] at HTH
    obtain ⟨X, hX⟩ : ∃ X, thL l = X := ⟨_, rfl⟩
    rw [hX] at HTH
    clear hok hX HL
    go_enter Tryd.func40, Tryd.ntmps40
    go_upto_region 2 with (first
      | (go_at_call 52; refine HTH.mono ?_; rintro e t1 ⟨g, rfl, hg, hc, hr, tw, hg2⟩
         have HR1 : Hid (RdA t1.drew q (cutN l).2.1 (k + 1)) := hr
         have HW1 : Hid (Two q q w t1.drew) := tw.drew
         clear hc hr tw hg2 hg))
    refine wp_region_held_drew (S := (fun _ : World => True)) (by kernel_rfl) (trivial) (fun hHeld => ?_)
    refine wpAnyH_take (i := 0) (oi := { dst := some 12, op := Op.move (Operand.tmp 6), type := 4, pos := "text.go:143", after := #[], guard := none }) (v := ?v0a) rfl (by kernel_rfl) (by kernel_rfl) (by kernel_rfl) (fun _ _ _ h => h) (Or.inl ⟨by rfl, ?y0a⟩) (by assumption) ?r0a
    case y0a => (intro x hx; (try dsimp only at hx); go_simp; try with_reducible rfl)
    try simp only [Act.put, List.setIfInBounds_toArray, List.set_cons_zero, List.set_cons_succ]
    refine wpAnyH_take (i := 1) (oi := { dst := some 13, op := Op.move (Operand.tmp 12), type := 4, pos := "text.go:143", after := #[{ on := 0, ground := Ground.data }], guard := none }) (v := ?v1a) rfl (by kernel_rfl) (by kernel_rfl) (by kernel_rfl) (fun _ _ _ h => h) (Or.inl ⟨by rfl, ?y1a⟩) (by assumption) ?r1a
    case y1a => (intro x hx; (try dsimp only at hx); go_simp; try with_reducible rfl)
    try simp only [Act.put, List.setIfInBounds_toArray, List.set_cons_zero, List.set_cons_succ]
    refine wpAnyH_take (i := 2) (oi := { dst := some 14, op := Op.move (Operand.tmp 5), type := 46, pos := "text.go:143", after := #[{ on := 1, ground := Ground.guard }], guard := some (1, true) }) (v := undef) rfl (by kernel_rfl) (by kernel_rfl) (by kernel_rfl) (fun _ _ _ h => h) (Or.inr ⟨by rfl, rfl⟩) (by assumption) ?_
    try simp only [Act.put, List.setIfInBounds_toArray, List.set_cons_zero, List.set_cons_succ]
    refine wpAnyH_take (i := 3) (oi := { dst := some 15, op := Op.indexAddr 46 (Operand.tmp 14) (Operand.const (Value.int IntKind.i64 0)), type := 0, pos := "text.go:143", after := #[{ on := 2, ground := Ground.data }, { on := 1, ground := Ground.guard }], guard := some (1, true) }) (v := undef) rfl (by kernel_rfl) (by kernel_rfl) (by kernel_rfl) (fun _ _ _ h => h) (Or.inr ⟨by rfl, rfl⟩) (by assumption) ?_
    try simp only [Act.put, List.setIfInBounds_toArray, List.set_cons_zero, List.set_cons_succ]
    refine wpAnyH_take (i := 4) (oi := { dst := some 16, op := Op.load 9 (Operand.tmp 15), type := 9, pos := "text.go:143", after := #[{ on := 3, ground := Ground.data }, { on := 1, ground := Ground.guard }], guard := some (1, true) }) (v := undef) rfl (by kernel_rfl) (by kernel_rfl) (by kernel_rfl) (fun _ _ _ h => h) (Or.inr ⟨by rfl, rfl⟩) (by assumption) ?_
    try simp only [Act.put, List.setIfInBounds_toArray, List.set_cons_zero, List.set_cons_succ]
    refine wpAnyH_take (i := 5) (oi := { dst := some 17, op := Op.move (Operand.tmp 1), type := 82, pos := "text.go:143", after := #[{ on := 1, ground := Ground.guard }], guard := some (1, true) }) (v := undef) rfl (by kernel_rfl) (by kernel_rfl) (by kernel_rfl) (fun _ _ _ h => h) (Or.inr ⟨by rfl, rfl⟩) (by assumption) ?_
    try simp only [Act.put, List.setIfInBounds_toArray, List.set_cons_zero, List.set_cons_succ]
    refine wpAnyH_take (i := 6) (oi := { dst := some 18, op := Op.nilCheck (Operand.tmp 17), type := 0, pos := "text.go:143", after := #[{ on := 5, ground := Ground.data }, { on := 1, ground := Ground.guard }], guard := some (1, true) }) (v := undef) rfl (by kernel_rfl) (by kernel_rfl) (by kernel_rfl) (fun _ _ _ h => h) (Or.inr ⟨by rfl, rfl⟩) (by assumption) ?_
    try simp only [Act.put, List.setIfInBounds_toArray, List.set_cons_zero, List.set_cons_succ]
    refine wpAnyH_take (i := 7) (oi := { dst := some 19, op := Op.fieldAddr 29 (Operand.tmp 18) 0, type := 0, pos := "text.go:143", after := #[{ on := 6, ground := Ground.data }, { on := 1, ground := Ground.guard }], guard := some (1, true) }) (v := undef) rfl (by kernel_rfl) (by kernel_rfl) (by kernel_rfl) (fun _ _ _ h => h) (Or.inr ⟨by rfl, rfl⟩) (by assumption) ?_
    try simp only [Act.put, List.setIfInBounds_toArray, List.set_cons_zero, List.set_cons_succ]
    refine wpAnyH_take (i := 8) (oi := { dst := some 20, op := Op.call { callee := Callee.value (Operand.func 53), args := #[Operand.tmp 16, Operand.tmp 19], argTypes := #[9, 78] }, type := 4, pos := "text.go:143", after := #[{ on := 4, ground := Ground.data }, { on := 7, ground := Ground.data }, { on := 1, ground := Ground.chain }, { on := 1, ground := Ground.guard }], guard := some (1, true) }) (v := undef) rfl (by kernel_rfl) (by kernel_rfl) (by kernel_rfl) (fun _ _ _ h => h) (Or.inr ⟨by rfl, rfl⟩) (by assumption) ?_
    try simp only [Act.put, List.setIfInBounds_toArray, List.set_cons_zero, List.set_cons_succ]
    refine wpAnyH_take (i := 9) (oi := { dst := some 21, op := Op.pick (Operand.tmp 13) (Operand.tmp 20) (Operand.const (Value.bool false)), type := 4, pos := "text.go:143", after := #[{ on := 1, ground := Ground.data }, { on := 8, ground := Ground.data }], guard := none }) (v := ?v9a) rfl (by kernel_rfl) (by kernel_rfl) (by kernel_rfl) (fun _ _ _ h => h) (Or.inl ⟨by rfl, ?y9a⟩) (by assumption) ?r9a
    case y9a => (intro x hx; (try dsimp only at hx); go_simp; try with_reducible rfl)
    try simp only [Act.put, List.setIfInBounds_toArray, List.set_cons_zero, List.set_cons_succ]
    refine wpAnyH_take (i := 10) (oi := { dst := some 22, op := Op.move (Operand.tmp 21), type := 4, pos := "text.go:143", after := #[{ on := 9, ground := Ground.data }, { on := 8, ground := Ground.chain }], guard := none }) (v := ?v10a) rfl (by kernel_rfl) (by kernel_rfl) (by kernel_rfl) (fun _ _ _ h => h) (Or.inl ⟨by rfl, ?y10a⟩) (by assumption) ?r10a
    case y10a => (intro x hx; (try dsimp only at hx); go_simp; try with_reducible rfl)
    try simp only [Act.put, List.setIfInBounds_toArray, List.set_cons_zero, List.set_cons_succ]
    refine wpAnyH_take (i := 11) (oi := { dst := some 23, op := Op.move (Operand.tmp 5), type := 46, pos := "text.go:143", after := #[{ on := 10, ground := Ground.guard }], guard := some (10, true) }) (v := undef) rfl (by kernel_rfl) (by kernel_rfl) (by kernel_rfl) (fun _ _ _ h => h) (Or.inr ⟨by rfl, rfl⟩) (by assumption) ?_
    try simp only [Act.put, List.setIfInBounds_toArray, List.set_cons_zero, List.set_cons_succ]
    refine wpAnyH_take (i := 12) (oi := { dst := some 24, op := Op.indexAddr 46 (Operand.tmp 23) (Operand.const (Value.int IntKind.i64 1)), type := 0, pos := "text.go:143", after := #[{ on := 11, ground := Ground.data }, { on := 10, ground := Ground.guard }], guard := some (10, true) }) (v := undef) rfl (by kernel_rfl) (by kernel_rfl) (by kernel_rfl) (fun _ _ _ h => h) (Or.inr ⟨by rfl, rfl⟩) (by assumption) ?_
    try simp only [Act.put, List.setIfInBounds_toArray, List.set_cons_zero, List.set_cons_succ]
    refine wpAnyH_take (i := 13) (oi := { dst := some 25, op := Op.load 9 (Operand.tmp 24), type := 9, pos := "text.go:143", after := #[{ on := 12, ground := Ground.data }, { on := 10, ground := Ground.guard }], guard := some (10, true) }) (v := undef) rfl (by kernel_rfl) (by kernel_rfl) (by kernel_rfl) (fun _ _ _ h => h) (Or.inr ⟨by rfl, rfl⟩) (by assumption) ?_
    try simp only [Act.put, List.setIfInBounds_toArray, List.set_cons_zero, List.set_cons_succ]
    refine wpAnyH_take (i := 14) (oi := { dst := some 26, op := Op.move (Operand.tmp 1), type := 82, pos := "text.go:143", after := #[{ on := 10, ground := Ground.guard }], guard := some (10, true) }) (v := undef) rfl (by kernel_rfl) (by kernel_rfl) (by kernel_rfl) (fun _ _ _ h => h) (Or.inr ⟨by rfl, rfl⟩) (by assumption) ?_
    try simp only [Act.put, List.setIfInBounds_toArray, List.set_cons_zero, List.set_cons_succ]
    refine wpAnyH_take (i := 15) (oi := { dst := some 27, op := Op.nilCheck (Operand.tmp 26), type := 0, pos := "text.go:143", after := #[{ on := 14, ground := Ground.data }, { on := 10, ground := Ground.guard }], guard := some (10, true) }) (v := undef) rfl (by kernel_rfl) (by kernel_rfl) (by kernel_rfl) (fun _ _ _ h => h) (Or.inr ⟨by rfl, rfl⟩) (by assumption) ?_
    try simp only [Act.put, List.setIfInBounds_toArray, List.set_cons_zero, List.set_cons_succ]
    refine wpAnyH_take (i := 16) (oi := { dst := some 28, op := Op.fieldAddr 29 (Operand.tmp 27) 1, type := 0, pos := "text.go:143", after := #[{ on := 15, ground := Ground.data }, { on := 10, ground := Ground.guard }], guard := some (10, true) }) (v := undef) rfl (by kernel_rfl) (by kernel_rfl) (by kernel_rfl) (fun _ _ _ h => h) (Or.inr ⟨by rfl, rfl⟩) (by assumption) ?_
    try simp only [Act.put, List.setIfInBounds_toArray, List.set_cons_zero, List.set_cons_succ]
    refine wpAnyH_take (i := 17) (oi := { dst := some 29, op := Op.fieldAddr 27 (Operand.tmp 28) 0, type := 0, pos := "text.go:143", after := #[{ on := 16, ground := Ground.data }, { on := 10, ground := Ground.guard }], guard := some (10, true) }) (v := undef) rfl (by kernel_rfl) (by kernel_rfl) (by kernel_rfl) (fun _ _ _ h => h) (Or.inr ⟨by rfl, rfl⟩) (by assumption) ?_
    try simp only [Act.put, List.setIfInBounds_toArray, List.set_cons_zero, List.set_cons_succ]
    refine wpAnyH_take (i := 18) (oi := { dst := some 30, op := Op.call { callee := Callee.value (Operand.func 51), args := #[Operand.tmp 25, Operand.tmp 29], argTypes := #[9, 78] }, type := 4, pos := "text.go:143", after := #[{ on := 13, ground := Ground.data }, { on := 17, ground := Ground.data }, { on := 10, ground := Ground.chain }, { on := 10, ground := Ground.guard }], guard := some (10, true) }) (v := undef) rfl (by kernel_rfl) (by kernel_rfl) (by kernel_rfl) (fun _ _ _ h => h) (Or.inr ⟨by rfl, rfl⟩) (by assumption) ?_
    try simp only [Act.put, List.setIfInBounds_toArray, List.set_cons_zero, List.set_cons_succ]
    refine wpAnyH_take (i := 19) (oi := { dst := some 31, op := Op.pick (Operand.tmp 22) (Operand.tmp 30) (Operand.const (Value.bool false)), type := 4, pos := "text.go:143", after := #[{ on := 10, ground := Ground.data }, { on := 18, ground := Ground.data }], guard := none }) (v := ?v19a) rfl (by kernel_rfl) (by kernel_rfl) (by kernel_rfl) (fun _ _ _ h => h) (Or.inl ⟨by rfl, ?y19a⟩) (by assumption) ?r19a
    case y19a => (intro x hx; (try dsimp only at hx); go_simp; try with_reducible rfl)
    try simp only [Act.put, List.setIfInBounds_toArray, List.set_cons_zero, List.set_cons_succ]
    refine wpAnyH_take (i := 20) (oi := { dst := some 32, op := Op.move (Operand.tmp 31), type := 4, pos := "text.go:143", after := #[{ on := 19, ground := Ground.data }, { on := 18, ground := Ground.chain }], guard := none }) (v := ?v20a) rfl (by kernel_rfl) (by kernel_rfl) (by kernel_rfl) (fun _ _ _ h => h) (Or.inl ⟨by rfl, ?y20a⟩) (by assumption) ?r20a
    case y20a => (intro x hx; (try dsimp only at hx); go_simp; try with_reducible rfl)
    try simp only [Act.put, List.setIfInBounds_toArray, List.set_cons_zero, List.set_cons_succ]
    refine wpAnyH_take (i := 21) (oi := { dst := some 33, op := Op.move (Operand.tmp 5), type := 46, pos := "text.go:143", after := #[{ on := 20, ground := Ground.guard }], guard := some (20, true) }) (v := undef) rfl (by kernel_rfl) (by kernel_rfl) (by kernel_rfl) (fun _ _ _ h => h) (Or.inr ⟨by rfl, rfl⟩) (by assumption) ?_
    try simp only [Act.put, List.setIfInBounds_toArray, List.set_cons_zero, List.set_cons_succ]
    refine wpAnyH_take (i := 22) (oi := { dst := some 34, op := Op.indexAddr 46 (Operand.tmp 33) (Operand.const (Value.int IntKind.i64 2)), type := 0, pos := "text.go:143", after := #[{ on := 21, ground := Ground.data }, { on := 20, ground := Ground.guard }], guard := some (20, true) }) (v := undef) rfl (by kernel_rfl) (by kernel_rfl) (by kernel_rfl) (fun _ _ _ h => h) (Or.inr ⟨by rfl, rfl⟩) (by assumption) ?_
    try simp only [Act.put, List.setIfInBounds_toArray, List.set_cons_zero, List.set_cons_succ]
    refine wpAnyH_take (i := 23) (oi := { dst := some 35, op := Op.load 9 (Operand.tmp 34), type := 9, pos := "text.go:143", after := #[{ on := 22, ground := Ground.data }, { on := 20, ground := Ground.guard }], guard := some (20, true) }) (v := undef) rfl (by kernel_rfl) (by kernel_rfl) (by kernel_rfl) (fun _ _ _ h => h) (Or.inr ⟨by rfl, rfl⟩) (by assumption) ?_
    try simp only [Act.put, List.setIfInBounds_toArray, List.set_cons_zero, List.set_cons_succ]
    refine wpAnyH_take (i := 24) (oi := { dst := some 36, op := Op.move (Operand.tmp 1), type := 82, pos := "text.go:143", after := #[{ on := 20, ground := Ground.guard }], guard := some (20, true) }) (v := undef) rfl (by kernel_rfl) (by kernel_rfl) (by kernel_rfl) (fun _ _ _ h => h) (Or.inr ⟨by rfl, rfl⟩) (by assumption) ?_
    try simp only [Act.put, List.setIfInBounds_toArray, List.set_cons_zero, List.set_cons_succ]
    refine wpAnyH_take (i := 25) (oi := { dst := some 37, op := Op.nilCheck (Operand.tmp 36), type := 0, pos := "text.go:143", after := #[{ on := 24, ground := Ground.data }, { on := 20, ground := Ground.guard }], guard := some (20, true) }) (v := undef) rfl (by kernel_rfl) (by kernel_rfl) (by kernel_rfl) (fun _ _ _ h => h) (Or.inr ⟨by rfl, rfl⟩) (by assumption) ?_
    try simp only [Act.put, List.setIfInBounds_toArray, List.set_cons_zero, List.set_cons_succ]
    refine wpAnyH_take (i := 26) (oi := { dst := some 38, op := Op.fieldAddr 29 (Operand.tmp 37) 1, type := 0, pos := "text.go:143", after := #[{ on := 25, ground := Ground.data }, { on := 20, ground := Ground.guard }], guard := some (20, true) }) (v := undef) rfl (by kernel_rfl) (by kernel_rfl) (by kernel_rfl) (fun _ _ _ h => h) (Or.inr ⟨by rfl, rfl⟩) (by assumption) ?_
    try simp only [Act.put, List.setIfInBounds_toArray, List.set_cons_zero, List.set_cons_succ]
    refine wpAnyH_take (i := 27) (oi := { dst := some 39, op := Op.fieldAddr 27 (Operand.tmp 38) 1, type := 0, pos := "text.go:143", after := #[{ on := 26, ground := Ground.data }, { on := 20, ground := Ground.guard }], guard := some (20, true) }) (v := undef) rfl (by kernel_rfl) (by kernel_rfl) (by kernel_rfl) (fun _ _ _ h => h) (Or.inr ⟨by rfl, rfl⟩) (by assumption) ?_
    try simp only [Act.put, List.setIfInBounds_toArray, List.set_cons_zero, List.set_cons_succ]
    refine wpAnyH_take (i := 28) (oi := { dst := some 40, op := Op.call { callee := Callee.value (Operand.func 51), args := #[Operand.tmp 35, Operand.tmp 39], argTypes := #[9, 78] }, type := 4, pos := "text.go:144", after := #[{ on := 23, ground := Ground.data }, { on := 27, ground := Ground.data }, { on := 20, ground := Ground.chain }, { on := 20, ground := Ground.guard }], guard := some (20, true) }) (v := undef) rfl (by kernel_rfl) (by kernel_rfl) (by kernel_rfl) (fun _ _ _ h => h) (Or.inr ⟨by rfl, rfl⟩) (by assumption) ?_
    try simp only [Act.put, List.setIfInBounds_toArray, List.set_cons_zero, List.set_cons_succ]
    refine wpAnyH_take (i := 29) (oi := { dst := some 41, op := Op.pick (Operand.tmp 32) (Operand.tmp 40) (Operand.const (Value.bool false)), type := 4, pos := "text.go:143", after := #[{ on := 20, ground := Ground.data }, { on := 28, ground := Ground.data }], guard := none }) (v := ?v29a) rfl (by kernel_rfl) (by kernel_rfl) (by kernel_rfl) (fun _ _ _ h => h) (Or.inl ⟨by rfl, ?y29a⟩) (by assumption) ?r29a
    case y29a => (intro x hx; (try dsimp only at hx); go_simp; try with_reducible rfl)
    try simp only [Act.put, List.setIfInBounds_toArray, List.set_cons_zero, List.set_cons_succ]
    refine wpAnyH_take (i := 30) (oi := { dst := some 42, op := Op.move (Operand.tmp 41), type := 4, pos := "text.go:143", after := #[{ on := 29, ground := Ground.data }, { on := 28, ground := Ground.chain }], guard := none }) (v := ?v30a) rfl (by kernel_rfl) (by kernel_rfl) (by kernel_rfl) (fun _ _ _ h => h) (Or.inl ⟨by rfl, ?y30a⟩) (by assumption) ?r30a
    case y30a => (intro x hx; (try dsimp only at hx); go_simp; try with_reducible rfl)
    try simp only [Act.put, List.setIfInBounds_toArray, List.set_cons_zero, List.set_cons_succ]
    refine wpAnyH_take (i := 31) (oi := { dst := some 43, op := Op.move (Operand.tmp 5), type := 46, pos := "text.go:143", after := #[{ on := 30, ground := Ground.guard }], guard := some (30, true) }) (v := undef) rfl (by kernel_rfl) (by kernel_rfl) (by kernel_rfl) (fun _ _ _ h => h) (Or.inr ⟨by rfl, rfl⟩) (by assumption) ?_
    try simp only [Act.put, List.setIfInBounds_toArray, List.set_cons_zero, List.set_cons_succ]
    refine wpAnyH_take (i := 32) (oi := { dst := some 44, op := Op.indexAddr 46 (Operand.tmp 43) (Operand.const (Value.int IntKind.i64 3)), type := 0, pos := "text.go:143", after := #[{ on := 31, ground := Ground.data }, { on := 30, ground := Ground.guard }], guard := some (30, true) }) (v := undef) rfl (by kernel_rfl) (by kernel_rfl) (by kernel_rfl) (fun _ _ _ h => h) (Or.inr ⟨by rfl, rfl⟩) (by assumption) ?_
    try simp only [Act.put, List.setIfInBounds_toArray, List.set_cons_zero, List.set_cons_succ]
    refine wpAnyH_take (i := 33) (oi := { dst := some 45, op := Op.load 9 (Operand.tmp 44), type := 9, pos := "text.go:143", after := #[{ on := 32, ground := Ground.data }, { on := 30, ground := Ground.guard }], guard := some (30, true) }) (v := undef) rfl (by kernel_rfl) (by kernel_rfl) (by kernel_rfl) (fun _ _ _ h => h) (Or.inr ⟨by rfl, rfl⟩) (by assumption) ?_
    try simp only [Act.put, List.setIfInBounds_toArray, List.set_cons_zero, List.set_cons_succ]
    refine wpAnyH_take (i := 34) (oi := { dst := some 46, op := Op.move (Operand.tmp 1), type := 82, pos := "text.go:143", after := #[{ on := 30, ground := Ground.guard }], guard := some (30, true) }) (v := undef) rfl (by kernel_rfl) (by kernel_rfl) (by kernel_rfl) (fun _ _ _ h => h) (Or.inr ⟨by rfl, rfl⟩) (by assumption) ?_
    try simp only [Act.put, List.setIfInBounds_toArray, List.set_cons_zero, List.set_cons_succ]
    refine wpAnyH_take (i := 35) (oi := { dst := some 47, op := Op.nilCheck (Operand.tmp 46), type := 0, pos := "text.go:143", after := #[{ on := 34, ground := Ground.data }, { on := 30, ground := Ground.guard }], guard := some (30, true) }) (v := undef) rfl (by kernel_rfl) (by kernel_rfl) (by kernel_rfl) (fun _ _ _ h => h) (Or.inr ⟨by rfl, rfl⟩) (by assumption) ?_
    try simp only [Act.put, List.setIfInBounds_toArray, List.set_cons_zero, List.set_cons_succ]
    refine wpAnyH_take (i := 36) (oi := { dst := some 48, op := Op.fieldAddr 29 (Operand.tmp 47) 2, type := 0, pos := "text.go:143", after := #[{ on := 35, ground := Ground.data }, { on := 30, ground := Ground.guard }], guard := some (30, true) }) (v := undef) rfl (by kernel_rfl) (by kernel_rfl) (by kernel_rfl) (fun _ _ _ h => h) (Or.inr ⟨by rfl, rfl⟩) (by assumption) ?_
    try simp only [Act.put, List.setIfInBounds_toArray, List.set_cons_zero, List.set_cons_succ]
    refine wpAnyH_take (i := 37) (oi := { dst := some 49, op := Op.call { callee := Callee.value (Operand.func 51), args := #[Operand.tmp 45, Operand.tmp 48], argTypes := #[9, 78] }, type := 4, pos := "text.go:144", after := #[{ on := 33, ground := Ground.data }, { on := 36, ground := Ground.data }, { on := 30, ground := Ground.chain }, { on := 30, ground := Ground.guard }], guard := some (30, true) }) (v := undef) rfl (by kernel_rfl) (by kernel_rfl) (by kernel_rfl) (fun _ _ _ h => h) (Or.inr ⟨by rfl, rfl⟩) (by assumption) ?_
    try simp only [Act.put, List.setIfInBounds_toArray, List.set_cons_zero, List.set_cons_succ]
    refine wpAnyH_take (i := 38) (oi := { dst := some 50, op := Op.pick (Operand.tmp 42) (Operand.tmp 49) (Operand.const (Value.bool false)), type := 4, pos := "text.go:143", after := #[{ on := 30, ground := Ground.data }, { on := 37, ground := Ground.data }], guard := none }) (v := ?v38a) rfl (by kernel_rfl) (by kernel_rfl) (by kernel_rfl) (fun _ _ _ h => h) (Or.inl ⟨by rfl, ?y38a⟩) (by assumption) ?r38a
    case y38a => (intro x hx; (try dsimp only at hx); go_simp; try with_reducible rfl)
    try simp only [Act.put, List.setIfInBounds_toArray, List.set_cons_zero, List.set_cons_succ]
    refine wpAnyH_take (i := 39) (oi := { dst := some 4, op := Op.assign (Operand.tmp 50), type := 4, pos := "text.go:143", after := #[{ on := 38, ground := Ground.data }, { on := 37, ground := Ground.chain }, { on := 0, ground := Ground.phase }, { on := 1, ground := Ground.phase }, { on := 2, ground := Ground.phase }, { on := 3, ground := Ground.phase }, { on := 4, ground := Ground.phase }, { on := 5, ground := Ground.phase }, { on := 6, ground := Ground.phase }, { on := 7, ground := Ground.phase }, { on := 8, ground := Ground.phase }, { on := 9, ground := Ground.phase }, { on := 10, ground := Ground.phase }, { on := 11, ground := Ground.phase }, { on := 12, ground := Ground.phase }, { on := 13, ground := Ground.phase }, { on := 14, ground := Ground.phase }, { on := 15, ground := Ground.phase }, { on := 16, ground := Ground.phase }, { on := 17, ground := Ground.phase }, { on := 18, ground := Ground.phase }, { on := 19, ground := Ground.phase }, { on := 20, ground := Ground.phase }, { on := 21, ground := Ground.phase }, { on := 22, ground := Ground.phase }, { on := 23, ground := Ground.phase }, { on := 24, ground := Ground.phase }, { on := 25, ground := Ground.phase }, { on := 26, ground := Ground.phase }, { on := 27, ground := Ground.phase }, { on := 28, ground := Ground.phase }, { on := 29, ground := Ground.phase }, { on := 30, ground := Ground.phase }, { on := 31, ground := Ground.phase }, { on := 32, ground := Ground.phase }, { on := 33, ground := Ground.phase }, { on := 34, ground := Ground.phase }, { on := 35, ground := Ground.phase }, { on := 36, ground := Ground.phase }, { on := 37, ground := Ground.phase }, { on := 38, ground := Ground.phase }], guard := none }) (v := ?v39a) rfl (by kernel_rfl) (by kernel_rfl) (by kernel_rfl) (fun _ _ _ h => h) (Or.inl ⟨by rfl, ?y39a⟩) (by assumption) ?r39a
    case y39a => (intro x hx; (try dsimp only at hx); go_simp; try with_reducible rfl)
    try simp only [Act.put, List.setIfInBounds_toArray, List.set_cons_zero, List.set_cons_succ]
    refine wpAnyH_done (by kernel_rfl) ?_ _
    go_wp2_with fail
    go_ret
    exact ⟨⟨f0, f1, f2, f3⟩, by rw [HN.out]; rfl, fun f hf => (by rw [HN.out] at hf; cases hf), blk_two HB.out HW1.out hne, HR1.out, HW1.out.one⟩
  | true =>
    have hlen := thOk_len hok
    have HN0 : Hid (fdOf l = fd4 ((thL l).getD 0 []) ((thL l).getD 1 []) ((thL l).getD 2 []) ((thL l).getD 3 [])) := by unfold Hid fdOf; rw [hok]; rfl
    obtain ⟨X, hX⟩ : ∃ X, thL l = X := ⟨_, rfl⟩
    rw [hok] at HTH
    rw [hX] at HTH HN0 HL hlen
    clear hok hX
    match X, hlen with
    | [x0, x1, x2, x3], _ =>
      have hl0 : x0.length ≤ l.length := HL.out 0
      have hl1 : x1.length ≤ l.length := HL.out 1
      have hl2 : x2.length ≤ l.length := HL.out 2
      have hl3 : x3.length ≤ l.length := HL.out 3
      have HN : Hid (fdOf l = fd4 x0 x1 x2 x3) := HN0.out
      clear HL HN0
      cases h0 : kdOf x0 with
      | none =>
        have HO0 : Hid (kdOf x0 = none) := h0
        clear h0
        have HF : Hid (fdOf l = none) := by unfold Hid; rw [HN.out]; unfold fd4; rw [HO0.out]; rfl
        go_enter Tryd.func40, Tryd.ntmps40
        go_upto_region 2 with (first
          | (go_at_call 52; refine HTH.mono ?_; rintro e t1 ⟨g, he1, hg, hc, hr, tw, hg2⟩
             have he2 : e = .returned (.tuple #[.slice (some ⟨g, 0, none⟩) 4 4, .bool true]) := he1
             clear he1
             subst he2
             have HC0 : Hid (t1.drew.cell? ⟨g, 0, none⟩ = some (.string ⟨x0.toArray⟩) ∧ t1.drew.cell? ⟨g, 1, none⟩ = some (.string ⟨x1.toArray⟩) ∧ t1.drew.cell? ⟨g, 2, none⟩ = some (.string ⟨x2.toArray⟩) ∧ t1.drew.cell? ⟨g, 3, none⟩ = some (.string ⟨x3.toArray⟩)) := ⟨hc 0 (by simp), hc 1 (by simp), hc 2 (by simp), hc 3 (by simp)⟩
             have HR0 : Hid (RdA t1.drew q (cutN l).2.1 (k + 1)) := hr
             have HW0 : Hid (Two q q w t1.drew) := tw.drew
             have HB0 : Hid (t1.drew.heap[tb]? = some (.cells #[.int .i64 f0, .int .i64 f1, .int .i64 f2, .int .i64 f3] 29 (0, 0))) := blk_two HB.out tw.drew hne
             have hgt : g ≠ tb := by omega
             have HX0 : Hid (Two q tb w t1.drew) := tw.drew.one
             clear hc hr tw hg2 hg))
        refine wp_region_held_drew (S := (fun y : World => y.cell? ⟨g, 0, none⟩ = some (.string ⟨x0.toArray⟩) ∧ y.cell? ⟨g, 1, none⟩ = some (.string ⟨x1.toArray⟩) ∧ y.cell? ⟨g, 2, none⟩ = some (.string ⟨x2.toArray⟩) ∧ y.cell? ⟨g, 3, none⟩ = some (.string ⟨x3.toArray⟩))) (by kernel_rfl) (HC0.out) (fun hHeld => ?_)
        refine wpAnyH_take (i := 0) (oi := { dst := some 12, op := Op.move (Operand.tmp 6), type := 4, pos := "text.go:143", after := #[], guard := none }) (v := ?v0w0) rfl (by kernel_rfl) (by kernel_rfl) (by kernel_rfl) (fun _ _ _ h => h) (Or.inl ⟨by rfl, ?y0w0⟩) (by assumption) ?r0w0
        case y0w0 => (intro x hx; (try dsimp only at hx); go_simp; try with_reducible rfl)
        try simp only [Act.put, List.setIfInBounds_toArray, List.set_cons_zero, List.set_cons_succ]
        refine wpAnyH_take (i := 1) (oi := { dst := some 13, op := Op.move (Operand.tmp 12), type := 4, pos := "text.go:143", after := #[{ on := 0, ground := Ground.data }], guard := none }) (v := ?v1w0) rfl (by kernel_rfl) (by kernel_rfl) (by kernel_rfl) (fun _ _ _ h => h) (Or.inl ⟨by rfl, ?y1w0⟩) (by assumption) ?r1w0
        case y1w0 => (intro x hx; (try dsimp only at hx); go_simp; try with_reducible rfl)
        try simp only [Act.put, List.setIfInBounds_toArray, List.set_cons_zero, List.set_cons_succ]
        refine wpAnyH_take (i := 2) (oi := { dst := some 14, op := Op.move (Operand.tmp 5), type := 46, pos := "text.go:143", after := #[{ on := 1, ground := Ground.guard }], guard := some (1, true) }) (v := ?v2w0) rfl (by kernel_rfl) (by kernel_rfl) (by kernel_rfl) (fun _ _ _ h => h) (Or.inl ⟨by rfl, ?y2w0⟩) (by assumption) ?r2w0
        case y2w0 => (intro x hx; (try dsimp only at hx); go_simp; try with_reducible rfl)
        try simp only [Act.put, List.setIfInBounds_toArray, List.set_cons_zero, List.set_cons_succ]
        refine wpAnyH_take (i := 3) (oi := { dst := some 15, op := Op.indexAddr 46 (Operand.tmp 14) (Operand.const (Value.int IntKind.i64 0)), type := 0, pos := "text.go:143", after := #[{ on := 2, ground := Ground.data }, { on := 1, ground := Ground.guard }], guard := some (1, true) }) (v := ?v3w0) rfl (by kernel_rfl) (by kernel_rfl) (by kernel_rfl) (fun _ _ _ h => h) (Or.inl ⟨by rfl, ?y3w0⟩) (by assumption) ?r3w0
        case y3w0 => (intro x hx; (try dsimp only at hx); go_simp; try with_reducible rfl)
        try simp only [Act.put, List.setIfInBounds_toArray, List.set_cons_zero, List.set_cons_succ]
        refine wpAnyH_take (i := 4) (oi := { dst := some 16, op := Op.load 9 (Operand.tmp 15), type := 9, pos := "text.go:143", after := #[{ on := 3, ground := Ground.data }, { on := 1, ground := Ground.guard }], guard := some (1, true) }) (v := ?v4w0) rfl (by kernel_rfl) (by kernel_rfl) (by kernel_rfl) (fun _ _ _ h => h) (Or.inl ⟨by rfl, ?y4w0⟩) (by assumption) ?r4w0
        case y4w0 => (intro x hx; (try dsimp only at hx); go_simp; try with_reducible rfl)
        try simp only [Act.put, List.setIfInBounds_toArray, List.set_cons_zero, List.set_cons_succ]
        refine wpAnyH_take (i := 5) (oi := { dst := some 17, op := Op.move (Operand.tmp 1), type := 82, pos := "text.go:143", after := #[{ on := 1, ground := Ground.guard }], guard := some (1, true) }) (v := ?v5w0) rfl (by kernel_rfl) (by kernel_rfl) (by kernel_rfl) (fun _ _ _ h => h) (Or.inl ⟨by rfl, ?y5w0⟩) (by assumption) ?r5w0
        case y5w0 => (intro x hx; (try dsimp only at hx); go_simp; try with_reducible rfl)
        try simp only [Act.put, List.setIfInBounds_toArray, List.set_cons_zero, List.set_cons_succ]
        refine wpAnyH_take (i := 6) (oi := { dst := some 18, op := Op.nilCheck (Operand.tmp 17), type := 0, pos := "text.go:143", after := #[{ on := 5, ground := Ground.data }, { on := 1, ground := Ground.guard }], guard := some (1, true) }) (v := ?v6w0) rfl (by kernel_rfl) (by kernel_rfl) (by kernel_rfl) (fun _ _ _ h => h) (Or.inl ⟨by rfl, ?y6w0⟩) (by assumption) ?r6w0
        case y6w0 => (intro x hx; (try dsimp only at hx); go_simp; try with_reducible rfl)
        try simp only [Act.put, List.setIfInBounds_toArray, List.set_cons_zero, List.set_cons_succ]
        refine wpAnyH_take (i := 7) (oi := { dst := some 19, op := Op.fieldAddr 29 (Operand.tmp 18) 0, type := 0, pos := "text.go:143", after := #[{ on := 6, ground := Ground.data }, { on := 1, ground := Ground.guard }], guard := some (1, true) }) (v := ?v7w0) rfl (by kernel_rfl) (by kernel_rfl) (by kernel_rfl) (fun _ _ _ h => h) (Or.inl ⟨by rfl, ?y7w0⟩) (by assumption) ?r7w0
        case y7w0 => (intro x hx; (try dsimp only at hx); go_simp; try with_reducible rfl)
        try simp only [Act.put, List.setIfInBounds_toArray, List.set_cons_zero, List.set_cons_succ]
        refine wpAnyH_ready (rs := [8]) (by kernel_rfl) (by simp) ?_
        refine AllReadyH.cons (o := { dst := some 20, op := Op.call { callee := Callee.value (Operand.func 53), args := #[Operand.tmp 16, Operand.tmp 19], argTypes := #[9, 78] }, type := 4, pos := "text.go:143", after := #[{ on := 4, ground := Ground.data }, { on := 7, ground := Ground.data }, { on := 1, ground := Ground.chain }, { on := 1, ground := Ground.guard }], guard := some (1, true) }) rfl (fun K hK => ?_) AllReadyH.nil
        go_simp
        refine (iskind_any x0 tb 0 _ _ _ (by omega) HB0.out (by simp) (p10_two HP.out HX0.out hq9 h9) (HV.out.two HX0.out hq9 h9) (HK.out.two HX0.out hq9 h9) h9).mono ?_; rintro e z1 ⟨v0, he1, hv0, hb1, tw⟩
        have he2 : e = .returned (.bool false) := by rw [he1, HO0.out]; rfl
        clear he1
        subst he2
        clear hv0
        have HB1 : Hid (z1.heap[tb]? = some (.cells #[.int .i64 v0, .int .i64 f1, .int .i64 f2, .int .i64 f3] 29 (0, 0))) := hb1
        have HX1 : Hid (Two q tb w z1) := HX0.out.trans tw.too
        have HR1 : Hid (RdA z1 q (cutN l).2.1 (k + 1)) := rda_two HR0.out tw (fun h => hne h.symm)
        have HC1 : Hid (z1.cell? ⟨g, 0, none⟩ = some (.string ⟨x0.toArray⟩) ∧ z1.cell? ⟨g, 1, none⟩ = some (.string ⟨x1.toArray⟩) ∧ z1.cell? ⟨g, 2, none⟩ = some (.string ⟨x2.toArray⟩) ∧ z1.cell? ⟨g, 3, none⟩ = some (.string ⟨x3.toArray⟩)) := ⟨cell_two tw HC0.out.1 hgt, cell_two tw HC0.out.2.1 hgt, cell_two tw HC0.out.2.2.1 hgt, cell_two tw HC0.out.2.2.2 hgt⟩
        have hSnew := HC1.out
        clear hb1 tw
        go_wp2_with fail
        refine hK.out _ _ hSnew (fun hHeld8 => ?_)
        clear hK K hSnew
        clear hHeld
        have hHeld := hHeld8
        clear hHeld8
        try simp only [Act.put, List.setIfInBounds_toArray, List.set_cons_zero, List.set_cons_succ]
        refine wpAnyH_take (i := 9) (oi := { dst := some 21, op := Op.pick (Operand.tmp 13) (Operand.tmp 20) (Operand.const (Value.bool false)), type := 4, pos := "text.go:143", after := #[{ on := 1, ground := Ground.data }, { on := 8, ground := Ground.data }], guard := none }) (v := ?v9w0) rfl (by kernel_rfl) (by kernel_rfl) (by kernel_rfl) (fun _ _ _ h => h) (Or.inl ⟨by rfl, ?y9w0⟩) (by assumption) ?r9w0
        case y9w0 => (intro x hx; (try dsimp only at hx); go_simp; try with_reducible rfl)
        try simp only [Act.put, List.setIfInBounds_toArray, List.set_cons_zero, List.set_cons_succ]
        refine wpAnyH_take (i := 10) (oi := { dst := some 22, op := Op.move (Operand.tmp 21), type := 4, pos := "text.go:143", after := #[{ on := 9, ground := Ground.data }, { on := 8, ground := Ground.chain }], guard := none }) (v := ?v10w0) rfl (by kernel_rfl) (by kernel_rfl) (by kernel_rfl) (fun _ _ _ h => h) (Or.inl ⟨by rfl, ?y10w0⟩) (by assumption) ?r10w0
        case y10w0 => (intro x hx; (try dsimp only at hx); go_simp; try with_reducible rfl)
        try simp only [Act.put, List.setIfInBounds_toArray, List.set_cons_zero, List.set_cons_succ]
        refine wpAnyH_take (i := 11) (oi := { dst := some 23, op := Op.move (Operand.tmp 5), type := 46, pos := "text.go:143", after := #[{ on := 10, ground := Ground.guard }], guard := some (10, true) }) (v := undef) rfl (by kernel_rfl) (by kernel_rfl) (by kernel_rfl) (fun _ _ _ h => h) (Or.inr ⟨by rfl, rfl⟩) (by assumption) ?_
        try simp only [Act.put, List.setIfInBounds_toArray, List.set_cons_zero, List.set_cons_succ]
        refine wpAnyH_take (i := 12) (oi := { dst := some 24, op := Op.indexAddr 46 (Operand.tmp 23) (Operand.const (Value.int IntKind.i64 1)), type := 0, pos := "text.go:143", after := #[{ on := 11, ground := Ground.data }, { on := 10, ground := Ground.guard }], guard := some (10, true) }) (v := undef) rfl (by kernel_rfl) (by kernel_rfl) (by kernel_rfl) (fun _ _ _ h => h) (Or.inr ⟨by rfl, rfl⟩) (by assumption) ?_
        try simp only [Act.put, List.setIfInBounds_toArray, List.set_cons_zero, List.set_cons_succ]
        refine wpAnyH_take (i := 13) (oi := { dst := some 25, op := Op.load 9 (Operand.tmp 24), type := 9, pos := "text.go:143", after := #[{ on := 12, ground := Ground.data }, { on := 10, ground := Ground.guard }], guard := some (10, true) }) (v := undef) rfl (by kernel_rfl) (by kernel_rfl) (by kernel_rfl) (fun _ _ _ h => h) (Or.inr ⟨by rfl, rfl⟩) (by assumption) ?_
        try simp only [Act.put, List.setIfInBounds_toArray, List.set_cons_zero, List.set_cons_succ]
        refine wpAnyH_take (i := 14) (oi := { dst := some 26, op := Op.move (Operand.tmp 1), type := 82, pos := "text.go:143", after := #[{ on := 10, ground := Ground.guard }], guard := some (10, true) }) (v := undef) rfl (by kernel_rfl) (by kernel_rfl) (by kernel_rfl) (fun _ _ _ h => h) (Or.inr ⟨by rfl, rfl⟩) (by assumption) ?_
        try simp only [Act.put, List.setIfInBounds_toArray, List.set_cons_zero, List.set_cons_succ]
        refine wpAnyH_take (i := 15) (oi := { dst := some 27, op := Op.nilCheck (Operand.tmp 26), type := 0, pos := "text.go:143", after := #[{ on := 14, ground := Ground.data }, { on := 10, ground := Ground.guard }], guard := some (10, true) }) (v := undef) rfl (by kernel_rfl) (by kernel_rfl) (by kernel_rfl) (fun _ _ _ h => h) (Or.inr ⟨by rfl, rfl⟩) (by assumption) ?_
        try simp only [Act.put, List.setIfInBounds_toArray, List.set_cons_zero, List.set_cons_succ]
        refine wpAnyH_take (i := 16) (oi := { dst := some 28, op := Op.fieldAddr 29 (Operand.tmp 27) 1, type := 0, pos := "text.go:143", after := #[{ on := 15, ground := Ground.data }, { on := 10, ground := Ground.guard }], guard := some (10, true) }) (v := undef) rfl (by kernel_rfl) (by kernel_rfl) (by kernel_rfl) (fun _ _ _ h => h) (Or.inr ⟨by rfl, rfl⟩) (by assumption) ?_
        try simp only [Act.put, List.setIfInBounds_toArray, List.set_cons_zero, List.set_cons_succ]
        refine wpAnyH_take (i := 17) (oi := { dst := some 29, op := Op.fieldAddr 27 (Operand.tmp 28) 0, type := 0, pos := "text.go:143", after := #[{ on := 16, ground := Ground.data }, { on := 10, ground := Ground.guard }], guard := some (10, true) }) (v := undef) rfl (by kernel_rfl) (by kernel_rfl) (by kernel_rfl) (fun _ _ _ h => h) (Or.inr ⟨by rfl, rfl⟩) (by assumption) ?_
        try simp only [Act.put, List.setIfInBounds_toArray, List.set_cons_zero, List.set_cons_succ]
        refine wpAnyH_take (i := 18) (oi := { dst := some 30, op := Op.call { callee := Callee.value (Operand.func 51), args := #[Operand.tmp 25, Operand.tmp 29], argTypes := #[9, 78] }, type := 4, pos := "text.go:143", after := #[{ on := 13, ground := Ground.data }, { on := 17, ground := Ground.data }, { on := 10, ground := Ground.chain }, { on := 10, ground := Ground.guard }], guard := some (10, true) }) (v := undef) rfl (by kernel_rfl) (by kernel_rfl) (by kernel_rfl) (fun _ _ _ h => h) (Or.inr ⟨by rfl, rfl⟩) (by assumption) ?_
        try simp only [Act.put, List.setIfInBounds_toArray, List.set_cons_zero, List.set_cons_succ]
        refine wpAnyH_take (i := 19) (oi := { dst := some 31, op := Op.pick (Operand.tmp 22) (Operand.tmp 30) (Operand.const (Value.bool false)), type := 4, pos := "text.go:143", after := #[{ on := 10, ground := Ground.data }, { on := 18, ground := Ground.data }], guard := none }) (v := ?v19w0) rfl (by kernel_rfl) (by kernel_rfl) (by kernel_rfl) (fun _ _ _ h => h) (Or.inl ⟨by rfl, ?y19w0⟩) (by assumption) ?r19w0
        case y19w0 => (intro x hx; (try dsimp only at hx); go_simp; try with_reducible rfl)
        try simp only [Act.put, List.setIfInBounds_toArray, List.set_cons_zero, List.set_cons_succ]
        refine wpAnyH_take (i := 20) (oi := { dst := some 32, op := Op.move (Operand.tmp 31), type := 4, pos := "text.go:143", after := #[{ on := 19, ground := Ground.data }, { on := 18, ground := Ground.chain }], guard := none }) (v := ?v20w0) rfl (by kernel_rfl) (by kernel_rfl) (by kernel_rfl) (fun _ _ _ h => h) (Or.inl ⟨by rfl, ?y20w0⟩) (by assumption) ?r20w0
        case y20w0 => (intro x hx; (try dsimp only at hx); go_simp; try with_reducible rfl)
        try simp only [Act.put, List.setIfInBounds_toArray, List.set_cons_zero, List.set_cons_succ]
        refine wpAnyH_take (i := 21) (oi := { dst := some 33, op := Op.move (Operand.tmp 5), type := 46, pos := "text.go:143", after := #[{ on := 20, ground := Ground.guard }], guard := some (20, true) }) (v := undef) rfl (by kernel_rfl) (by kernel_rfl) (by kernel_rfl) (fun _ _ _ h => h) (Or.inr ⟨by rfl, rfl⟩) (by assumption) ?_
        try simp only [Act.put, List.setIfInBounds_toArray, List.set_cons_zero, List.set_cons_succ]
        refine wpAnyH_take (i := 22) (oi := { dst := some 34, op := Op.indexAddr 46 (Operand.tmp 33) (Operand.const (Value.int IntKind.i64 2)), type := 0, pos := "text.go:143", after := #[{ on := 21, ground := Ground.data }, { on := 20, ground := Ground.guard }], guard := some (20, true) }) (v := undef) rfl (by kernel_rfl) (by kernel_rfl) (by kernel_rfl) (fun _ _ _ h => h) (Or.inr ⟨by rfl, rfl⟩) (by assumption) ?_
        try simp only [Act.put, List.setIfInBounds_toArray, List.set_cons_zero, List.set_cons_succ]
        refine wpAnyH_take (i := 23) (oi := { dst := some 35, op := Op.load 9 (Operand.tmp 34), type := 9, pos := "text.go:143", after := #[{ on := 22, ground := Ground.data }, { on := 20, ground := Ground.guard }], guard := some (20, true) }) (v := undef) rfl (by kernel_rfl) (by kernel_rfl) (by kernel_rfl) (fun _ _ _ h => h) (Or.inr ⟨by rfl, rfl⟩) (by assumption) ?_
        try simp only [Act.put, List.setIfInBounds_toArray, List.set_cons_zero, List.set_cons_succ]
        refine wpAnyH_take (i := 24) (oi := { dst := some 36, op := Op.move (Operand.tmp 1), type := 82, pos := "text.go:143", after := #[{ on := 20, ground := Ground.guard }], guard := some (20, true) }) (v := undef) rfl (by kernel_rfl) (by kernel_rfl) (by kernel_rfl) (fun _ _ _ h => h) (Or.inr ⟨by rfl, rfl⟩) (by assumption) ?_
        try simp only [Act.put, List.setIfInBounds_toArray, List.set_cons_zero, List.set_cons_succ]
        refine wpAnyH_take (i := 25) (oi := { dst := some 37, op := Op.nilCheck (Operand.tmp 36), type := 0, pos := "text.go:143", after := #[{ on := 24, ground := Ground.data }, { on := 20, ground := Ground.guard }], guard := some (20, true) }) (v := undef) rfl (by kernel_rfl) (by kernel_rfl) (by kernel_rfl) (fun _ _ _ h => h) (Or.inr ⟨by rfl, rfl⟩) (by assumption) ?_
        try simp only [Act.put, List.setIfInBounds_toArray, List.set_cons_zero, List.set_cons_succ]
        refine wpAnyH_take (i := 26) (oi := { dst := some 38, op := Op.fieldAddr 29 (Operand.tmp 37) 1, type := 0, pos := "text.go:143", after := #[{ on := 25, ground := Ground.data }, { on := 20, ground := Ground.guard }], guard := some (20, true) }) (v := undef) rfl (by kernel_rfl) (by kernel_rfl) (by kernel_rfl) (fun _ _ _ h => h) (Or.inr ⟨by rfl, rfl⟩) (by assumption) ?_
        try simp only [Act.put, List.setIfInBounds_toArray, List.set_cons_zero, List.set_cons_succ]
        refine wpAnyH_take (i := 27) (oi := { dst := some 39, op := Op.fieldAddr 27 (Operand.tmp 38) 1, type := 0, pos := "text.go:143", after := #[{ on := 26, ground := Ground.data }, { on := 20, ground := Ground.guard }], guard := some (20, true) }) (v := undef) rfl (by kernel_rfl) (by kernel_rfl) (by kernel_rfl) (fun _ _ _ h => h) (Or.inr ⟨by rfl, rfl⟩) (by assumption) ?_
        try simp only [Act.put, List.setIfInBounds_toArray, List.set_cons_zero, List.set_cons_succ]
        refine wpAnyH_take (i := 28) (oi := { dst := some 40, op := Op.call { callee := Callee.value (Operand.func 51), args := #[Operand.tmp 35, Operand.tmp 39], argTypes := #[9, 78] }, type := 4, pos := "text.go:144", after := #[{ on := 23, ground := Ground.data }, { on := 27, ground := Ground.data }, { on := 20, ground := Ground.chain }, { on := 20, ground := Ground.guard }], guard := some (20, true) }) (v := undef) rfl (by kernel_rfl) (by kernel_rfl) (by kernel_rfl) (fun _ _ _ h => h) (Or.inr ⟨by rfl, rfl⟩) (by assumption) ?_
        try simp only [Act.put, List.setIfInBounds_toArray, List.set_cons_zero, List.set_cons_succ]
        refine wpAnyH_take (i := 29) (oi := { dst := some 41, op := Op.pick (Operand.tmp 32) (Operand.tmp 40) (Operand.const (Value.bool false)), type := 4, pos := "text.go:143", after := #[{ on := 20, ground := Ground.data }, { on := 28, ground := Ground.data }], guard := none }) (v := ?v29w0) rfl (by kernel_rfl) (by kernel_rfl) (by kernel_rfl) (fun _ _ _ h => h) (Or.inl ⟨by rfl, ?y29w0⟩) (by assumption) ?r29w0
        case y29w0 => (intro x hx; (try dsimp only at hx); go_simp; try with_reducible rfl)
        try simp only [Act.put, List.setIfInBounds_toArray, List.set_cons_zero, List.set_cons_succ]
        refine wpAnyH_take (i := 30) (oi := { dst := some 42, op := Op.move (Operand.tmp 41), type := 4, pos := "text.go:143", after := #[{ on := 29, ground := Ground.data }, { on := 28, ground := Ground.chain }], guard := none }) (v := ?v30w0) rfl (by kernel_rfl) (by kernel_rfl) (by kernel_rfl) (fun _ _ _ h => h) (Or.inl ⟨by rfl, ?y30w0⟩) (by assumption) ?r30w0
        case y30w0 => (intro x hx; (try dsimp only at hx); go_simp; try with_reducible rfl)
        try simp only [Act.put, List.setIfInBounds_toArray, List.set_cons_zero, List.set_cons_succ]
        refine wpAnyH_take (i := 31) (oi := { dst := some 43, op := Op.move (Operand.tmp 5), type := 46, pos := "text.go:143", after := #[{ on := 30, ground := Ground.guard }], guard := some (30, true) }) (v := undef) rfl (by kernel_rfl) (by kernel_rfl) (by kernel_rfl) (fun _ _ _ h => h) (Or.inr ⟨by rfl, rfl⟩) (by assumption) ?_
        try simp only [Act.put, List.setIfInBounds_toArray, List.set_cons_zero, List.set_cons_succ]
        refine wpAnyH_take (i := 32) (oi := { dst := some 44, op := Op.indexAddr 46 (Operand.tmp 43) (Operand.const (Value.int IntKind.i64 3)), type := 0, pos := "text.go:143", after := #[{ on := 31, ground := Ground.data }, { on := 30, ground := Ground.guard }], guard := some (30, true) }) (v := undef) rfl (by kernel_rfl) (by kernel_rfl) (by kernel_rfl) (fun _ _ _ h => h) (Or.inr ⟨by rfl, rfl⟩) (by assumption) ?_
        try simp only [Act.put, List.setIfInBounds_toArray, List.set_cons_zero, List.set_cons_succ]
        refine wpAnyH_take (i := 33) (oi := { dst := some 45, op := Op.load 9 (Operand.tmp 44), type := 9, pos := "text.go:143", after := #[{ on := 32, ground := Ground.data }, { on := 30, ground := Ground.guard }], guard := some (30, true) }) (v := undef) rfl (by kernel_rfl) (by kernel_rfl) (by kernel_rfl) (fun _ _ _ h => h) (Or.inr ⟨by rfl, rfl⟩) (by assumption) ?_
        try simp only [Act.put, List.setIfInBounds_toArray, List.set_cons_zero, List.set_cons_succ]
        refine wpAnyH_take (i := 34) (oi := { dst := some 46, op := Op.move (Operand.tmp 1), type := 82, pos := "text.go:143", after := #[{ on := 30, ground := Ground.guard }], guard := some (30, true) }) (v := undef) rfl (by kernel_rfl) (by kernel_rfl) (by kernel_rfl) (fun _ _ _ h => h) (Or.inr ⟨by rfl, rfl⟩) (by assumption) ?_
        try simp only [Act.put, List.setIfInBounds_toArray, List.set_cons_zero, List.set_cons_succ]
        refine wpAnyH_take (i := 35) (oi := { dst := some 47, op := Op.nilCheck (Operand.tmp 46), type := 0, pos := "text.go:143", after := #[{ on := 34, ground := Ground.data }, { on := 30, ground := Ground.guard }], guard := some (30, true) }) (v := undef) rfl (by kernel_rfl) (by kernel_rfl) (by kernel_rfl) (fun _ _ _ h => h) (Or.inr ⟨by rfl, rfl⟩) (by assumption) ?_
        try simp only [Act.put, List.setIfInBounds_toArray, List.set_cons_zero, List.set_cons_succ]
        refine wpAnyH_take (i := 36) (oi := { dst := some 48, op := Op.fieldAddr 29 (Operand.tmp 47) 2, type := 0, pos := "text.go:143", after := #[{ on := 35, ground := Ground.data }, { on := 30, ground := Ground.guard }], guard := some (30, true) }) (v := undef) rfl (by kernel_rfl) (by kernel_rfl) (by kernel_rfl) (fun _ _ _ h => h) (Or.inr ⟨by rfl, rfl⟩) (by assumption) ?_
        try simp only [Act.put, List.setIfInBounds_toArray, List.set_cons_zero, List.set_cons_succ]
        refine wpAnyH_take (i := 37) (oi := { dst := some 49, op := Op.call { callee := Callee.value (Operand.func 51), args := #[Operand.tmp 45, Operand.tmp 48], argTypes := #[9, 78] }, type := 4, pos := "text.go:144", after := #[{ on := 33, ground := Ground.data }, { on := 36, ground := Ground.data }, { on := 30, ground := Ground.chain }, { on := 30, ground := Ground.guard }], guard := some (30, true) }) (v := undef) rfl (by kernel_rfl) (by kernel_rfl) (by kernel_rfl) (fun _ _ _ h => h) (Or.inr ⟨by rfl, rfl⟩) (by assumption) ?_
        try simp only [Act.put, List.setIfInBounds_toArray, List.set_cons_zero, List.set_cons_succ]
        refine wpAnyH_take (i := 38) (oi := { dst := some 50, op := Op.pick (Operand.tmp 42) (Operand.tmp 49) (Operand.const (Value.bool false)), type := 4, pos := "text.go:143", after := #[{ on := 30, ground := Ground.data }, { on := 37, ground := Ground.data }], guard := none }) (v := ?v38w0) rfl (by kernel_rfl) (by kernel_rfl) (by kernel_rfl) (fun _ _ _ h => h) (Or.inl ⟨by rfl, ?y38w0⟩) (by assumption) ?r38w0
        case y38w0 => (intro x hx; (try dsimp only at hx); go_simp; try with_reducible rfl)
        try simp only [Act.put, List.setIfInBounds_toArray, List.set_cons_zero, List.set_cons_succ]
        refine wpAnyH_take (i := 39) (oi := { dst := some 4, op := Op.assign (Operand.tmp 50), type := 4, pos := "text.go:143", after := #[{ on := 38, ground := Ground.data }, { on := 37, ground := Ground.chain }, { on := 0, ground := Ground.phase }, { on := 1, ground := Ground.phase }, { on := 2, ground := Ground.phase }, { on := 3, ground := Ground.phase }, { on := 4, ground := Ground.phase }, { on := 5, ground := Ground.phase }, { on := 6, ground := Ground.phase }, { on := 7, ground := Ground.phase }, { on := 8, ground := Ground.phase }, { on := 9, ground := Ground.phase }, { on := 10, ground := Ground.phase }, { on := 11, ground := Ground.phase }, { on := 12, ground := Ground.phase }, { on := 13, ground := Ground.phase }, { on := 14, ground := Ground.phase }, { on := 15, ground := Ground.phase }, { on := 16, ground := Ground.phase }, { on := 17, ground := Ground.phase }, { on := 18, ground := Ground.phase }, { on := 19, ground := Ground.phase }, { on := 20, ground := Ground.phase }, { on := 21, ground := Ground.phase }, { on := 22, ground := Ground.phase }, { on := 23, ground := Ground.phase }, { on := 24, ground := Ground.phase }, { on := 25, ground := Ground.phase }, { on := 26, ground := Ground.phase }, { on := 27, ground := Ground.phase }, { on := 28, ground := Ground.phase }, { on := 29, ground := Ground.phase }, { on := 30, ground := Ground.phase }, { on := 31, ground := Ground.phase }, { on := 32, ground := Ground.phase }, { on := 33, ground := Ground.phase }, { on := 34, ground := Ground.phase }, { on := 35, ground := Ground.phase }, { on := 36, ground := Ground.phase }, { on := 37, ground := Ground.phase }, { on := 38, ground := Ground.phase }], guard := none }) (v := ?v39w0) rfl (by kernel_rfl) (by kernel_rfl) (by kernel_rfl) (fun _ _ _ h => h) (Or.inl ⟨by rfl, ?y39w0⟩) (by assumption) ?r39w0
        case y39w0 => (intro x hx; (try dsimp only at hx); go_simp; try with_reducible rfl)
        try simp only [Act.put, List.setIfInBounds_toArray, List.set_cons_zero, List.set_cons_succ]
        refine wpAnyH_done (by kernel_rfl) ?_ _
        go_wp2_with fail
        go_ret
        exact ⟨⟨v0, f1, f2, f3⟩, by rw [HF.out]; rfl, fun f hf => (by rw [HF.out] at hf; cases hf), HB1.out, HR1.out, HX1.out⟩
      | some y0 =>
        have HO0 : Hid (kdOf x0 = some y0) := h0
        clear h0
        cases h1 : numOf x1 with
        | none =>
          have HO1 : Hid (numOf x1 = none) := h1
          clear h1
          have HF : Hid (fdOf l = none) := by unfold Hid; rw [HN.out]; unfold fd4; rw [HO0.out, HO1.out]; rfl
          go_enter Tryd.func40, Tryd.ntmps40
          go_upto_region 2 with (first
            | (go_at_call 52; refine HTH.mono ?_; rintro e t1 ⟨g, he1, hg, hc, hr, tw, hg2⟩
               have he2 : e = .returned (.tuple #[.slice (some ⟨g, 0, none⟩) 4 4, .bool true]) := he1
               clear he1
               subst he2
               have HC0 : Hid (t1.drew.cell? ⟨g, 0, none⟩ = some (.string ⟨x0.toArray⟩) ∧ t1.drew.cell? ⟨g, 1, none⟩ = some (.string ⟨x1.toArray⟩) ∧ t1.drew.cell? ⟨g, 2, none⟩ = some (.string ⟨x2.toArray⟩) ∧ t1.drew.cell? ⟨g, 3, none⟩ = some (.string ⟨x3.toArray⟩)) := ⟨hc 0 (by simp), hc 1 (by simp), hc 2 (by simp), hc 3 (by simp)⟩
               have HR0 : Hid (RdA t1.drew q (cutN l).2.1 (k + 1)) := hr
               have HW0 : Hid (Two q q w t1.drew) := tw.drew
               have HB0 : Hid (t1.drew.heap[tb]? = some (.cells #[.int .i64 f0, .int .i64 f1, .int .i64 f2, .int .i64 f3] 29 (0, 0))) := blk_two HB.out tw.drew hne
               have hgt : g ≠ tb := by omega
               have HX0 : Hid (Two q tb w t1.drew) := tw.drew.one
               clear hc hr tw hg2 hg))
          refine wp_region_held_drew (S := (fun y : World => y.cell? ⟨g, 0, none⟩ = some (.string ⟨x0.toArray⟩) ∧ y.cell? ⟨g, 1, none⟩ = some (.string ⟨x1.toArray⟩) ∧ y.cell? ⟨g, 2, none⟩ = some (.string ⟨x2.toArray⟩) ∧ y.cell? ⟨g, 3, none⟩ = some (.string ⟨x3.toArray⟩))) (by kernel_rfl) (HC0.out) (fun hHeld => ?_)
          refine wpAnyH_take (i := 0) (oi := { dst := some 12, op := Op.move (Operand.tmp 6), type := 4, pos := "text.go:143", after := #[], guard := none }) (v := ?v0w1) rfl (by kernel_rfl) (by kernel_rfl) (by kernel_rfl) (fun _ _ _ h => h) (Or.inl ⟨by rfl, ?y0w1⟩) (by assumption) ?r0w1
          case y0w1 => (intro x hx; (try dsimp only at hx); go_simp; try with_reducible rfl)
          try simp only [Act.put, List.setIfInBounds_toArray, List.set_cons_zero, List.set_cons_succ]
          refine wpAnyH_take (i := 1) (oi := { dst := some 13, op := Op.move (Operand.tmp 12), type := 4, pos := "text.go:143", after := #[{ on := 0, ground := Ground.data }], guard := none }) (v := ?v1w1) rfl (by kernel_rfl) (by kernel_rfl) (by kernel_rfl) (fun _ _ _ h => h) (Or.inl ⟨by rfl, ?y1w1⟩) (by assumption) ?r1w1
          case y1w1 => (intro x hx; (try dsimp only at hx); go_simp; try with_reducible rfl)
          try simp only [Act.put, List.setIfInBounds_toArray, List.set_cons_zero, List.set_cons_succ]
          refine wpAnyH_take (i := 2) (oi := { dst := some 14, op := Op.move (Operand.tmp 5), type := 46, pos := "text.go:143", after := #[{ on := 1, ground := Ground.guard }], guard := some (1, true) }) (v := ?v2w1) rfl (by kernel_rfl) (by kernel_rfl) (by kernel_rfl) (fun _ _ _ h => h) (Or.inl ⟨by rfl, ?y2w1⟩) (by assumption) ?r2w1
          case y2w1 => (intro x hx; (try dsimp only at hx); go_simp; try with_reducible rfl)
          try simp only [Act.put, List.setIfInBounds_toArray, List.set_cons_zero, List.set_cons_succ]
          refine wpAnyH_take (i := 3) (oi := { dst := some 15, op := Op.indexAddr 46 (Operand.tmp 14) (Operand.const (Value.int IntKind.i64 0)), type := 0, pos := "text.go:143", after := #[{ on := 2, ground := Ground.data }, { on := 1, ground := Ground.guard }], guard := some (1, true) }) (v := ?v3w1) rfl (by kernel_rfl) (by kernel_rfl) (by kernel_rfl) (fun _ _ _ h => h) (Or.inl ⟨by rfl, ?y3w1⟩) (by assumption) ?r3w1
          case y3w1 => (intro x hx; (try dsimp only at hx); go_simp; try with_reducible rfl)
          try simp only [Act.put, List.setIfInBounds_toArray, List.set_cons_zero, List.set_cons_succ]
          refine wpAnyH_take (i := 4) (oi := { dst := some 16, op := Op.load 9 (Operand.tmp 15), type := 9, pos := "text.go:143", after := #[{ on := 3, ground := Ground.data }, { on := 1, ground := Ground.guard }], guard := some (1, true) }) (v := ?v4w1) rfl (by kernel_rfl) (by kernel_rfl) (by kernel_rfl) (fun _ _ _ h => h) (Or.inl ⟨by rfl, ?y4w1⟩) (by assumption) ?r4w1
          case y4w1 => (intro x hx; (try dsimp only at hx); go_simp; try with_reducible rfl)
          try simp only [Act.put, List.setIfInBounds_toArray, List.set_cons_zero, List.set_cons_succ]
          refine wpAnyH_take (i := 5) (oi := { dst := some 17, op := Op.move (Operand.tmp 1), type := 82, pos := "text.go:143", after := #[{ on := 1, ground := Ground.guard }], guard := some (1, true) }) (v := ?v5w1) rfl (by kernel_rfl) (by kernel_rfl) (by kernel_rfl) (fun _ _ _ h => h) (Or.inl ⟨by rfl, ?y5w1⟩) (by assumption) ?r5w1
          case y5w1 => (intro x hx; (try dsimp only at hx); go_simp; try with_reducible rfl)
          try simp only [Act.put, List.setIfInBounds_toArray, List.set_cons_zero, List.set_cons_succ]
          refine wpAnyH_take (i := 6) (oi := { dst := some 18, op := Op.nilCheck (Operand.tmp 17), type := 0, pos := "text.go:143", after := #[{ on := 5, ground := Ground.data }, { on := 1, ground := Ground.guard }], guard := some (1, true) }) (v := ?v6w1) rfl (by kernel_rfl) (by kernel_rfl) (by kernel_rfl) (fun _ _ _ h => h) (Or.inl ⟨by rfl, ?y6w1⟩) (by assumption) ?r6w1
          case y6w1 => (intro x hx; (try dsimp only at hx); go_simp; try with_reducible rfl)
          try simp only [Act.put, List.setIfInBounds_toArray, List.set_cons_zero, List.set_cons_succ]
          refine wpAnyH_take (i := 7) (oi := { dst := some 19, op := Op.fieldAddr 29 (Operand.tmp 18) 0, type := 0, pos := "text.go:143", after := #[{ on := 6, ground := Ground.data }, { on := 1, ground := Ground.guard }], guard := some (1, true) }) (v := ?v7w1) rfl (by kernel_rfl) (by kernel_rfl) (by kernel_rfl) (fun _ _ _ h => h) (Or.inl ⟨by rfl, ?y7w1⟩) (by assumption) ?r7w1
          case y7w1 => (intro x hx; (try dsimp only at hx); go_simp; try with_reducible rfl)
          try simp only [Act.put, List.setIfInBounds_toArray, List.set_cons_zero, List.set_cons_succ]
          refine wpAnyH_ready (rs := [8]) (by kernel_rfl) (by simp) ?_
          refine AllReadyH.cons (o := { dst := some 20, op := Op.call { callee := Callee.value (Operand.func 53), args := #[Operand.tmp 16, Operand.tmp 19], argTypes := #[9, 78] }, type := 4, pos := "text.go:143", after := #[{ on := 4, ground := Ground.data }, { on := 7, ground := Ground.data }, { on := 1, ground := Ground.chain }, { on := 1, ground := Ground.guard }], guard := some (1, true) }) rfl (fun K hK => ?_) AllReadyH.nil
          go_simp
          refine (iskind_any x0 tb 0 _ _ _ (by omega) HB0.out (by simp) (p10_two HP.out HX0.out hq9 h9) (HV.out.two HX0.out hq9 h9) (HK.out.two HX0.out hq9 h9) h9).mono ?_; rintro e z1 ⟨v0, he1, hv0, hb1, tw⟩
          have he2 : e = .returned (.bool true) := by rw [he1, HO0.out]; rfl
          clear he1
          subst he2
          obtain rfl : v0 = y0 := hv0 _ HO0.out
          have HB1 : Hid (z1.heap[tb]? = some (.cells #[.int .i64 v0, .int .i64 f1, .int .i64 f2, .int .i64 f3] 29 (0, 0))) := hb1
          have HX1 : Hid (Two q tb w z1) := HX0.out.trans tw.too
          have HR1 : Hid (RdA z1 q (cutN l).2.1 (k + 1)) := rda_two HR0.out tw (fun h => hne h.symm)
          have HC1 : Hid (z1.cell? ⟨g, 0, none⟩ = some (.string ⟨x0.toArray⟩) ∧ z1.cell? ⟨g, 1, none⟩ = some (.string ⟨x1.toArray⟩) ∧ z1.cell? ⟨g, 2, none⟩ = some (.string ⟨x2.toArray⟩) ∧ z1.cell? ⟨g, 3, none⟩ = some (.string ⟨x3.toArray⟩)) := ⟨cell_two tw HC0.out.1 hgt, cell_two tw HC0.out.2.1 hgt, cell_two tw HC0.out.2.2.1 hgt, cell_two tw HC0.out.2.2.2 hgt⟩
          have hSnew := HC1.out
          clear hb1 tw
          go_wp2_with fail
          refine hK.out _ _ hSnew (fun hHeld8 => ?_)
          clear hK K hSnew
          clear hHeld
          have hHeld := hHeld8
          clear hHeld8
          try simp only [Act.put, List.setIfInBounds_toArray, List.set_cons_zero, List.set_cons_succ]
          refine wpAnyH_take (i := 9) (oi := { dst := some 21, op := Op.pick (Operand.tmp 13) (Operand.tmp 20) (Operand.const (Value.bool false)), type := 4, pos := "text.go:143", after := #[{ on := 1, ground := Ground.data }, { on := 8, ground := Ground.data }], guard := none }) (v := ?v9w1) rfl (by kernel_rfl) (by kernel_rfl) (by kernel_rfl) (fun _ _ _ h => h) (Or.inl ⟨by rfl, ?y9w1⟩) (by assumption) ?r9w1
          case y9w1 => (intro x hx; (try dsimp only at hx); go_simp; try with_reducible rfl)
          try simp only [Act.put, List.setIfInBounds_toArray, List.set_cons_zero, List.set_cons_succ]
          refine wpAnyH_take (i := 10) (oi := { dst := some 22, op := Op.move (Operand.tmp 21), type := 4, pos := "text.go:143", after := #[{ on := 9, ground := Ground.data }, { on := 8, ground := Ground.chain }], guard := none }) (v := ?v10w1) rfl (by kernel_rfl) (by kernel_rfl) (by kernel_rfl) (fun _ _ _ h => h) (Or.inl ⟨by rfl, ?y10w1⟩) (by assumption) ?r10w1
          case y10w1 => (intro x hx; (try dsimp only at hx); go_simp; try with_reducible rfl)
          try simp only [Act.put, List.setIfInBounds_toArray, List.set_cons_zero, List.set_cons_succ]
          refine wpAnyH_take (i := 11) (oi := { dst := some 23, op := Op.move (Operand.tmp 5), type := 46, pos := "text.go:143", after := #[{ on := 10, ground := Ground.guard }], guard := some (10, true) }) (v := ?v11w1) rfl (by kernel_rfl) (by kernel_rfl) (by kernel_rfl) (fun _ _ _ h => h) (Or.inl ⟨by rfl, ?y11w1⟩) (by assumption) ?r11w1
          case y11w1 => (intro x hx; (try dsimp only at hx); go_simp; try with_reducible rfl)
          try simp only [Act.put, List.setIfInBounds_toArray, List.set_cons_zero, List.set_cons_succ]
          refine wpAnyH_take (i := 12) (oi := { dst := some 24, op := Op.indexAddr 46 (Operand.tmp 23) (Operand.const (Value.int IntKind.i64 1)), type := 0, pos := "text.go:143", after := #[{ on := 11, ground := Ground.data }, { on := 10, ground := Ground.guard }], guard := some (10, true) }) (v := ?v12w1) rfl (by kernel_rfl) (by kernel_rfl) (by kernel_rfl) (fun _ _ _ h => h) (Or.inl ⟨by rfl, ?y12w1⟩) (by assumption) ?r12w1
          case y12w1 => (intro x hx; (try dsimp only at hx); go_simp; try with_reducible rfl)
          try simp only [Act.put, List.setIfInBounds_toArray, List.set_cons_zero, List.set_cons_succ]
          refine wpAnyH_take (i := 13) (oi := { dst := some 25, op := Op.load 9 (Operand.tmp 24), type := 9, pos := "text.go:143", after := #[{ on := 12, ground := Ground.data }, { on := 10, ground := Ground.guard }], guard := some (10, true) }) (v := ?v13w1) rfl (by kernel_rfl) (by kernel_rfl) (by kernel_rfl) (fun _ _ _ h => h) (Or.inl ⟨by rfl, ?y13w1⟩) (by assumption) ?r13w1
          case y13w1 => (intro x hx; (try dsimp only at hx); go_simp; try with_reducible rfl)
          try simp only [Act.put, List.setIfInBounds_toArray, List.set_cons_zero, List.set_cons_succ]
          refine wpAnyH_take (i := 14) (oi := { dst := some 26, op := Op.move (Operand.tmp 1), type := 82, pos := "text.go:143", after := #[{ on := 10, ground := Ground.guard }], guard := some (10, true) }) (v := ?v14w1) rfl (by kernel_rfl) (by kernel_rfl) (by kernel_rfl) (fun _ _ _ h => h) (Or.inl ⟨by rfl, ?y14w1⟩) (by assumption) ?r14w1
          case y14w1 => (intro x hx; (try dsimp only at hx); go_simp; try with_reducible rfl)
          try simp only [Act.put, List.setIfInBounds_toArray, List.set_cons_zero, List.set_cons_succ]
          refine wpAnyH_take (i := 15) (oi := { dst := some 27, op := Op.nilCheck (Operand.tmp 26), type := 0, pos := "text.go:143", after := #[{ on := 14, ground := Ground.data }, { on := 10, ground := Ground.guard }], guard := some (10, true) }) (v := ?v15w1) rfl (by kernel_rfl) (by kernel_rfl) (by kernel_rfl) (fun _ _ _ h => h) (Or.inl ⟨by rfl, ?y15w1⟩) (by assumption) ?r15w1
          case y15w1 => (intro x hx; (try dsimp only at hx); go_simp; try with_reducible rfl)
          try simp only [Act.put, List.setIfInBounds_toArray, List.set_cons_zero, List.set_cons_succ]
          refine wpAnyH_take (i := 16) (oi := { dst := some 28, op := Op.fieldAddr 29 (Operand.tmp 27) 1, type := 0, pos := "text.go:143", after := #[{ on := 15, ground := Ground.data }, { on := 10, ground := Ground.guard }], guard := some (10, true) }) (v := ?v16w1) rfl (by kernel_rfl) (by kernel_rfl) (by kernel_rfl) (fun _ _ _ h => h) (Or.inl ⟨by rfl, ?y16w1⟩) (by assumption) ?r16w1
          case y16w1 => (intro x hx; (try dsimp only at hx); go_simp; try with_reducible rfl)
          try simp only [Act.put, List.setIfInBounds_toArray, List.set_cons_zero, List.set_cons_succ]
          refine wpAnyH_take (i := 17) (oi := { dst := some 29, op := Op.fieldAddr 27 (Operand.tmp 28) 0, type := 0, pos := "text.go:143", after := #[{ on := 16, ground := Ground.data }, { on := 10, ground := Ground.guard }], guard := some (10, true) }) (v := ?v17w1) rfl (by kernel_rfl) (by kernel_rfl) (by kernel_rfl) (fun _ _ _ h => h) (Or.inl ⟨by rfl, ?y17w1⟩) (by assumption) ?r17w1
          case y17w1 => (intro x hx; (try dsimp only at hx); go_simp; try with_reducible rfl)
          try simp only [Act.put, List.setIfInBounds_toArray, List.set_cons_zero, List.set_cons_succ]
          refine wpAnyH_ready (rs := [18]) (by kernel_rfl) (by simp) ?_
          refine AllReadyH.cons (o := { dst := some 30, op := Op.call { callee := Callee.value (Operand.func 51), args := #[Operand.tmp 25, Operand.tmp 29], argTypes := #[9, 78] }, type := 4, pos := "text.go:143", after := #[{ on := 13, ground := Ground.data }, { on := 17, ground := Ground.data }, { on := 10, ground := Ground.chain }, { on := 10, ground := Ground.guard }], guard := some (10, true) }) rfl (fun K hK => ?_) AllReadyH.nil
          go_simp
          refine (isnum_any x1 tb 1 _ _ _ (by omega) HB1.out (by simp) (p10_two HP.out HX1.out hq9 h9) (HV.out.two HX1.out hq9 h9) h9).mono ?_; rintro e z2 ⟨v1, he1, hv1, hb1, tw⟩
          have he2 : e = .returned (.bool false) := by rw [he1, HO1.out]; rfl
          clear he1
          subst he2
          clear hv1
          have HB2 : Hid (z2.heap[tb]? = some (.cells #[.int .i64 v0, .int .i64 v1, .int .i64 f2, .int .i64 f3] 29 (0, 0))) := hb1
          have HX2 : Hid (Two q tb w z2) := HX1.out.trans tw.too
          have HR2 : Hid (RdA z2 q (cutN l).2.1 (k + 1)) := rda_two HR1.out tw (fun h => hne h.symm)
          have HC2 : Hid (z2.cell? ⟨g, 0, none⟩ = some (.string ⟨x0.toArray⟩) ∧ z2.cell? ⟨g, 1, none⟩ = some (.string ⟨x1.toArray⟩) ∧ z2.cell? ⟨g, 2, none⟩ = some (.string ⟨x2.toArray⟩) ∧ z2.cell? ⟨g, 3, none⟩ = some (.string ⟨x3.toArray⟩)) := ⟨cell_two tw HC1.out.1 hgt, cell_two tw HC1.out.2.1 hgt, cell_two tw HC1.out.2.2.1 hgt, cell_two tw HC1.out.2.2.2 hgt⟩
          have hSnew := HC2.out
          clear hb1 tw
          go_wp2_with fail
          refine hK.out _ _ hSnew (fun hHeld18 => ?_)
          clear hK K hSnew
          clear hHeld
          have hHeld := hHeld18
          clear hHeld18
          try simp only [Act.put, List.setIfInBounds_toArray, List.set_cons_zero, List.set_cons_succ]
          refine wpAnyH_take (i := 19) (oi := { dst := some 31, op := Op.pick (Operand.tmp 22) (Operand.tmp 30) (Operand.const (Value.bool false)), type := 4, pos := "text.go:143", after := #[{ on := 10, ground := Ground.data }, { on := 18, ground := Ground.data }], guard := none }) (v := ?v19w1) rfl (by kernel_rfl) (by kernel_rfl) (by kernel_rfl) (fun _ _ _ h => h) (Or.inl ⟨by rfl, ?y19w1⟩) (by assumption) ?r19w1
          case y19w1 => (intro x hx; (try dsimp only at hx); go_simp; try with_reducible rfl)
          try simp only [Act.put, List.setIfInBounds_toArray, List.set_cons_zero, List.set_cons_succ]
          refine wpAnyH_take (i := 20) (oi := { dst := some 32, op := Op.move (Operand.tmp 31), type := 4, pos := "text.go:143", after := #[{ on := 19, ground := Ground.data }, { on := 18, ground := Ground.chain }], guard := none }) (v := ?v20w1) rfl (by kernel_rfl) (by kernel_rfl) (by kernel_rfl) (fun _ _ _ h => h) (Or.inl ⟨by rfl, ?y20w1⟩) (by assumption) ?r20w1
          case y20w1 => (intro x hx; (try dsimp only at hx); go_simp; try with_reducible rfl)
          try simp only [Act.put, List.setIfInBounds_toArray, List.set_cons_zero, List.set_cons_succ]
          refine wpAnyH_take (i := 21) (oi := { dst := some 33, op := Op.move (Operand.tmp 5), type := 46, pos := "text.go:143", after := #[{ on := 20, ground := Ground.guard }], guard := some (20, true) }) (v := undef) rfl (by kernel_rfl) (by kernel_rfl) (by kernel_rfl) (fun _ _ _ h => h) (Or.inr ⟨by rfl, rfl⟩) (by assumption) ?_
          try simp only [Act.put, List.setIfInBounds_toArray, List.set_cons_zero, List.set_cons_succ]
          refine wpAnyH_take (i := 22) (oi := { dst := some 34, op := Op.indexAddr 46 (Operand.tmp 33) (Operand.const (Value.int IntKind.i64 2)), type := 0, pos := "text.go:143", after := #[{ on := 21, ground := Ground.data }, { on := 20, ground := Ground.guard }], guard := some (20, true) }) (v := undef) rfl (by kernel_rfl) (by kernel_rfl) (by kernel_rfl) (fun _ _ _ h => h) (Or.inr ⟨by rfl, rfl⟩) (by assumption) ?_
          try simp only [Act.put, List.setIfInBounds_toArray, List.set_cons_zero, List.set_cons_succ]
          refine wpAnyH_take (i := 23) (oi := { dst := some 35, op := Op.load 9 (Operand.tmp 34), type := 9, pos := "text.go:143", after := #[{ on := 22, ground := Ground.data }, { on := 20, ground := Ground.guard }], guard := some (20, true) }) (v := undef) rfl (by kernel_rfl) (by kernel_rfl) (by kernel_rfl) (fun _ _ _ h => h) (Or.inr ⟨by rfl, rfl⟩) (by assumption) ?_
          try simp only [Act.put, List.setIfInBounds_toArray, List.set_cons_zero, List.set_cons_succ]
          refine wpAnyH_take (i := 24) (oi := { dst := some 36, op := Op.move (Operand.tmp 1), type := 82, pos := "text.go:143", after := #[{ on := 20, ground := Ground.guard }], guard := some (20, true) }) (v := undef) rfl (by kernel_rfl) (by kernel_rfl) (by kernel_rfl) (fun _ _ _ h => h) (Or.inr ⟨by rfl, rfl⟩) (by assumption) ?_
          try simp only [Act.put, List.setIfInBounds_toArray, List.set_cons_zero, List.set_cons_succ]
          refine wpAnyH_take (i := 25) (oi := { dst := some 37, op := Op.nilCheck (Operand.tmp 36), type := 0, pos := "text.go:143", after := #[{ on := 24, ground := Ground.data }, { on := 20, ground := Ground.guard }], guard := some (20, true) }) (v := undef) rfl (by kernel_rfl) (by kernel_rfl) (by kernel_rfl) (fun _ _ _ h => h) (Or.inr ⟨by rfl, rfl⟩) (by assumption) ?_
          try simp only [Act.put, List.setIfInBounds_toArray, List.set_cons_zero, List.set_cons_succ]
          refine wpAnyH_take (i := 26) (oi := { dst := some 38, op := Op.fieldAddr 29 (Operand.tmp 37) 1, type := 0, pos := "text.go:143", after := #[{ on := 25, ground := Ground.data }, { on := 20, ground := Ground.guard }], guard := some (20, true) }) (v := undef) rfl (by kernel_rfl) (by kernel_rfl) (by kernel_rfl) (fun _ _ _ h => h) (Or.inr ⟨by rfl, rfl⟩) (by assumption) ?_
          try simp only [Act.put, List.setIfInBounds_toArray, List.set_cons_zero, List.set_cons_succ]
          refine wpAnyH_take (i := 27) (oi := { dst := some 39, op := Op.fieldAddr 27 (Operand.tmp 38) 1, type := 0, pos := "text.go:143", after := #[{ on := 26, ground := Ground.data }, { on := 20, ground := Ground.guard }], guard := some (20, true) }) (v := undef) rfl (by kernel_rfl) (by kernel_rfl) (by kernel_rfl) (fun _ _ _ h => h) (Or.inr ⟨by rfl, rfl⟩) (by assumption) ?_
          try simp only [Act.put, List.setIfInBounds_toArray, List.set_cons_zero, List.set_cons_succ]
          refine wpAnyH_take (i := 28) (oi := { dst := some 40, op := Op.call { callee := Callee.value (Operand.func 51), args := #[Operand.tmp 35, Operand.tmp 39], argTypes := #[9, 78] }, type := 4, pos := "text.go:144", after := #[{ on := 23, ground := Ground.data }, { on := 27, ground := Ground.data }, { on := 20, ground := Ground.chain }, { on := 20, ground := Ground.guard }], guard := some (20, true) }) (v := undef) rfl (by kernel_rfl) (by kernel_rfl) (by kernel_rfl) (fun _ _ _ h => h) (Or.inr ⟨by rfl, rfl⟩) (by assumption) ?_
          try simp only [Act.put, List.setIfInBounds_toArray, List.set_cons_zero, List.set_cons_succ]
          refine wpAnyH_take (i := 29) (oi := { dst := some 41, op := Op.pick (Operand.tmp 32) (Operand.tmp 40) (Operand.const (Value.bool false)), type := 4, pos := "text.go:143", after := #[{ on := 20, ground := Ground.data }, { on := 28, ground := Ground.data }], guard := none }) (v := ?v29w1) rfl (by kernel_rfl) (by kernel_rfl) (by kernel_rfl) (fun _ _ _ h => h) (Or.inl ⟨by rfl, ?y29w1⟩) (by assumption) ?r29w1
          case y29w1 => (intro x hx; (try dsimp only at hx); go_simp; try with_reducible rfl)
          try simp only [Act.put, List.setIfInBounds_toArray, List.set_cons_zero, List.set_cons_succ]
          refine wpAnyH_take (i := 30) (oi := { dst := some 42, op := Op.move (Operand.tmp 41), type := 4, pos := "text.go:143", after := #[{ on := 29, ground := Ground.data }, { on := 28, ground := Ground.chain }], guard := none }) (v := ?v30w1) rfl (by kernel_rfl) (by kernel_rfl) (by kernel_rfl) (fun _ _ _ h => h) (Or.inl ⟨by rfl, ?y30w1⟩) (by assumption) ?r30w1
          case y30w1 => (intro x hx; (try dsimp only at hx); go_simp; try with_reducible rfl)
          try simp only [Act.put, List.setIfInBounds_toArray, List.set_cons_zero, List.set_cons_succ]
          refine wpAnyH_take (i := 31) (oi := { dst := some 43, op := Op.move (Operand.tmp 5), type := 46, pos := "text.go:143", after := #[{ on := 30, ground := Ground.guard }], guard := some (30, true) }) (v := undef) rfl (by kernel_rfl) (by kernel_rfl) (by kernel_rfl) (fun _ _ _ h => h) (Or.inr ⟨by rfl, rfl⟩) (by assumption) ?_
          try simp only [Act.put, List.setIfInBounds_toArray, List.set_cons_zero, List.set_cons_succ]
          refine wpAnyH_take (i := 32) (oi := { dst := some 44, op := Op.indexAddr 46 (Operand.tmp 43) (Operand.const (Value.int IntKind.i64 3)), type := 0, pos := "text.go:143", after := #[{ on := 31, ground := Ground.data }, { on := 30, ground := Ground.guard }], guard := some (30, true) }) (v := undef) rfl (by kernel_rfl) (by kernel_rfl) (by kernel_rfl) (fun _ _ _ h => h) (Or.inr ⟨by rfl, rfl⟩) (by assumption) ?_
          try simp only [Act.put, List.setIfInBounds_toArray, List.set_cons_zero, List.set_cons_succ]
          refine wpAnyH_take (i := 33) (oi := { dst := some 45, op := Op.load 9 (Operand.tmp 44), type := 9, pos := "text.go:143", after := #[{ on := 32, ground := Ground.data }, { on := 30, ground := Ground.guard }], guard := some (30, true) }) (v := undef) rfl (by kernel_rfl) (by kernel_rfl) (by kernel_rfl) (fun _ _ _ h => h) (Or.inr ⟨by rfl, rfl⟩) (by assumption) ?_
          try simp only [Act.put, List.setIfInBounds_toArray, List.set_cons_zero, List.set_cons_succ]
          refine wpAnyH_take (i := 34) (oi := { dst := some 46, op := Op.move (Operand.tmp 1), type := 82, pos := "text.go:143", after := #[{ on := 30, ground := Ground.guard }], guard := some (30, true) }) (v := undef) rfl (by kernel_rfl) (by kernel_rfl) (by kernel_rfl) (fun _ _ _ h => h) (Or.inr ⟨by rfl, rfl⟩) (by assumption) ?_
          try simp only [Act.put, List.setIfInBounds_toArray, List.set_cons_zero, List.set_cons_succ]
          refine wpAnyH_take (i := 35) (oi := { dst := some 47, op := Op.nilCheck (Operand.tmp 46), type := 0, pos := "text.go:143", after := #[{ on := 34, ground := Ground.data }, { on := 30, ground := Ground.guard }], guard := some (30, true) }) (v := undef) rfl (by kernel_rfl) (by kernel_rfl) (by kernel_rfl) (fun _ _ _ h => h) (Or.inr ⟨by rfl, rfl⟩) (by assumption) ?_
          try simp only [Act.put, List.setIfInBounds_toArray, List.set_cons_zero, List.set_cons_succ]
          refine wpAnyH_take (i := 36) (oi := { dst := some 48, op := Op.fieldAddr 29 (Operand.tmp 47) 2, type := 0, pos := "text.go:143", after := #[{ on := 35, ground := Ground.data }, { on := 30, ground := Ground.guard }], guard := some (30, true) }) (v := undef) rfl (by kernel_rfl) (by kernel_rfl) (by kernel_rfl) (fun _ _ _ h => h) (Or.inr ⟨by rfl, rfl⟩) (by assumption) ?_
          try simp only [Act.put, List.setIfInBounds_toArray, List.set_cons_zero, List.set_cons_succ]
          refine wpAnyH_take (i := 37) (oi := { dst := some 49, op := Op.call { callee := Callee.value (Operand.func 51), args := #[Operand.tmp 45, Operand.tmp 48], argTypes := #[9, 78] }, type := 4, pos := "text.go:144", after := #[{ on := 33, ground := Ground.data }, { on := 36, ground := Ground.data }, { on := 30, ground := Ground.chain }, { on := 30, ground := Ground.guard }], guard := some (30, true) }) (v := undef) rfl (by kernel_rfl) (by kernel_rfl) (by kernel_rfl) (fun _ _ _ h => h) (Or.inr ⟨by rfl, rfl⟩) (by assumption) ?_
          try simp only [Act.put, List.setIfInBounds_toArray, List.set_cons_zero, List.set_cons_succ]
          refine wpAnyH_take (i := 38) (oi := { dst := some 50, op := Op.pick (Operand.tmp 42) (Operand.tmp 49) (Operand.const (Value.bool false)), type := 4, pos := "text.go:143", after := #[{ on := 30, ground := Ground.data }, { on := 37, ground := Ground.data }], guard := none }) (v := ?v38w1) rfl (by kernel_rfl) (by kernel_rfl) (by kernel_rfl) (fun _ _ _ h => h) (Or.inl ⟨by rfl, ?y38w1⟩) (by assumption) ?r38w1
          case y38w1 => (intro x hx; (try dsimp only at hx); go_simp; try with_reducible rfl)
          try simp only [Act.put, List.setIfInBounds_toArray, List.set_cons_zero, List.set_cons_succ]
          refine wpAnyH_take (i := 39) (oi := { dst := some 4, op := Op.assign (Operand.tmp 50), type := 4, pos := "text.go:143", after := #[{ on := 38, ground := Ground.data }, { on := 37, ground := Ground.chain }, { on := 0, ground := Ground.phase }, { on := 1, ground := Ground.phase }, { on := 2, ground := Ground.phase }, { on := 3, ground := Ground.phase }, { on := 4, ground := Ground.phase }, { on := 5, ground := Ground.phase }, { on := 6, ground := Ground.phase }, { on := 7, ground := Ground.phase }, { on := 8, ground := Ground.phase }, { on := 9, ground := Ground.phase }, { on := 10, ground := Ground.phase }, { on := 11, ground := Ground.phase }, { on := 12, ground := Ground.phase }, { on := 13, ground := Ground.phase }, { on := 14, ground := Ground.phase }, { on := 15, ground := Ground.phase }, { on := 16, ground := Ground.phase }, { on := 17, ground := Ground.phase }, { on := 18, ground := Ground.phase }, { on := 19, ground := Ground.phase }, { on := 20, ground := Ground.phase }, { on := 21, ground := Ground.phase }, { on := 22, ground := Ground.phase }, { on := 23, ground := Ground.phase }, { on := 24, ground := Ground.phase }, { on := 25, ground := Ground.phase }, { on := 26, ground := Ground.phase }, { on := 27, ground := Ground.phase }, { on := 28, ground := Ground.phase }, { on := 29, ground := Ground.phase }, { on := 30, ground := Ground.phase }, { on := 31, ground := Ground.phase }, { on := 32, ground := Ground.phase }, { on := 33, ground := Ground.phase }, { on := 34, ground := Ground.phase }, { on := 35, ground := Ground.phase }, { on := 36, ground := Ground.phase }, { on := 37, ground := Ground.phase }, { on := 38, ground := Ground.phase }], guard := none }) (v := ?v39w1) rfl (by kernel_rfl) (by kernel_rfl) (by kernel_rfl) (fun _ _ _ h => h) (Or.inl ⟨by rfl, ?y39w1⟩) (by assumption) ?r39w1
          case y39w1 => (intro x hx; (try dsimp only at hx); go_simp; try with_reducible rfl)
          try simp only [Act.put, List.setIfInBounds_toArray, List.set_cons_zero, List.set_cons_succ]
          refine wpAnyH_done (by kernel_rfl) ?_ _
          go_wp2_with fail
          go_ret
          exact ⟨⟨v0, v1, f2, f3⟩, by rw [HF.out]; rfl, fun f hf => (by rw [HF.out] at hf; cases hf), HB2.out, HR2.out, HX2.out⟩
        | some y1 =>
          have HO1 : Hid (numOf x1 = some y1) := h1
          clear h1
          cases h2 : numOf x2 with
          | none =>
            have HO2 : Hid (numOf x2 = none) := h2
            clear h2
            have HF : Hid (fdOf l = none) := by unfold Hid; rw [HN.out]; unfold fd4; rw [HO0.out, HO1.out, HO2.out]; rfl
            go_enter Tryd.func40, Tryd.ntmps40
            go_upto_region 2 with (first
              | (go_at_call 52; refine HTH.mono ?_; rintro e t1 ⟨g, he1, hg, hc, hr, tw, hg2⟩
                 have he2 : e = .returned (.tuple #[.slice (some ⟨g, 0, none⟩) 4 4, .bool true]) := he1
                 clear he1
                 subst he2
                 have HC0 : Hid (t1.drew.cell? ⟨g, 0, none⟩ = some (.string ⟨x0.toArray⟩) ∧ t1.drew.cell? ⟨g, 1, none⟩ = some (.string ⟨x1.toArray⟩) ∧ t1.drew.cell? ⟨g, 2, none⟩ = some (.string ⟨x2.toArray⟩) ∧ t1.drew.cell? ⟨g, 3, none⟩ = some (.string ⟨x3.toArray⟩)) := ⟨hc 0 (by simp), hc 1 (by simp), hc 2 (by simp), hc 3 (by simp)⟩
                 have HR0 : Hid (RdA t1.drew q (cutN l).2.1 (k + 1)) := hr
                 have HW0 : Hid (Two q q w t1.drew) := tw.drew
                 have HB0 : Hid (t1.drew.heap[tb]? = some (.cells #[.int .i64 f0, .int .i64 f1, .int .i64 f2, .int .i64 f3] 29 (0, 0))) := blk_two HB.out tw.drew hne
                 have hgt : g ≠ tb := by omega
                 have HX0 : Hid (Two q tb w t1.drew) := tw.drew.one
                 clear hc hr tw hg2 hg))
            refine wp_region_held_drew (S := (fun y : World => y.cell? ⟨g, 0, none⟩ = some (.string ⟨x0.toArray⟩) ∧ y.cell? ⟨g, 1, none⟩ = some (.string ⟨x1.toArray⟩) ∧ y.cell? ⟨g, 2, none⟩ = some (.string ⟨x2.toArray⟩) ∧ y.cell? ⟨g, 3, none⟩ = some (.string ⟨x3.toArray⟩))) (by kernel_rfl) (HC0.out) (fun hHeld => ?_)
            refine wpAnyH_take (i := 0) (oi := { dst := some 12, op := Op.move (Operand.tmp 6), type := 4, pos := "text.go:143", after := #[], guard := none }) (v := ?v0w2) rfl (by kernel_rfl) (by kernel_rfl) (by kernel_rfl) (fun _ _ _ h => h) (Or.inl ⟨by rfl, ?y0w2⟩) (by assumption) ?r0w2
            case y0w2 => (intro x hx; (try dsimp only at hx); go_simp; try with_reducible rfl)
            try simp only [Act.put, List.setIfInBounds_toArray, List.set_cons_zero, List.set_cons_succ]
            refine wpAnyH_take (i := 1) (oi := { dst := some 13, op := Op.move (Operand.tmp 12), type := 4, pos := "text.go:143", after := #[{ on := 0, ground := Ground.data }], guard := none }) (v := ?v1w2) rfl (by kernel_rfl) (by kernel_rfl) (by kernel_rfl) (fun _ _ _ h => h) (Or.inl ⟨by rfl, ?y1w2⟩) (by assumption) ?r1w2
            case y1w2 => (intro x hx; (try dsimp only at hx); go_simp; try with_reducible rfl)
            try simp only [Act.put, List.setIfInBounds_toArray, List.set_cons_zero, List.set_cons_succ]
            refine wpAnyH_take (i := 2) (oi := { dst := some 14, op := Op.move (Operand.tmp 5), type := 46, pos := "text.go:143", after := #[{ on := 1, ground := Ground.guard }], guard := some (1, true) }) (v := ?v2w2) rfl (by kernel_rfl) (by kernel_rfl) (by kernel_rfl) (fun _ _ _ h => h) (Or.inl ⟨by rfl, ?y2w2⟩) (by assumption) ?r2w2
            case y2w2 => (intro x hx; (try dsimp only at hx); go_simp; try with_reducible rfl)
            try simp only [Act.put, List.setIfInBounds_toArray, List.set_cons_zero, List.set_cons_succ]
            refine wpAnyH_take (i := 3) (oi := { dst := some 15, op := Op.indexAddr 46 (Operand.tmp 14) (Operand.const (Value.int IntKind.i64 0)), type := 0, pos := "text.go:143", after := #[{ on := 2, ground := Ground.data }, { on := 1, ground := Ground.guard }], guard := some (1, true) }) (v := ?v3w2) rfl (by kernel_rfl) (by kernel_rfl) (by kernel_rfl) (fun _ _ _ h => h) (Or.inl ⟨by rfl, ?y3w2⟩) (by assumption) ?r3w2
            case y3w2 => (intro x hx; (try dsimp only at hx); go_simp; try with_reducible rfl)
            try simp only [Act.put, List.setIfInBounds_toArray, List.set_cons_zero, List.set_cons_succ]
            refine wpAnyH_take (i := 4) (oi := { dst := some 16, op := Op.load 9 (Operand.tmp 15), type := 9, pos := "text.go:143", after := #[{ on := 3, ground := Ground.data }, { on := 1, ground := Ground.guard }], guard := some (1, true) }) (v := ?v4w2) rfl (by kernel_rfl) (by kernel_rfl) (by kernel_rfl) (fun _ _ _ h => h) (Or.inl ⟨by rfl, ?y4w2⟩) (by assumption) ?r4w2
            case y4w2 => (intro x hx; (try dsimp only at hx); go_simp; try with_reducible rfl)
            try simp only [Act.put, List.setIfInBounds_toArray, List.set_cons_zero, List.set_cons_succ]
            refine wpAnyH_take (i := 5) (oi := { dst := some 17, op := Op.move (Operand.tmp 1), type := 82, pos := "text.go:143", after := #[{ on := 1, ground := Ground.guard }], guard := some (1, true) }) (v := ?v5w2) rfl (by kernel_rfl) (by kernel_rfl) (by kernel_rfl) (fun _ _ _ h => h) (Or.inl ⟨by rfl, ?y5w2⟩) (by assumption) ?r5w2
            case y5w2 => (intro x hx; (try dsimp only at hx); go_simp; try with_reducible rfl)
            try simp only [Act.put, List.setIfInBounds_toArray, List.set_cons_zero, List.set_cons_succ]
            refine wpAnyH_take (i := 6) (oi := { dst := some 18, op := Op.nilCheck (Operand.tmp 17), type := 0, pos := "text.go:143", after := #[{ on := 5, ground := Ground.data }, { on := 1, ground := Ground.guard }], guard := some (1, true) }) (v := ?v6w2) rfl (by kernel_rfl) (by kernel_rfl) (by kernel_rfl) (fun _ _ _ h => h) (Or.inl ⟨by rfl, ?y6w2⟩) (by assumption) ?r6w2
            case y6w2 => (intro x hx; (try dsimp only at hx); go_simp; try with_reducible rfl)
            try simp only [Act.put, List.setIfInBounds_toArray, List.set_cons_zero, List.set_cons_succ]
            refine wpAnyH_take (i := 7) (oi := { dst := some 19, op := Op.fieldAddr 29 (Operand.tmp 18) 0, type := 0, pos := "text.go:143", after := #[{ on := 6, ground := Ground.data }, { on := 1, ground := Ground.guard }], guard := some (1, true) }) (v := ?v7w2) rfl (by kernel_rfl) (by kernel_rfl) (by kernel_rfl) (fun _ _ _ h => h) (Or.inl ⟨by rfl, ?y7w2⟩) (by assumption) ?r7w2
            case y7w2 => (intro x hx; (try dsimp only at hx); go_simp; try with_reducible rfl)
            try simp only [Act.put, List.setIfInBounds_toArray, List.set_cons_zero, List.set_cons_succ]
            refine wpAnyH_ready (rs := [8]) (by kernel_rfl) (by simp) ?_
            refine AllReadyH.cons (o := { dst := some 20, op := Op.call { callee := Callee.value (Operand.func 53), args := #[Operand.tmp 16, Operand.tmp 19], argTypes := #[9, 78] }, type := 4, pos := "text.go:143", after := #[{ on := 4, ground := Ground.data }, { on := 7, ground := Ground.data }, { on := 1, ground := Ground.chain }, { on := 1, ground := Ground.guard }], guard := some (1, true) }) rfl (fun K hK => ?_) AllReadyH.nil
            go_simp
            refine (iskind_any x0 tb 0 _ _ _ (by omega) HB0.out (by simp) (p10_two HP.out HX0.out hq9 h9) (HV.out.two HX0.out hq9 h9) (HK.out.two HX0.out hq9 h9) h9).mono ?_; rintro e z1 ⟨v0, he1, hv0, hb1, tw⟩
            have he2 : e = .returned (.bool true) := by rw [he1, HO0.out]; rfl
            clear he1
            subst he2
            obtain rfl : v0 = y0 := hv0 _ HO0.out
            have HB1 : Hid (z1.heap[tb]? = some (.cells #[.int .i64 v0, .int .i64 f1, .int .i64 f2, .int .i64 f3] 29 (0, 0))) := hb1
            have HX1 : Hid (Two q tb w z1) := HX0.out.trans tw.too
            have HR1 : Hid (RdA z1 q (cutN l).2.1 (k + 1)) := rda_two HR0.out tw (fun h => hne h.symm)
            have HC1 : Hid (z1.cell? ⟨g, 0, none⟩ = some (.string ⟨x0.toArray⟩) ∧ z1.cell? ⟨g, 1, none⟩ = some (.string ⟨x1.toArray⟩) ∧ z1.cell? ⟨g, 2, none⟩ = some (.string ⟨x2.toArray⟩) ∧ z1.cell? ⟨g, 3, none⟩ = some (.string ⟨x3.toArray⟩)) := ⟨cell_two tw HC0.out.1 hgt, cell_two tw HC0.out.2.1 hgt, cell_two tw HC0.out.2.2.1 hgt, cell_two tw HC0.out.2.2.2 hgt⟩
            have hSnew := HC1.out
            clear hb1 tw
            go_wp2_with fail
            refine hK.out _ _ hSnew (fun hHeld8 => ?_)
            clear hK K hSnew
            clear hHeld
            have hHeld := hHeld8
            clear hHeld8
            try simp only [Act.put, List.setIfInBounds_toArray, List.set_cons_zero, List.set_cons_succ]
            refine wpAnyH_take (i := 9) (oi := { dst := some 21, op := Op.pick (Operand.tmp 13) (Operand.tmp 20) (Operand.const (Value.bool false)), type := 4, pos := "text.go:143", after := #[{ on := 1, ground := Ground.data }, { on := 8, ground := Ground.data }], guard := none }) (v := ?v9w2) rfl (by kernel_rfl) (by kernel_rfl) (by kernel_rfl) (fun _ _ _ h => h) (Or.inl ⟨by rfl, ?y9w2⟩) (by assumption) ?r9w2
            case y9w2 => (intro x hx; (try dsimp only at hx); go_simp; try with_reducible rfl)
            try simp only [Act.put, List.setIfInBounds_toArray, List.set_cons_zero, List.set_cons_succ]
            refine wpAnyH_take (i := 10) (oi := { dst := some 22, op := Op.move (Operand.tmp 21), type := 4, pos := "text.go:143", after := #[{ on := 9, ground := Ground.data }, { on := 8, ground := Ground.chain }], guard := none }) (v := ?v10w2) rfl (by kernel_rfl) (by kernel_rfl) (by kernel_rfl) (fun _ _ _ h => h) (Or.inl ⟨by rfl, ?y10w2⟩) (by assumption) ?r10w2
            case y10w2 => (intro x hx; (try dsimp only at hx); go_simp; try with_reducible rfl)
            try simp only [Act.put, List.setIfInBounds_toArray, List.set_cons_zero, List.set_cons_succ]
            refine wpAnyH_take (i := 11) (oi := { dst := some 23, op := Op.move (Operand.tmp 5), type := 46, pos := "text.go:143", after := #[{ on := 10, ground := Ground.guard }], guard := some (10, true) }) (v := ?v11w2) rfl (by kernel_rfl) (by kernel_rfl) (by kernel_rfl) (fun _ _ _ h => h) (Or.inl ⟨by rfl, ?y11w2⟩) (by assumption) ?r11w2
            case y11w2 => (intro x hx; (try dsimp only at hx); go_simp; try with_reducible rfl)
            try simp only [Act.put, List.setIfInBounds_toArray, List.set_cons_zero, List.set_cons_succ]
            refine wpAnyH_take (i := 12) (oi := { dst := some 24, op := Op.indexAddr 46 (Operand.tmp 23) (Operand.const (Value.int IntKind.i64 1)), type := 0, pos := "text.go:143", after := #[{ on := 11, ground := Ground.data }, { on := 10, ground := Ground.guard }], guard := some (10, true) }) (v := ?v12w2) rfl (by kernel_rfl) (by kernel_rfl) (by kernel_rfl) (fun _ _ _ h => h) (Or.inl ⟨by rfl, ?y12w2⟩) (by assumption) ?r12w2
            case y12w2 => (intro x hx; (try dsimp only at hx); go_simp; try with_reducible rfl)
            try simp only [Act.put, List.setIfInBounds_toArray, List.set_cons_zero, List.set_cons_succ]
            refine wpAnyH_take (i := 13) (oi := { dst := some 25, op := Op.load 9 (Operand.tmp 24), type := 9, pos := "text.go:143", after := #[{ on := 12, ground := Ground.data }, { on := 10, ground := Ground.guard }], guard := some (10, true) }) (v := ?v13w2) rfl (by kernel_rfl) (by kernel_rfl) (by kernel_rfl) (fun _ _ _ h => h) (Or.inl ⟨by rfl, ?y13w2⟩) (by assumption) ?r13w2
            case y13w2 => (intro x hx; (try dsimp only at hx); go_simp; try with_reducible rfl)
            try simp only [Act.put, List.setIfInBounds_toArray, List.set_cons_zero, List.set_cons_succ]
            refine wpAnyH_take (i := 14) (oi := { dst := some 26, op := Op.move (Operand.tmp 1), type := 82, pos := "text.go:143", after := #[{ on := 10, ground := Ground.guard }], guard := some (10, true) }) (v := ?v14w2) rfl (by kernel_rfl) (by kernel_rfl) (by kernel_rfl) (fun _ _ _ h => h) (Or.inl ⟨by rfl, ?y14w2⟩) (by assumption) ?r14w2
            case y14w2 => (intro x hx; (try dsimp only at hx); go_simp; try with_reducible rfl)
            try simp only [Act.put, List.setIfInBounds_toArray, List.set_cons_zero, List.set_cons_succ]
            refine wpAnyH_take (i := 15) (oi := { dst := some 27, op := Op.nilCheck (Operand.tmp 26), type := 0, pos := "text.go:143", after := #[{ on := 14, ground := Ground.data }, { on := 10, ground := Ground.guard }], guard := some (10, true) }) (v := ?v15w2) rfl (by kernel_rfl) (by kernel_rfl) (by kernel_rfl) (fun _ _ _ h => h) (Or.inl ⟨by rfl, ?y15w2⟩) (by assumption) ?r15w2
            case y15w2 => (intro x hx; (try dsimp only at hx); go_simp; try with_reducible rfl)
            try simp only [Act.put, List.setIfInBounds_toArray, List.set_cons_zero, List.set_cons_succ]
            refine wpAnyH_take (i := 16) (oi := { dst := some 28, op := Op.fieldAddr 29 (Operand.tmp 27) 1, type := 0, pos := "text.go:143", after := #[{ on := 15, ground := Ground.data }, { on := 10, ground := Ground.guard }], guard := some (10, true) }) (v := ?v16w2) rfl (by kernel_rfl) (by kernel_rfl) (by kernel_rfl) (fun _ _ _ h => h) (Or.inl ⟨by rfl, ?y16w2⟩) (by assumption) ?r16w2
            case y16w2 => (intro x hx; (try dsimp only at hx); go_simp; try with_reducible rfl)
            try simp only [Act.put, List.setIfInBounds_toArray, List.set_cons_zero, List.set_cons_succ]
            refine wpAnyH_take (i := 17) (oi := { dst := some 29, op := Op.fieldAddr 27 (Operand.tmp 28) 0, type := 0, pos := "text.go:143", after := #[{ on := 16, ground := Ground.data }, { on := 10, ground := Ground.guard }], guard := some (10, true) }) (v := ?v17w2) rfl (by kernel_rfl) (by kernel_rfl) (by kernel_rfl) (fun _ _ _ h => h) (Or.inl ⟨by rfl, ?y17w2⟩) (by assumption) ?r17w2
            case y17w2 => (intro x hx; (try dsimp only at hx); go_simp; try with_reducible rfl)
            try simp only [Act.put, List.setIfInBounds_toArray, List.set_cons_zero, List.set_cons_succ]
            refine wpAnyH_ready (rs := [18]) (by kernel_rfl) (by simp) ?_
            refine AllReadyH.cons (o := { dst := some 30, op := Op.call { callee := Callee.value (Operand.func 51), args := #[Operand.tmp 25, Operand.tmp 29], argTypes := #[9, 78] }, type := 4, pos := "text.go:143", after := #[{ on := 13, ground := Ground.data }, { on := 17, ground := Ground.data }, { on := 10, ground := Ground.chain }, { on := 10, ground := Ground.guard }], guard := some (10, true) }) rfl (fun K hK => ?_) AllReadyH.nil
            go_simp
            refine (isnum_any x1 tb 1 _ _ _ (by omega) HB1.out (by simp) (p10_two HP.out HX1.out hq9 h9) (HV.out.two HX1.out hq9 h9) h9).mono ?_; rintro e z2 ⟨v1, he1, hv1, hb1, tw⟩
            have he2 : e = .returned (.bool true) := by rw [he1, HO1.out]; rfl
            clear he1
            subst he2
            obtain rfl : v1 = y1 := hv1 _ HO1.out
            have HB2 : Hid (z2.heap[tb]? = some (.cells #[.int .i64 v0, .int .i64 v1, .int .i64 f2, .int .i64 f3] 29 (0, 0))) := hb1
            have HX2 : Hid (Two q tb w z2) := HX1.out.trans tw.too
            have HR2 : Hid (RdA z2 q (cutN l).2.1 (k + 1)) := rda_two HR1.out tw (fun h => hne h.symm)
            have HC2 : Hid (z2.cell? ⟨g, 0, none⟩ = some (.string ⟨x0.toArray⟩) ∧ z2.cell? ⟨g, 1, none⟩ = some (.string ⟨x1.toArray⟩) ∧ z2.cell? ⟨g, 2, none⟩ = some (.string ⟨x2.toArray⟩) ∧ z2.cell? ⟨g, 3, none⟩ = some (.string ⟨x3.toArray⟩)) := ⟨cell_two tw HC1.out.1 hgt, cell_two tw HC1.out.2.1 hgt, cell_two tw HC1.out.2.2.1 hgt, cell_two tw HC1.out.2.2.2 hgt⟩
            have hSnew := HC2.out
            clear hb1 tw
            go_wp2_with fail
            refine hK.out _ _ hSnew (fun hHeld18 => ?_)
            clear hK K hSnew
            clear hHeld
            have hHeld := hHeld18
            clear hHeld18
            try simp only [Act.put, List.setIfInBounds_toArray, List.set_cons_zero, List.set_cons_succ]
            refine wpAnyH_take (i := 19) (oi := { dst := some 31, op := Op.pick (Operand.tmp 22) (Operand.tmp 30) (Operand.const (Value.bool false)), type := 4, pos := "text.go:143", after := #[{ on := 10, ground := Ground.data }, { on := 18, ground := Ground.data }], guard := none }) (v := ?v19w2) rfl (by kernel_rfl) (by kernel_rfl) (by kernel_rfl) (fun _ _ _ h => h) (Or.inl ⟨by rfl, ?y19w2⟩) (by assumption) ?r19w2
            case y19w2 => (intro x hx; (try dsimp only at hx); go_simp; try with_reducible rfl)
            try simp only [Act.put, List.setIfInBounds_toArray, List.set_cons_zero, List.set_cons_succ]
            refine wpAnyH_take (i := 20) (oi := { dst := some 32, op := Op.move (Operand.tmp 31), type := 4, pos := "text.go:143", after := #[{ on := 19, ground := Ground.data }, { on := 18, ground := Ground.chain }], guard := none }) (v := ?v20w2) rfl (by kernel_rfl) (by kernel_rfl) (by kernel_rfl) (fun _ _ _ h => h) (Or.inl ⟨by rfl, ?y20w2⟩) (by assumption) ?r20w2
            case y20w2 => (intro x hx; (try dsimp only at hx); go_simp; try with_reducible rfl)
            try simp only [Act.put, List.setIfInBounds_toArray, List.set_cons_zero, List.set_cons_succ]
            refine wpAnyH_take (i := 21) (oi := { dst := some 33, op := Op.move (Operand.tmp 5), type := 46, pos := "text.go:143", after := #[{ on := 20, ground := Ground.guard }], guard := some (20, true) }) (v := ?v21w2) rfl (by kernel_rfl) (by kernel_rfl) (by kernel_rfl) (fun _ _ _ h => h) (Or.inl ⟨by rfl, ?y21w2⟩) (by assumption) ?r21w2
            case y21w2 => (intro x hx; (try dsimp only at hx); go_simp; try with_reducible rfl)
            try simp only [Act.put, List.setIfInBounds_toArray, List.set_cons_zero, List.set_cons_succ]
            refine wpAnyH_take (i := 22) (oi := { dst := some 34, op := Op.indexAddr 46 (Operand.tmp 33) (Operand.const (Value.int IntKind.i64 2)), type := 0, pos := "text.go:143", after := #[{ on := 21, ground := Ground.data }, { on := 20, ground := Ground.guard }], guard := some (20, true) }) (v := ?v22w2) rfl (by kernel_rfl) (by kernel_rfl) (by kernel_rfl) (fun _ _ _ h => h) (Or.inl ⟨by rfl, ?y22w2⟩) (by assumption) ?r22w2
            case y22w2 => (intro x hx; (try dsimp only at hx); go_simp; try with_reducible rfl)
            try simp only [Act.put, List.setIfInBounds_toArray, List.set_cons_zero, List.set_cons_succ]
            refine wpAnyH_take (i := 23) (oi := { dst := some 35, op := Op.load 9 (Operand.tmp 34), type := 9, pos := "text.go:143", after := #[{ on := 22, ground := Ground.data }, { on := 20, ground := Ground.guard }], guard := some (20, true) }) (v := ?v23w2) rfl (by kernel_rfl) (by kernel_rfl) (by kernel_rfl) (fun _ _ _ h => h) (Or.inl ⟨by rfl, ?y23w2⟩) (by assumption) ?r23w2
            case y23w2 => (intro x hx; (try dsimp only at hx); go_simp; try with_reducible rfl)
            try simp only [Act.put, List.setIfInBounds_toArray, List.set_cons_zero, List.set_cons_succ]
            refine wpAnyH_take (i := 24) (oi := { dst := some 36, op := Op.move (Operand.tmp 1), type := 82, pos := "text.go:143", after := #[{ on := 20, ground := Ground.guard }], guard := some (20, true) }) (v := ?v24w2) rfl (by kernel_rfl) (by kernel_rfl) (by kernel_rfl) (fun _ _ _ h => h) (Or.inl ⟨by rfl, ?y24w2⟩) (by assumption) ?r24w2
            case y24w2 => (intro x hx; (try dsimp only at hx); go_simp; try with_reducible rfl)
            try simp only [Act.put, List.setIfInBounds_toArray, List.set_cons_zero, List.set_cons_succ]
            refine wpAnyH_take (i := 25) (oi := { dst := some 37, op := Op.nilCheck (Operand.tmp 36), type := 0, pos := "text.go:143", after := #[{ on := 24, ground := Ground.data }, { on := 20, ground := Ground.guard }], guard := some (20, true) }) (v := ?v25w2) rfl (by kernel_rfl) (by kernel_rfl) (by kernel_rfl) (fun _ _ _ h => h) (Or.inl ⟨by rfl, ?y25w2⟩) (by assumption) ?r25w2
            case y25w2 => (intro x hx; (try dsimp only at hx); go_simp; try with_reducible rfl)
            try simp only [Act.put, List.setIfInBounds_toArray, List.set_cons_zero, List.set_cons_succ]
            refine wpAnyH_take (i := 26) (oi := { dst := some 38, op := Op.fieldAddr 29 (Operand.tmp 37) 1, type := 0, pos := "text.go:143", after := #[{ on := 25, ground := Ground.data }, { on := 20, ground := Ground.guard }], guard := some (20, true) }) (v := ?v26w2) rfl (by kernel_rfl) (by kernel_rfl) (by kernel_rfl) (fun _ _ _ h => h) (Or.inl ⟨by rfl, ?y26w2⟩) (by assumption) ?r26w2
            case y26w2 => (intro x hx; (try dsimp only at hx); go_simp; try with_reducible rfl)
            try simp only [Act.put, List.setIfInBounds_toArray, List.set_cons_zero, List.set_cons_succ]
            refine wpAnyH_take (i := 27) (oi := { dst := some 39, op := Op.fieldAddr 27 (Operand.tmp 38) 1, type := 0, pos := "text.go:143", after := #[{ on := 26, ground := Ground.data }, { on := 20, ground := Ground.guard }], guard := some (20, true) }) (v := ?v27w2) rfl (by kernel_rfl) (by kernel_rfl) (by kernel_rfl) (fun _ _ _ h => h) (Or.inl ⟨by rfl, ?y27w2⟩) (by assumption) ?r27w2
            case y27w2 => (intro x hx; (try dsimp only at hx); go_simp; try with_reducible rfl)
            try simp only [Act.put, List.setIfInBounds_toArray, List.set_cons_zero, List.set_cons_succ]
            refine wpAnyH_ready (rs := [28]) (by kernel_rfl) (by simp) ?_
            refine AllReadyH.cons (o := { dst := some 40, op := Op.call { callee := Callee.value (Operand.func 51), args := #[Operand.tmp 35, Operand.tmp 39], argTypes := #[9, 78] }, type := 4, pos := "text.go:144", after := #[{ on := 23, ground := Ground.data }, { on := 27, ground := Ground.data }, { on := 20, ground := Ground.chain }, { on := 20, ground := Ground.guard }], guard := some (20, true) }) rfl (fun K hK => ?_) AllReadyH.nil
            go_simp
            refine (isnum_any x2 tb 2 _ _ _ (by omega) HB2.out (by simp) (p10_two HP.out HX2.out hq9 h9) (HV.out.two HX2.out hq9 h9) h9).mono ?_; rintro e z3 ⟨v2, he1, hv2, hb1, tw⟩
            have he2 : e = .returned (.bool false) := by rw [he1, HO2.out]; rfl
            clear he1
            subst he2
            clear hv2
            have HB3 : Hid (z3.heap[tb]? = some (.cells #[.int .i64 v0, .int .i64 v1, .int .i64 v2, .int .i64 f3] 29 (0, 0))) := hb1
            have HX3 : Hid (Two q tb w z3) := HX2.out.trans tw.too
            have HR3 : Hid (RdA z3 q (cutN l).2.1 (k + 1)) := rda_two HR2.out tw (fun h => hne h.symm)
            have HC3 : Hid (z3.cell? ⟨g, 0, none⟩ = some (.string ⟨x0.toArray⟩) ∧ z3.cell? ⟨g, 1, none⟩ = some (.string ⟨x1.toArray⟩) ∧ z3.cell? ⟨g, 2, none⟩ = some (.string ⟨x2.toArray⟩) ∧ z3.cell? ⟨g, 3, none⟩ = some (.string ⟨x3.toArray⟩)) := ⟨cell_two tw HC2.out.1 hgt, cell_two tw HC2.out.2.1 hgt, cell_two tw HC2.out.2.2.1 hgt, cell_two tw HC2.out.2.2.2 hgt⟩
            have hSnew := HC3.out
            clear hb1 tw
            go_wp2_with fail
            refine hK.out _ _ hSnew (fun hHeld28 => ?_)
            clear hK K hSnew
            clear hHeld
            have hHeld := hHeld28
            clear hHeld28
            try simp only [Act.put, List.setIfInBounds_toArray, List.set_cons_zero, List.set_cons_succ]
            refine wpAnyH_take (i := 29) (oi := { dst := some 41, op := Op.pick (Operand.tmp 32) (Operand.tmp 40) (Operand.const (Value.bool false)), type := 4, pos := "text.go:143", after := #[{ on := 20, ground := Ground.data }, { on := 28, ground := Ground.data }], guard := none }) (v := ?v29w2) rfl (by kernel_rfl) (by kernel_rfl) (by kernel_rfl) (fun _ _ _ h => h) (Or.inl ⟨by rfl, ?y29w2⟩) (by assumption) ?r29w2
            case y29w2 => (intro x hx; (try dsimp only at hx); go_simp; try with_reducible rfl)
            try simp only [Act.put, List.setIfInBounds_toArray, List.set_cons_zero, List.set_cons_succ]
            refine wpAnyH_take (i := 30) (oi := { dst := some 42, op := Op.move (Operand.tmp 41), type := 4, pos := "text.go:143", after := #[{ on := 29, ground := Ground.data }, { on := 28, ground := Ground.chain }], guard := none }) (v := ?v30w2) rfl (by kernel_rfl) (by kernel_rfl) (by kernel_rfl) (fun _ _ _ h => h) (Or.inl ⟨by rfl, ?y30w2⟩) (by assumption) ?r30w2
            case y30w2 => (intro x hx; (try dsimp only at hx); go_simp; try with_reducible rfl)
            try simp only [Act.put, List.setIfInBounds_toArray, List.set_cons_zero, List.set_cons_succ]
            refine wpAnyH_take (i := 31) (oi := { dst := some 43, op := Op.move (Operand.tmp 5), type := 46, pos := "text.go:143", after := #[{ on := 30, ground := Ground.guard }], guard := some (30, true) }) (v := undef) rfl (by kernel_rfl) (by kernel_rfl) (by kernel_rfl) (fun _ _ _ h => h) (Or.inr ⟨by rfl, rfl⟩) (by assumption) ?_
            try simp only [Act.put, List.setIfInBounds_toArray, List.set_cons_zero, List.set_cons_succ]
            refine wpAnyH_take (i := 32) (oi := { dst := some 44, op := Op.indexAddr 46 (Operand.tmp 43) (Operand.const (Value.int IntKind.i64 3)), type := 0, pos := "text.go:143", after := #[{ on := 31, ground := Ground.data }, { on := 30, ground := Ground.guard }], guard := some (30, true) }) (v := undef) rfl (by kernel_rfl) (by kernel_rfl) (by kernel_rfl) (fun _ _ _ h => h) (Or.inr ⟨by rfl, rfl⟩) (by assumption) ?_
            try simp only [Act.put, List.setIfInBounds_toArray, List.set_cons_zero, List.set_cons_succ]
            refine wpAnyH_take (i := 33) (oi := { dst := some 45, op := Op.load 9 (Operand.tmp 44), type := 9, pos := "text.go:143", after := #[{ on := 32, ground := Ground.data }, { on := 30, ground := Ground.guard }], guard := some (30, true) }) (v := undef) rfl (by kernel_rfl) (by kernel_rfl) (by kernel_rfl) (fun _ _ _ h => h) (Or.inr ⟨by rfl, rfl⟩) (by assumption) ?_
            try simp only [Act.put, List.setIfInBounds_toArray, List.set_cons_zero, List.set_cons_succ]
            refine wpAnyH_take (i := 34) (oi := { dst := some 46, op := Op.move (Operand.tmp 1), type := 82, pos := "text.go:143", after := #[{ on := 30, ground := Ground.guard }], guard := some (30, true) }) (v := undef) rfl (by kernel_rfl) (by kernel_rfl) (by kernel_rfl) (fun _ _ _ h => h) (Or.inr ⟨by rfl, rfl⟩) (by assumption) ?_
            try simp only [Act.put, List.setIfInBounds_toArray, List.set_cons_zero, List.set_cons_succ]
            refine wpAnyH_take (i := 35) (oi := { dst := some 47, op := Op.nilCheck (Operand.tmp 46), type := 0, pos := "text.go:143", after := #[{ on := 34, ground := Ground.data }, { on := 30, ground := Ground.guard }], guard := some (30, true) }) (v := undef) rfl (by kernel_rfl) (by kernel_rfl) (by kernel_rfl) (fun _ _ _ h => h) (Or.inr ⟨by rfl, rfl⟩) (by assumption) ?_
            try simp only [Act.put, List.setIfInBounds_toArray, List.set_cons_zero, List.set_cons_succ]
            refine wpAnyH_take (i := 36) (oi := { dst := some 48, op := Op.fieldAddr 29 (Operand.tmp 47) 2, type := 0, pos := "text.go:143", after := #[{ on := 35, ground := Ground.data }, { on := 30, ground := Ground.guard }], guard := some (30, true) }) (v := undef) rfl (by kernel_rfl) (by kernel_rfl) (by kernel_rfl) (fun _ _ _ h => h) (Or.inr ⟨by rfl, rfl⟩) (by assumption) ?_
            try simp only [Act.put, List.setIfInBounds_toArray, List.set_cons_zero, List.set_cons_succ]
            refine wpAnyH_take (i := 37) (oi := { dst := some 49, op := Op.call { callee := Callee.value (Operand.func 51), args := #[Operand.tmp 45, Operand.tmp 48], argTypes := #[9, 78] }, type := 4, pos := "text.go:144", after := #[{ on := 33, ground := Ground.data }, { on := 36, ground := Ground.data }, { on := 30, ground := Ground.chain }, { on := 30, ground := Ground.guard }], guard := some (30, true) }) (v := undef) rfl (by kernel_rfl) (by kernel_rfl) (by kernel_rfl) (fun _ _ _ h => h) (Or.inr ⟨by rfl, rfl⟩) (by assumption) ?_
            try simp only [Act.put, List.setIfInBounds_toArray, List.set_cons_zero, List.set_cons_succ]
            refine wpAnyH_take (i := 38) (oi := { dst := some 50, op := Op.pick (Operand.tmp 42) (Operand.tmp 49) (Operand.const (Value.bool false)), type := 4, pos := "text.go:143", after := #[{ on := 30, ground := Ground.data }, { on := 37, ground := Ground.data }], guard := none }) (v := ?v38w2) rfl (by kernel_rfl) (by kernel_rfl) (by kernel_rfl) (fun _ _ _ h => h) (Or.inl ⟨by rfl, ?y38w2⟩) (by assumption) ?r38w2
            case y38w2 => (intro x hx; (try dsimp only at hx); go_simp; try with_reducible rfl)
            try simp only [Act.put, List.setIfInBounds_toArray, List.set_cons_zero, List.set_cons_succ]
            refine wpAnyH_take (i := 39) (oi := { dst := some 4, op := Op.assign (Operand.tmp 50), type := 4, pos := "text.go:143", after := #[{ on := 38, ground := Ground.data }, { on := 37, ground := Ground.chain }, { on := 0, ground := Ground.phase }, { on := 1, ground := Ground.phase }, { on := 2, ground := Ground.phase }, { on := 3, ground := Ground.phase }, { on := 4, ground := Ground.phase }, { on := 5, ground := Ground.phase }, { on := 6, ground := Ground.phase }, { on := 7, ground := Ground.phase }, { on := 8, ground := Ground.phase }, { on := 9, ground := Ground.phase }, { on := 10, ground := Ground.phase }, { on := 11, ground := Ground.phase }, { on := 12, ground := Ground.phase }, { on := 13, ground := Ground.phase }, { on := 14, ground := Ground.phase }, { on := 15, ground := Ground.phase }, { on := 16, ground := Ground.phase }, { on := 17, ground := Ground.phase }, { on := 18, ground := Ground.phase }, { on := 19, ground := Ground.phase }, { on := 20, ground := Ground.phase }, { on := 21, ground := Ground.phase }, { on := 22, ground := Ground.phase }, { on := 23, ground := Ground.phase }, { on := 24, ground := Ground.phase }, { on := 25, ground := Ground.phase }, { on := 26, ground := Ground.phase }, { on := 27, ground := Ground.phase }, { on := 28, ground := Ground.phase }, { on := 29, ground := Ground.phase }, { on := 30, ground := Ground.phase }, { on := 31, ground := Ground.phase }, { on := 32, ground := Ground.phase }, { on := 33, ground := Ground.phase }, { on := 34, ground := Ground.phase }, { on := 35, ground := Ground.phase }, { on := 36, ground := Ground.phase }, { on := 37, ground := Ground.phase }, { on := 38, ground := Ground.phase }], guard := none }) (v := ?v39w2) rfl (by kernel_rfl) (by kernel_rfl) (by kernel_rfl) (fun _ _ _ h => h) (Or.inl ⟨by rfl, ?y39w2⟩) (by assumption) ?r39w2
            case y39w2 => (intro x hx; (try dsimp only at hx); go_simp; try with_reducible rfl)
            try simp only [Act.put, List.setIfInBounds_toArray, List.set_cons_zero, List.set_cons_succ]
            refine wpAnyH_done (by kernel_rfl) ?_ _
            go_wp2_with fail
            go_ret
            exact ⟨⟨v0, v1, v2, f3⟩, by rw [HF.out]; rfl, fun f hf => (by rw [HF.out] at hf; cases hf), HB3.out, HR3.out, HX3.out⟩
          | some y2 =>
            have HO2 : Hid (numOf x2 = some y2) := h2
            clear h2
            cases h3 : numOf x3 with
            | none =>
              have HO3 : Hid (numOf x3 = none) := h3
              clear h3
              have HF : Hid (fdOf l = none) := by unfold Hid; rw [HN.out]; unfold fd4; rw [HO0.out, HO1.out, HO2.out, HO3.out]; rfl
              go_enter Tryd.func40, Tryd.ntmps40
              go_upto_region 2 with (first
                | (go_at_call 52; refine HTH.mono ?_; rintro e t1 ⟨g, he1, hg, hc, hr, tw, hg2⟩
                   have he2 : e = .returned (.tuple #[.slice (some ⟨g, 0, none⟩) 4 4, .bool true]) := he1
                   clear he1
                   subst he2
                   have HC0 : Hid (t1.drew.cell? ⟨g, 0, none⟩ = some (.string ⟨x0.toArray⟩) ∧ t1.drew.cell? ⟨g, 1, none⟩ = some (.string ⟨x1.toArray⟩) ∧ t1.drew.cell? ⟨g, 2, none⟩ = some (.string ⟨x2.toArray⟩) ∧ t1.drew.cell? ⟨g, 3, none⟩ = some (.string ⟨x3.toArray⟩)) := ⟨hc 0 (by simp), hc 1 (by simp), hc 2 (by simp), hc 3 (by simp)⟩
                   have HR0 : Hid (RdA t1.drew q (cutN l).2.1 (k + 1)) := hr
                   have HW0 : Hid (Two q q w t1.drew) := tw.drew
                   have HB0 : Hid (t1.drew.heap[tb]? = some (.cells #[.int .i64 f0, .int .i64 f1, .int .i64 f2, .int .i64 f3] 29 (0, 0))) := blk_two HB.out tw.drew hne
                   have hgt : g ≠ tb := by omega
                   have HX0 : Hid (Two q tb w t1.drew) := tw.drew.one
                   clear hc hr tw hg2 hg))
              refine wp_region_held_drew (S := (fun y : World => y.cell? ⟨g, 0, none⟩ = some (.string ⟨x0.toArray⟩) ∧ y.cell? ⟨g, 1, none⟩ = some (.string ⟨x1.toArray⟩) ∧ y.cell? ⟨g, 2, none⟩ = some (.string ⟨x2.toArray⟩) ∧ y.cell? ⟨g, 3, none⟩ = some (.string ⟨x3.toArray⟩))) (by kernel_rfl) (HC0.out) (fun hHeld => ?_)
              refine wpAnyH_take (i := 0) (oi := { dst := some 12, op := Op.move (Operand.tmp 6), type := 4, pos := "text.go:143", after := #[], guard := none }) (v := ?v0w3) rfl (by kernel_rfl) (by kernel_rfl) (by kernel_rfl) (fun _ _ _ h => h) (Or.inl ⟨by rfl, ?y0w3⟩) (by assumption) ?r0w3
              case y0w3 => (intro x hx; (try dsimp only at hx); go_simp; try with_reducible rfl)
              try simp only [Act.put, List.setIfInBounds_toArray, List.set_cons_zero, List.set_cons_succ]
              refine wpAnyH_take (i := 1) (oi := { dst := some 13, op := Op.move (Operand.tmp 12), type := 4, pos := "text.go:143", after := #[{ on := 0, ground := Ground.data }], guard := none }) (v := ?v1w3) rfl (by kernel_rfl) (by kernel_rfl) (by kernel_rfl) (fun _ _ _ h => h) (Or.inl ⟨by rfl, ?y1w3⟩) (by assumption) ?r1w3
              case y1w3 => (intro x hx; (try dsimp only at hx); go_simp; try with_reducible rfl)
              try simp only [Act.put, List.setIfInBounds_toArray, List.set_cons_zero, List.set_cons_succ]
              refine wpAnyH_take (i := 2) (oi := { dst := some 14, op := Op.move (Operand.tmp 5), type := 46, pos := "text.go:143", after := #[{ on := 1, ground := Ground.guard }], guard := some (1, true) }) (v := ?v2w3) rfl (by kernel_rfl) (by kernel_rfl) (by kernel_rfl) (fun _ _ _ h => h) (Or.inl ⟨by rfl, ?y2w3⟩) (by assumption) ?r2w3
              case y2w3 => (intro x hx; (try dsimp only at hx); go_simp; try with_reducible rfl)
              try simp only [Act.put, List.setIfInBounds_toArray, List.set_cons_zero, List.set_cons_succ]
              refine wpAnyH_take (i := 3) (oi := { dst := some 15, op := Op.indexAddr 46 (Operand.tmp 14) (Operand.const (Value.int IntKind.i64 0)), type := 0, pos := "text.go:143", after := #[{ on := 2, ground := Ground.data }, { on := 1, ground := Ground.guard }], guard := some (1, true) }) (v := ?v3w3) rfl (by kernel_rfl) (by kernel_rfl) (by kernel_rfl) (fun _ _ _ h => h) (Or.inl ⟨by rfl, ?y3w3⟩) (by assumption) ?r3w3
              case y3w3 => (intro x hx; (try dsimp only at hx); go_simp; try with_reducible rfl)
              try simp only [Act.put, List.setIfInBounds_toArray, List.set_cons_zero, List.set_cons_succ]
              refine wpAnyH_take (i := 4) (oi := { dst := some 16, op := Op.load 9 (Operand.tmp 15), type := 9, pos := "text.go:143", after := #[{ on := 3, ground := Ground.data }, { on := 1, ground := Ground.guard }], guard := some (1, true) }) (v := ?v4w3) rfl (by kernel_rfl) (by kernel_rfl) (by kernel_rfl) (fun _ _ _ h => h) (Or.inl ⟨by rfl, ?y4w3⟩) (by assumption) ?r4w3
              case y4w3 => (intro x hx; (try dsimp only at hx); go_simp; try with_reducible rfl)
              try simp only [Act.put, List.setIfInBounds_toArray, List.set_cons_zero, List.set_cons_succ]
              refine wpAnyH_take (i := 5) (oi := { dst := some 17, op := Op.move (Operand.tmp 1), type := 82, pos := "text.go:143", after := #[{ on := 1, ground := Ground.guard }], guard := some (1, true) }) (v := ?v5w3) rfl (by kernel_rfl) (by kernel_rfl) (by kernel_rfl) (fun _ _ _ h => h) (Or.inl ⟨by rfl, ?y5w3⟩) (by assumption) ?r5w3
              case y5w3 => (intro x hx; (try dsimp only at hx); go_simp; try with_reducible rfl)
              try simp only [Act.put, List.setIfInBounds_toArray, List.set_cons_zero, List.set_cons_succ]
              refine wpAnyH_take (i := 6) (oi := { dst := some 18, op := Op.nilCheck (Operand.tmp 17), type := 0, pos := "text.go:143", after := #[{ on := 5, ground := Ground.data }, { on := 1, ground := Ground.guard }], guard := some (1, true) }) (v := ?v6w3) rfl (by kernel_rfl) (by kernel_rfl) (by kernel_rfl) (fun _ _ _ h => h) (Or.inl ⟨by rfl, ?y6w3⟩) (by assumption) ?r6w3
              case y6w3 => (intro x hx; (try dsimp only at hx); go_simp; try with_reducible rfl)
              try simp only [Act.put, List.setIfInBounds_toArray, List.set_cons_zero, List.set_cons_succ]
              refine wpAnyH_take (i := 7) (oi := { dst := some 19, op := Op.fieldAddr 29 (Operand.tmp 18) 0, type := 0, pos := "text.go:143", after := #[{ on := 6, ground := Ground.data }, { on := 1, ground := Ground.guard }], guard := some (1, true) }) (v := ?v7w3) rfl (by kernel_rfl) (by kernel_rfl) (by kernel_rfl) (fun _ _ _ h => h) (Or.inl ⟨by rfl, ?y7w3⟩) (by assumption) ?r7w3
              case y7w3 => (intro x hx; (try dsimp only at hx); go_simp; try with_reducible rfl)
              try simp only [Act.put, List.setIfInBounds_toArray, List.set_cons_zero, List.set_cons_succ]
              refine wpAnyH_ready (rs := [8]) (by kernel_rfl) (by simp) ?_
              refine AllReadyH.cons (o := { dst := some 20, op := Op.call { callee := Callee.value (Operand.func 53), args := #[Operand.tmp 16, Operand.tmp 19], argTypes := #[9, 78] }, type := 4, pos := "text.go:143", after := #[{ on := 4, ground := Ground.data }, { on := 7, ground := Ground.data }, { on := 1, ground := Ground.chain }, { on := 1, ground := Ground.guard }], guard := some (1, true) }) rfl (fun K hK => ?_) AllReadyH.nil
              go_simp
              refine (iskind_any x0 tb 0 _ _ _ (by omega) HB0.out (by simp) (p10_two HP.out HX0.out hq9 h9) (HV.out.two HX0.out hq9 h9) (HK.out.two HX0.out hq9 h9) h9).mono ?_; rintro e z1 ⟨v0, he1, hv0, hb1, tw⟩
              have he2 : e = .returned (.bool true) := by rw [he1, HO0.out]; rfl
              clear he1
              subst he2
              obtain rfl : v0 = y0 := hv0 _ HO0.out
              have HB1 : Hid (z1.heap[tb]? = some (.cells #[.int .i64 v0, .int .i64 f1, .int .i64 f2, .int .i64 f3] 29 (0, 0))) := hb1
              have HX1 : Hid (Two q tb w z1) := HX0.out.trans tw.too
              have HR1 : Hid (RdA z1 q (cutN l).2.1 (k + 1)) := rda_two HR0.out tw (fun h => hne h.symm)
              have HC1 : Hid (z1.cell? ⟨g, 0, none⟩ = some (.string ⟨x0.toArray⟩) ∧ z1.cell? ⟨g, 1, none⟩ = some (.string ⟨x1.toArray⟩) ∧ z1.cell? ⟨g, 2, none⟩ = some (.string ⟨x2.toArray⟩) ∧ z1.cell? ⟨g, 3, none⟩ = some (.string ⟨x3.toArray⟩)) := ⟨cell_two tw HC0.out.1 hgt, cell_two tw HC0.out.2.1 hgt, cell_two tw HC0.out.2.2.1 hgt, cell_two tw HC0.out.2.2.2 hgt⟩
              have hSnew := HC1.out
              clear hb1 tw
              go_wp2_with fail
              refine hK.out _ _ hSnew (fun hHeld8 => ?_)
              clear hK K hSnew
              clear hHeld
              have hHeld := hHeld8
              clear hHeld8
              try simp only [Act.put, List.setIfInBounds_toArray, List.set_cons_zero, List.set_cons_succ]
              refine wpAnyH_take (i := 9) (oi := { dst := some 21, op := Op.pick (Operand.tmp 13) (Operand.tmp 20) (Operand.const (Value.bool false)), type := 4, pos := "text.go:143", after := #[{ on := 1, ground := Ground.data }, { on := 8, ground := Ground.data }], guard := none }) (v := ?v9w3) rfl (by kernel_rfl) (by kernel_rfl) (by kernel_rfl) (fun _ _ _ h => h) (Or.inl ⟨by rfl, ?y9w3⟩) (by assumption) ?r9w3
              case y9w3 => (intro x hx; (try dsimp only at hx); go_simp; try with_reducible rfl)
              try simp only [Act.put, List.setIfInBounds_toArray, List.set_cons_zero, List.set_cons_succ]
              refine wpAnyH_take (i := 10) (oi := { dst := some 22, op := Op.move (Operand.tmp 21), type := 4, pos := "text.go:143", after := #[{ on := 9, ground := Ground.data }, { on := 8, ground := Ground.chain }], guard := none }) (v := ?v10w3) rfl (by kernel_rfl) (by kernel_rfl) (by kernel_rfl) (fun _ _ _ h => h) (Or.inl ⟨by rfl, ?y10w3⟩) (by assumption) ?r10w3
              case y10w3 => (intro x hx; (try dsimp only at hx); go_simp; try with_reducible rfl)
              try simp only [Act.put, List.setIfInBounds_toArray, List.set_cons_zero, List.set_cons_succ]
              refine wpAnyH_take (i := 11) (oi := { dst := some 23, op := Op.move (Operand.tmp 5), type := 46, pos := "text.go:143", after := #[{ on := 10, ground := Ground.guard }], guard := some (10, true) }) (v := ?v11w3) rfl (by kernel_rfl) (by kernel_rfl) (by kernel_rfl) (fun _ _ _ h => h) (Or.inl ⟨by rfl, ?y11w3⟩) (by assumption) ?r11w3
              case y11w3 => (intro x hx; (try dsimp only at hx); go_simp; try with_reducible rfl)
              try simp only [Act.put, List.setIfInBounds_toArray, List.set_cons_zero, List.set_cons_succ]
              refine wpAnyH_take (i := 12) (oi := { dst := some 24, op := Op.indexAddr 46 (Operand.tmp 23) (Operand.const (Value.int IntKind.i64 1)), type := 0, pos := "text.go:143", after := #[{ on := 11, ground := Ground.data }, { on := 10, ground := Ground.guard }], guard := some (10, true) }) (v := ?v12w3) rfl (by kernel_rfl) (by kernel_rfl) (by kernel_rfl) (fun _ _ _ h => h) (Or.inl ⟨by rfl, ?y12w3⟩) (by assumption) ?r12w3
              case y12w3 => (intro x hx; (try dsimp only at hx); go_simp; try with_reducible rfl)
              try simp only [Act.put, List.setIfInBounds_toArray, List.set_cons_zero, List.set_cons_succ]
              refine wpAnyH_take (i := 13) (oi := { dst := some 25, op := Op.load 9 (Operand.tmp 24), type := 9, pos := "text.go:143", after := #[{ on := 12, ground := Ground.data }, { on := 10, ground := Ground.guard }], guard := some (10, true) }) (v := ?v13w3) rfl (by kernel_rfl) (by kernel_rfl) (by kernel_rfl) (fun _ _ _ h => h) (Or.inl ⟨by rfl, ?y13w3⟩) (by assumption) ?r13w3
              case y13w3 => (intro x hx; (try dsimp only at hx); go_simp; try with_reducible rfl)
              try simp only [Act.put, List.setIfInBounds_toArray, List.set_cons_zero, List.set_cons_succ]
              refine wpAnyH_take (i := 14) (oi := { dst := some 26, op := Op.move (Operand.tmp 1), type := 82, pos := "text.go:143", after := #[{ on := 10, ground := Ground.guard }], guard := some (10, true) }) (v := ?v14w3) rfl (by kernel_rfl) (by kernel_rfl) (by kernel_rfl) (fun _ _ _ h => h) (Or.inl ⟨by rfl, ?y14w3⟩) (by assumption) ?r14w3
              case y14w3 => (intro x hx; (try dsimp only at hx); go_simp; try with_reducible rfl)
              try simp only [Act.put, List.setIfInBounds_toArray, List.set_cons_zero, List.set_cons_succ]
              refine wpAnyH_take (i := 15) (oi := { dst := some 27, op := Op.nilCheck (Operand.tmp 26), type := 0, pos := "text.go:143", after := #[{ on := 14, ground := Ground.data }, { on := 10, ground := Ground.guard }], guard := some (10, true) }) (v := ?v15w3) rfl (by kernel_rfl) (by kernel_rfl) (by kernel_rfl) (fun _ _ _ h => h) (Or.inl ⟨by rfl, ?y15w3⟩) (by assumption) ?r15w3
              case y15w3 => (intro x hx; (try dsimp only at hx); go_simp; try with_reducible rfl)
              try simp only [Act.put, List.setIfInBounds_toArray, List.set_cons_zero, List.set_cons_succ]
              refine wpAnyH_take (i := 16) (oi := { dst := some 28, op := Op.fieldAddr 29 (Operand.tmp 27) 1, type := 0, pos := "text.go:143", after := #[{ on := 15, ground := Ground.data }, { on := 10, ground := Ground.guard }], guard := some (10, true) }) (v := ?v16w3) rfl (by kernel_rfl) (by kernel_rfl) (by kernel_rfl) (fun _ _ _ h => h) (Or.inl ⟨by rfl, ?y16w3⟩) (by assumption) ?r16w3
              case y16w3 => (intro x hx; (try dsimp only at hx); go_simp; try with_reducible rfl)
              try simp only [Act.put, List.setIfInBounds_toArray, List.set_cons_zero, List.set_cons_succ]
              refine wpAnyH_take (i := 17) (oi := { dst := some 29, op := Op.fieldAddr 27 (Operand.tmp 28) 0, type := 0, pos := "text.go:143", after := #[{ on := 16, ground := Ground.data }, { on := 10, ground := Ground.guard }], guard := some (10, true) }) (v := ?v17w3) rfl (by kernel_rfl) (by kernel_rfl) (by kernel_rfl) (fun _ _ _ h => h) (Or.inl ⟨by rfl, ?y17w3⟩) (by assumption) ?r17w3
              case y17w3 => (intro x hx; (try dsimp only at hx); go_simp; try with_reducible rfl)
              try simp only [Act.put, List.setIfInBounds_toArray, List.set_cons_zero, List.set_cons_succ]
              refine wpAnyH_ready (rs := [18]) (by kernel_rfl) (by simp) ?_
              refine AllReadyH.cons (o := { dst := some 30, op := Op.call { callee := Callee.value (Operand.func 51), args := #[Operand.tmp 25, Operand.tmp 29], argTypes := #[9, 78] }, type := 4, pos := "text.go:143", after := #[{ on := 13, ground := Ground.data }, { on := 17, ground := Ground.data }, { on := 10, ground := Ground.chain }, { on := 10, ground := Ground.guard }], guard := some (10, true) }) rfl (fun K hK => ?_) AllReadyH.nil
              go_simp
              refine (isnum_any x1 tb 1 _ _ _ (by omega) HB1.out (by simp) (p10_two HP.out HX1.out hq9 h9) (HV.out.two HX1.out hq9 h9) h9).mono ?_; rintro e z2 ⟨v1, he1, hv1, hb1, tw⟩
              have he2 : e = .returned (.bool true) := by rw [he1, HO1.out]; rfl
              clear he1
              subst he2
              obtain rfl : v1 = y1 := hv1 _ HO1.out
              have HB2 : Hid (z2.heap[tb]? = some (.cells #[.int .i64 v0, .int .i64 v1, .int .i64 f2, .int .i64 f3] 29 (0, 0))) := hb1
              have HX2 : Hid (Two q tb w z2) := HX1.out.trans tw.too
              have HR2 : Hid (RdA z2 q (cutN l).2.1 (k + 1)) := rda_two HR1.out tw (fun h => hne h.symm)
              have HC2 : Hid (z2.cell? ⟨g, 0, none⟩ = some (.string ⟨x0.toArray⟩) ∧ z2.cell? ⟨g, 1, none⟩ = some (.string ⟨x1.toArray⟩) ∧ z2.cell? ⟨g, 2, none⟩ = some (.string ⟨x2.toArray⟩) ∧ z2.cell? ⟨g, 3, none⟩ = some (.string ⟨x3.toArray⟩)) := ⟨cell_two tw HC1.out.1 hgt, cell_two tw HC1.out.2.1 hgt, cell_two tw HC1.out.2.2.1 hgt, cell_two tw HC1.out.2.2.2 hgt⟩
              have hSnew := HC2.out
              clear hb1 tw
              go_wp2_with fail
              refine hK.out _ _ hSnew (fun hHeld18 => ?_)
              clear hK K hSnew
              clear hHeld
              have hHeld := hHeld18
              clear hHeld18
              try simp only [Act.put, List.setIfInBounds_toArray, List.set_cons_zero, List.set_cons_succ]
              refine wpAnyH_take (i := 19) (oi := { dst := some 31, op := Op.pick (Operand.tmp 22) (Operand.tmp 30) (Operand.const (Value.bool false)), type := 4, pos := "text.go:143", after := #[{ on := 10, ground := Ground.data }, { on := 18, ground := Ground.data }], guard := none }) (v := ?v19w3) rfl (by kernel_rfl) (by kernel_rfl) (by kernel_rfl) (fun _ _ _ h => h) (Or.inl ⟨by rfl, ?y19w3⟩) (by assumption) ?r19w3
              case y19w3 => (intro x hx; (try dsimp only at hx); go_simp; try with_reducible rfl)
              try simp only [Act.put, List.setIfInBounds_toArray, List.set_cons_zero, List.set_cons_succ]
              refine wpAnyH_take (i := 20) (oi := { dst := some 32, op := Op.move (Operand.tmp 31), type := 4, pos := "text.go:143", after := #[{ on := 19, ground := Ground.data }, { on := 18, ground := Ground.chain }], guard := none }) (v := ?v20w3) rfl (by kernel_rfl) (by kernel_rfl) (by kernel_rfl) (fun _ _ _ h => h) (Or.inl ⟨by rfl, ?y20w3⟩) (by assumption) ?r20w3
              case y20w3 => (intro x hx; (try dsimp only at hx); go_simp; try with_reducible rfl)
              try simp only [Act.put, List.setIfInBounds_toArray, List.set_cons_zero, List.set_cons_succ]
              refine wpAnyH_take (i := 21) (oi := { dst := some 33, op := Op.move (Operand.tmp 5), type := 46, pos := "text.go:143", after := #[{ on := 20, ground := Ground.guard }], guard := some (20, true) }) (v := ?v21w3) rfl (by kernel_rfl) (by kernel_rfl) (by kernel_rfl) (fun _ _ _ h => h) (Or.inl ⟨by rfl, ?y21w3⟩) (by assumption) ?r21w3
              case y21w3 => (intro x hx; (try dsimp only at hx); go_simp; try with_reducible rfl)
              try simp only [Act.put, List.setIfInBounds_toArray, List.set_cons_zero, List.set_cons_succ]
              refine wpAnyH_take (i := 22) (oi := { dst := some 34, op := Op.indexAddr 46 (Operand.tmp 33) (Operand.const (Value.int IntKind.i64 2)), type := 0, pos := "text.go:143", after := #[{ on := 21, ground := Ground.data }, { on := 20, ground := Ground.guard }], guard := some (20, true) }) (v := ?v22w3) rfl (by kernel_rfl) (by kernel_rfl) (by kernel_rfl) (fun _ _ _ h => h) (Or.inl ⟨by rfl, ?y22w3⟩) (by assumption) ?r22w3
              case y22w3 => (intro x hx; (try dsimp only at hx); go_simp; try with_reducible rfl)
              try simp only [Act.put, List.setIfInBounds_toArray, List.set_cons_zero, List.set_cons_succ]
              refine wpAnyH_take (i := 23) (oi := { dst := some 35, op := Op.load 9 (Operand.tmp 34), type := 9, pos := "text.go:143", after := #[{ on := 22, ground := Ground.data }, { on := 20, ground := Ground.guard }], guard := some (20, true) }) (v := ?v23w3) rfl (by kernel_rfl) (by kernel_rfl) (by kernel_rfl) (fun _ _ _ h => h) (Or.inl ⟨by rfl, ?y23w3⟩) (by assumption) ?r23w3
              case y23w3 => (intro x hx; (try dsimp only at hx); go_simp; try with_reducible rfl)
              try simp only [Act.put, List.setIfInBounds_toArray, List.set_cons_zero, List.set_cons_succ]
              refine wpAnyH_take (i := 24) (oi := { dst := some 36, op := Op.move (Operand.tmp 1), type := 82, pos := "text.go:143", after := #[{ on := 20, ground := Ground.guard }], guard := some (20, true) }) (v := ?v24w3) rfl (by kernel_rfl) (by kernel_rfl) (by kernel_rfl) (fun _ _ _ h => h) (Or.inl ⟨by rfl, ?y24w3⟩) (by assumption) ?r24w3
              case y24w3 => (intro x hx; (try dsimp only at hx); go_simp; try with_reducible rfl)
              try simp only [Act.put, List.setIfInBounds_toArray, List.set_cons_zero, List.set_cons_succ]
              refine wpAnyH_take (i := 25) (oi := { dst := some 37, op := Op.nilCheck (Operand.tmp 36), type := 0, pos := "text.go:143", after := #[{ on := 24, ground := Ground.data }, { on := 20, ground := Ground.guard }], guard := some (20, true) }) (v := ?v25w3) rfl (by kernel_rfl) (by kernel_rfl) (by kernel_rfl) (fun _ _ _ h => h) (Or.inl ⟨by rfl, ?y25w3⟩) (by assumption) ?r25w3
              case y25w3 => (intro x hx; (try dsimp only at hx); go_simp; try with_reducible rfl)
              try simp only [Act.put, List.setIfInBounds_toArray, List.set_cons_zero, List.set_cons_succ]
              refine wpAnyH_take (i := 26) (oi := { dst := some 38, op := Op.fieldAddr 29 (Operand.tmp 37) 1, type := 0, pos := "text.go:143", after := #[{ on := 25, ground := Ground.data }, { on := 20, ground := Ground.guard }], guard := some (20, true) }) (v := ?v26w3) rfl (by kernel_rfl) (by kernel_rfl) (by kernel_rfl) (fun _ _ _ h => h) (Or.inl ⟨by rfl, ?y26w3⟩) (by assumption) ?r26w3
              case y26w3 => (intro x hx; (try dsimp only at hx); go_simp; try with_reducible rfl)
              try simp only [Act.put, List.setIfInBounds_toArray, List.set_cons_zero, List.set_cons_succ]
              refine wpAnyH_take (i := 27) (oi := { dst := some 39, op := Op.fieldAddr 27 (Operand.tmp 38) 1, type := 0, pos := "text.go:143", after := #[{ on := 26, ground := Ground.data }, { on := 20, ground := Ground.guard }], guard := some (20, true) }) (v := ?v27w3) rfl (by kernel_rfl) (by kernel_rfl) (by kernel_rfl) (fun _ _ _ h => h) (Or.inl ⟨by rfl, ?y27w3⟩) (by assumption) ?r27w3
              case y27w3 => (intro x hx; (try dsimp only at hx); go_simp; try with_reducible rfl)
              try simp only [Act.put, List.setIfInBounds_toArray, List.set_cons_zero, List.set_cons_succ]
              refine wpAnyH_ready (rs := [28]) (by kernel_rfl) (by simp) ?_
              refine AllReadyH.cons (o := { dst := some 40, op := Op.call { callee := Callee.value (Operand.func 51), args := #[Operand.tmp 35, Operand.tmp 39], argTypes := #[9, 78] }, type := 4, pos := "text.go:144", after := #[{ on := 23, ground := Ground.data }, { on := 27, ground := Ground.data }, { on := 20, ground := Ground.chain }, { on := 20, ground := Ground.guard }], guard := some (20, true) }) rfl (fun K hK => ?_) AllReadyH.nil
              go_simp
              refine (isnum_any x2 tb 2 _ _ _ (by omega) HB2.out (by simp) (p10_two HP.out HX2.out hq9 h9) (HV.out.two HX2.out hq9 h9) h9).mono ?_; rintro e z3 ⟨v2, he1, hv2, hb1, tw⟩
              have he2 : e = .returned (.bool true) := by rw [he1, HO2.out]; rfl
              clear he1
              subst he2
              obtain rfl : v2 = y2 := hv2 _ HO2.out
              have HB3 : Hid (z3.heap[tb]? = some (.cells #[.int .i64 v0, .int .i64 v1, .int .i64 v2, .int .i64 f3] 29 (0, 0))) := hb1
              have HX3 : Hid (Two q tb w z3) := HX2.out.trans tw.too
              have HR3 : Hid (RdA z3 q (cutN l).2.1 (k + 1)) := rda_two HR2.out tw (fun h => hne h.symm)
              have HC3 : Hid (z3.cell? ⟨g, 0, none⟩ = some (.string ⟨x0.toArray⟩) ∧ z3.cell? ⟨g, 1, none⟩ = some (.string ⟨x1.toArray⟩) ∧ z3.cell? ⟨g, 2, none⟩ = some (.string ⟨x2.toArray⟩) ∧ z3.cell? ⟨g, 3, none⟩ = some (.string ⟨x3.toArray⟩)) := ⟨cell_two tw HC2.out.1 hgt, cell_two tw HC2.out.2.1 hgt, cell_two tw HC2.out.2.2.1 hgt, cell_two tw HC2.out.2.2.2 hgt⟩
              have hSnew := HC3.out
              clear hb1 tw
              go_wp2_with fail
              refine hK.out _ _ hSnew (fun hHeld28 => ?_)
              clear hK K hSnew
              clear hHeld
              have hHeld := hHeld28
              clear hHeld28
              try simp only [Act.put, List.setIfInBounds_toArray, List.set_cons_zero, List.set_cons_succ]
              refine wpAnyH_take (i := 29) (oi := { dst := some 41, op := Op.pick (Operand.tmp 32) (Operand.tmp 40) (Operand.const (Value.bool false)), type := 4, pos := "text.go:143", after := #[{ on := 20, ground := Ground.data }, { on := 28, ground := Ground.data }], guard := none }) (v := ?v29w3) rfl (by kernel_rfl) (by kernel_rfl) (by kernel_rfl) (fun _ _ _ h => h) (Or.inl ⟨by rfl, ?y29w3⟩) (by assumption) ?r29w3
              case y29w3 => (intro x hx; (try dsimp only at hx); go_simp; try with_reducible rfl)
              try simp only [Act.put, List.setIfInBounds_toArray, List.set_cons_zero, List.set_cons_succ]
              refine wpAnyH_take (i := 30) (oi := { dst := some 42, op := Op.move (Operand.tmp 41), type := 4, pos := "text.go:143", after := #[{ on := 29, ground := Ground.data }, { on := 28, ground := Ground.chain }], guard := none }) (v := ?v30w3) rfl (by kernel_rfl) (by kernel_rfl) (by kernel_rfl) (fun _ _ _ h => h) (Or.inl ⟨by rfl, ?y30w3⟩) (by assumption) ?r30w3
              case y30w3 => (intro x hx; (try dsimp only at hx); go_simp; try with_reducible rfl)
              try simp only [Act.put, List.setIfInBounds_toArray, List.set_cons_zero, List.set_cons_succ]
              refine wpAnyH_take (i := 31) (oi := { dst := some 43, op := Op.move (Operand.tmp 5), type := 46, pos := "text.go:143", after := #[{ on := 30, ground := Ground.guard }], guard := some (30, true) }) (v := ?v31w3) rfl (by kernel_rfl) (by kernel_rfl) (by kernel_rfl) (fun _ _ _ h => h) (Or.inl ⟨by rfl, ?y31w3⟩) (by assumption) ?r31w3
              case y31w3 => (intro x hx; (try dsimp only at hx); go_simp; try with_reducible rfl)
              try simp only [Act.put, List.setIfInBounds_toArray, List.set_cons_zero, List.set_cons_succ]
              refine wpAnyH_take (i := 32) (oi := { dst := some 44, op := Op.indexAddr 46 (Operand.tmp 43) (Operand.const (Value.int IntKind.i64 3)), type := 0, pos := "text.go:143", after := #[{ on := 31, ground := Ground.data }, { on := 30, ground := Ground.guard }], guard := some (30, true) }) (v := ?v32w3) rfl (by kernel_rfl) (by kernel_rfl) (by kernel_rfl) (fun _ _ _ h => h) (Or.inl ⟨by rfl, ?y32w3⟩) (by assumption) ?r32w3
              case y32w3 => (intro x hx; (try dsimp only at hx); go_simp; try with_reducible rfl)
              try simp only [Act.put, List.setIfInBounds_toArray, List.set_cons_zero, List.set_cons_succ]
              refine wpAnyH_take (i := 33) (oi := { dst := some 45, op := Op.load 9 (Operand.tmp 44), type := 9, pos := "text.go:143", after := #[{ on := 32, ground := Ground.data }, { on := 30, ground := Ground.guard }], guard := some (30, true) }) (v := ?v33w3) rfl (by kernel_rfl) (by kernel_rfl) (by kernel_rfl) (fun _ _ _ h => h) (Or.inl ⟨by rfl, ?y33w3⟩) (by assumption) ?r33w3
              case y33w3 => (intro x hx; (try dsimp only at hx); go_simp; try with_reducible rfl)
              try simp only [Act.put, List.setIfInBounds_toArray, List.set_cons_zero, List.set_cons_succ]
              refine wpAnyH_take (i := 34) (oi := { dst := some 46, op := Op.move (Operand.tmp 1), type := 82, pos := "text.go:143", after := #[{ on := 30, ground := Ground.guard }], guard := some (30, true) }) (v := ?v34w3) rfl (by kernel_rfl) (by kernel_rfl) (by kernel_rfl) (fun _ _ _ h => h) (Or.inl ⟨by rfl, ?y34w3⟩) (by assumption) ?r34w3
              case y34w3 => (intro x hx; (try dsimp only at hx); go_simp; try with_reducible rfl)
              try simp only [Act.put, List.setIfInBounds_toArray, List.set_cons_zero, List.set_cons_succ]
              refine wpAnyH_take (i := 35) (oi := { dst := some 47, op := Op.nilCheck (Operand.tmp 46), type := 0, pos := "text.go:143", after := #[{ on := 34, ground := Ground.data }, { on := 30, ground := Ground.guard }], guard := some (30, true) }) (v := ?v35w3) rfl (by kernel_rfl) (by kernel_rfl) (by kernel_rfl) (fun _ _ _ h => h) (Or.inl ⟨by rfl, ?y35w3⟩) (by assumption) ?r35w3
              case y35w3 => (intro x hx; (try dsimp only at hx); go_simp; try with_reducible rfl)
              try simp only [Act.put, List.setIfInBounds_toArray, List.set_cons_zero, List.set_cons_succ]
              refine wpAnyH_take (i := 36) (oi := { dst := some 48, op := Op.fieldAddr 29 (Operand.tmp 47) 2, type := 0, pos := "text.go:143", after := #[{ on := 35, ground := Ground.data }, { on := 30, ground := Ground.guard }], guard := some (30, true) }) (v := ?v36w3) rfl (by kernel_rfl) (by kernel_rfl) (by kernel_rfl) (fun _ _ _ h => h) (Or.inl ⟨by rfl, ?y36w3⟩) (by assumption) ?r36w3
              case y36w3 => (intro x hx; (try dsimp only at hx); go_simp; try with_reducible rfl)
              try simp only [Act.put, List.setIfInBounds_toArray, List.set_cons_zero, List.set_cons_succ]
              refine wpAnyH_ready (rs := [37]) (by kernel_rfl) (by simp) ?_
              refine AllReadyH.cons (o := { dst := some 49, op := Op.call { callee := Callee.value (Operand.func 51), args := #[Operand.tmp 45, Operand.tmp 48], argTypes := #[9, 78] }, type := 4, pos := "text.go:144", after := #[{ on := 33, ground := Ground.data }, { on := 36, ground := Ground.data }, { on := 30, ground := Ground.chain }, { on := 30, ground := Ground.guard }], guard := some (30, true) }) rfl (fun K hK => ?_) AllReadyH.nil
              go_simp
              refine (isnum_any x3 tb 3 _ _ _ (by omega) HB3.out (by simp) (p10_two HP.out HX3.out hq9 h9) (HV.out.two HX3.out hq9 h9) h9).mono ?_; rintro e z4 ⟨v3, he1, hv3, hb1, tw⟩
              have he2 : e = .returned (.bool false) := by rw [he1, HO3.out]; rfl
              clear he1
              subst he2
              clear hv3
              have HB4 : Hid (z4.heap[tb]? = some (.cells #[.int .i64 v0, .int .i64 v1, .int .i64 v2, .int .i64 v3] 29 (0, 0))) := hb1
              have HX4 : Hid (Two q tb w z4) := HX3.out.trans tw.too
              have HR4 : Hid (RdA z4 q (cutN l).2.1 (k + 1)) := rda_two HR3.out tw (fun h => hne h.symm)
              have HC4 : Hid (z4.cell? ⟨g, 0, none⟩ = some (.string ⟨x0.toArray⟩) ∧ z4.cell? ⟨g, 1, none⟩ = some (.string ⟨x1.toArray⟩) ∧ z4.cell? ⟨g, 2, none⟩ = some (.string ⟨x2.toArray⟩) ∧ z4.cell? ⟨g, 3, none⟩ = some (.string ⟨x3.toArray⟩)) := ⟨cell_two tw HC3.out.1 hgt, cell_two tw HC3.out.2.1 hgt, cell_two tw HC3.out.2.2.1 hgt, cell_two tw HC3.out.2.2.2 hgt⟩
              have hSnew := HC4.out
              clear hb1 tw
              go_wp2_with fail
              refine hK.out _ _ hSnew (fun hHeld37 => ?_)
              clear hK K hSnew
              clear hHeld
              have hHeld := hHeld37
              clear hHeld37
              try simp only [Act.put, List.setIfInBounds_toArray, List.set_cons_zero, List.set_cons_succ]
              refine wpAnyH_take (i := 38) (oi := { dst := some 50, op := Op.pick (Operand.tmp 42) (Operand.tmp 49) (Operand.const (Value.bool false)), type := 4, pos := "text.go:143", after := #[{ on := 30, ground := Ground.data }, { on := 37, ground := Ground.data }], guard := none }) (v := ?v38w3) rfl (by kernel_rfl) (by kernel_rfl) (by kernel_rfl) (fun _ _ _ h => h) (Or.inl ⟨by rfl, ?y38w3⟩) (by assumption) ?r38w3
              case y38w3 => (intro x hx; (try dsimp only at hx); go_simp; try with_reducible rfl)
              try simp only [Act.put, List.setIfInBounds_toArray, List.set_cons_zero, List.set_cons_succ]
              refine wpAnyH_take (i := 39) (oi := { dst := some 4, op := Op.assign (Operand.tmp 50), type := 4, pos := "text.go:143", after := #[{ on := 38, ground := Ground.data }, { on := 37, ground := Ground.chain }, { on := 0, ground := Ground.phase }, { on := 1, ground := Ground.phase }, { on := 2, ground := Ground.phase }, { on := 3, ground := Ground.phase }, { on := 4, ground := Ground.phase }, { on := 5, ground := Ground.phase }, { on := 6, ground := Ground.phase }, { on := 7, ground := Ground.phase }, { on := 8, ground := Ground.phase }, { on := 9, ground := Ground.phase }, { on := 10, ground := Ground.phase }, { on := 11, ground := Ground.phase }, { on := 12, ground := Ground.phase }, { on := 13, ground := Ground.phase }, { on := 14, ground := Ground.phase }, { on := 15, ground := Ground.phase }, { on := 16, ground := Ground.phase }, { on := 17, ground := Ground.phase }, { on := 18, ground := Ground.phase }, { on := 19, ground := Ground.phase }, { on := 20, ground := Ground.phase }, { on := 21, ground := Ground.phase }, { on := 22, ground := Ground.phase }, { on := 23, ground := Ground.phase }, { on := 24, ground := Ground.phase }, { on := 25, ground := Ground.phase }, { on := 26, ground := Ground.phase }, { on := 27, ground := Ground.phase }, { on := 28, ground := Ground.phase }, { on := 29, ground := Ground.phase }, { on := 30, ground := Ground.phase }, { on := 31, ground := Ground.phase }, { on := 32, ground := Ground.phase }, { on := 33, ground := Ground.phase }, { on := 34, ground := Ground.phase }, { on := 35, ground := Ground.phase }, { on := 36, ground := Ground.phase }, { on := 37, ground := Ground.phase }, { on := 38, ground := Ground.phase }], guard := none }) (v := ?v39w3) rfl (by kernel_rfl) (by kernel_rfl) (by kernel_rfl) (fun _ _ _ h => h) (Or.inl ⟨by rfl, ?y39w3⟩) (by assumption) ?r39w3
              case y39w3 => (intro x hx; (try dsimp only at hx); go_simp; try with_reducible rfl)
              try simp only [Act.put, List.setIfInBounds_toArray, List.set_cons_zero, List.set_cons_succ]
              refine wpAnyH_done (by kernel_rfl) ?_ _
              go_wp2_with fail
              go_ret
              exact ⟨⟨v0, v1, v2, v3⟩, by rw [HF.out]; rfl, fun f hf => (by rw [HF.out] at hf; cases hf), HB4.out, HR4.out, HX4.out⟩
            | some y3 =>
              have HO3 : Hid (numOf x3 = some y3) := h3
              clear h3
              have HF : Hid (fdOf l = some ⟨y0, y1, y2, y3⟩) := by unfold Hid; rw [HN.out]; unfold fd4; rw [HO0.out, HO1.out, HO2.out, HO3.out]; rfl
              go_enter Tryd.func40, Tryd.ntmps40
              go_upto_region 2 with (first
                | (go_at_call 52; refine HTH.mono ?_; rintro e t1 ⟨g, he1, hg, hc, hr, tw, hg2⟩
                   have he2 : e = .returned (.tuple #[.slice (some ⟨g, 0, none⟩) 4 4, .bool true]) := he1
                   clear he1
                   subst he2
                   have HC0 : Hid (t1.drew.cell? ⟨g, 0, none⟩ = some (.string ⟨x0.toArray⟩) ∧ t1.drew.cell? ⟨g, 1, none⟩ = some (.string ⟨x1.toArray⟩) ∧ t1.drew.cell? ⟨g, 2, none⟩ = some (.string ⟨x2.toArray⟩) ∧ t1.drew.cell? ⟨g, 3, none⟩ = some (.string ⟨x3.toArray⟩)) := ⟨hc 0 (by simp), hc 1 (by simp), hc 2 (by simp), hc 3 (by simp)⟩
                   have HR0 : Hid (RdA t1.drew q (cutN l).2.1 (k + 1)) := hr
                   have HW0 : Hid (Two q q w t1.drew) := tw.drew
                   have HB0 : Hid (t1.drew.heap[tb]? = some (.cells #[.int .i64 f0, .int .i64 f1, .int .i64 f2, .int .i64 f3] 29 (0, 0))) := blk_two HB.out tw.drew hne
                   have hgt : g ≠ tb := by omega
                   have HX0 : Hid (Two q tb w t1.drew) := tw.drew.one
                   clear hc hr tw hg2 hg))
              refine wp_region_held_drew (S := (fun y : World => y.cell? ⟨g, 0, none⟩ = some (.string ⟨x0.toArray⟩) ∧ y.cell? ⟨g, 1, none⟩ = some (.string ⟨x1.toArray⟩) ∧ y.cell? ⟨g, 2, none⟩ = some (.string ⟨x2.toArray⟩) ∧ y.cell? ⟨g, 3, none⟩ = some (.string ⟨x3.toArray⟩))) (by kernel_rfl) (HC0.out) (fun hHeld => ?_)
              refine wpAnyH_take (i := 0) (oi := { dst := some 12, op := Op.move (Operand.tmp 6), type := 4, pos := "text.go:143", after := #[], guard := none }) (v := ?v0w4) rfl (by kernel_rfl) (by kernel_rfl) (by kernel_rfl) (fun _ _ _ h => h) (Or.inl ⟨by rfl, ?y0w4⟩) (by assumption) ?r0w4
              case y0w4 => (intro x hx; (try dsimp only at hx); go_simp; try with_reducible rfl)
              try simp only [Act.put, List.setIfInBounds_toArray, List.set_cons_zero, List.set_cons_succ]
              refine wpAnyH_take (i := 1) (oi := { dst := some 13, op := Op.move (Operand.tmp 12), type := 4, pos := "text.go:143", after := #[{ on := 0, ground := Ground.data }], guard := none }) (v := ?v1w4) rfl (by kernel_rfl) (by kernel_rfl) (by kernel_rfl) (fun _ _ _ h => h) (Or.inl ⟨by rfl, ?y1w4⟩) (by assumption) ?r1w4
              case y1w4 => (intro x hx; (try dsimp only at hx); go_simp; try with_reducible rfl)
              try simp only [Act.put, List.setIfInBounds_toArray, List.set_cons_zero, List.set_cons_succ]
              refine wpAnyH_take (i := 2) (oi := { dst := some 14, op := Op.move (Operand.tmp 5), type := 46, pos := "text.go:143", after := #[{ on := 1, ground := Ground.guard }], guard := some (1, true) }) (v := ?v2w4) rfl (by kernel_rfl) (by kernel_rfl) (by kernel_rfl) (fun _ _ _ h => h) (Or.inl ⟨by rfl, ?y2w4⟩) (by assumption) ?r2w4
              case y2w4 => (intro x hx; (try dsimp only at hx); go_simp; try with_reducible rfl)
              try simp only [Act.put, List.setIfInBounds_toArray, List.set_cons_zero, List.set_cons_succ]
              refine wpAnyH_take (i := 3) (oi := { dst := some 15, op := Op.indexAddr 46 (Operand.tmp 14) (Operand.const (Value.int IntKind.i64 0)), type := 0, pos := "text.go:143", after := #[{ on := 2, ground := Ground.data }, { on := 1, ground := Ground.guard }], guard := some (1, true) }) (v := ?v3w4) rfl (by kernel_rfl) (by kernel_rfl) (by kernel_rfl) (fun _ _ _ h => h) (Or.inl ⟨by rfl, ?y3w4⟩) (by assumption) ?r3w4
              case y3w4 => (intro x hx; (try dsimp only at hx); go_simp; try with_reducible rfl)
              try simp only [Act.put, List.setIfInBounds_toArray, List.set_cons_zero, List.set_cons_succ]
              refine wpAnyH_take (i := 4) (oi := { dst := some 16, op := Op.load 9 (Operand.tmp 15), type := 9, pos := "text.go:143", after := #[{ on := 3, ground := Ground.data }, { on := 1, ground := Ground.guard }], guard := some (1, true) }) (v := ?v4w4) rfl (by kernel_rfl) (by kernel_rfl) (by kernel_rfl) (fun _ _ _ h => h) (Or.inl ⟨by rfl, ?y4w4⟩) (by assumption) ?r4w4
              case y4w4 => (intro x hx; (try dsimp only at hx); go_simp; try with_reducible rfl)
              try simp only [Act.put, List.setIfInBounds_toArray, List.set_cons_zero, List.set_cons_succ]
              refine wpAnyH_take (i := 5) (oi := { dst := some 17, op := Op.move (Operand.tmp 1), type := 82, pos := "text.go:143", after := #[{ on := 1, ground := Ground.guard }], guard := some (1, true) }) (v := ?v5w4) rfl (by kernel_rfl) (by kernel_rfl) (by kernel_rfl) (fun _ _ _ h => h) (Or.inl ⟨by rfl, ?y5w4⟩) (by assumption) ?r5w4
              case y5w4 => (intro x hx; (try dsimp only at hx); go_simp; try with_reducible rfl)
              try simp only [Act.put, List.setIfInBounds_toArray, List.set_cons_zero, List.set_cons_succ]
              refine wpAnyH_take (i := 6) (oi := { dst := some 18, op := Op.nilCheck (Operand.tmp 17), type := 0, pos := "text.go:143", after := #[{ on := 5, ground := Ground.data }, { on := 1, ground := Ground.guard }], guard := some (1, true) }) (v := ?v6w4) rfl (by kernel_rfl) (by kernel_rfl) (by kernel_rfl) (fun _ _ _ h => h) (Or.inl ⟨by rfl, ?y6w4⟩) (by assumption) ?r6w4
              case y6w4 => (intro x hx; (try dsimp only at hx); go_simp; try with_reducible rfl)
              try simp only [Act.put, List.setIfInBounds_toArray, List.set_cons_zero, List.set_cons_succ]
              refine wpAnyH_take (i := 7) (oi := { dst := some 19, op := Op.fieldAddr 29 (Operand.tmp 18) 0, type := 0, pos := "text.go:143", after := #[{ on := 6, ground := Ground.data }, { on := 1, ground := Ground.guard }], guard := some (1, true) }) (v := ?v7w4) rfl (by kernel_rfl) (by kernel_rfl) (by kernel_rfl) (fun _ _ _ h => h) (Or.inl ⟨by rfl, ?y7w4⟩) (by assumption) ?r7w4
              case y7w4 => (intro x hx; (try dsimp only at hx); go_simp; try with_reducible rfl)
              try simp only [Act.put, List.setIfInBounds_toArray, List.set_cons_zero, List.set_cons_succ]
              refine wpAnyH_ready (rs := [8]) (by kernel_rfl) (by simp) ?_
              refine AllReadyH.cons (o := { dst := some 20, op := Op.call { callee := Callee.value (Operand.func 53), args := #[Operand.tmp 16, Operand.tmp 19], argTypes := #[9, 78] }, type := 4, pos := "text.go:143", after := #[{ on := 4, ground := Ground.data }, { on := 7, ground := Ground.data }, { on := 1, ground := Ground.chain }, { on := 1, ground := Ground.guard }], guard := some (1, true) }) rfl (fun K hK => ?_) AllReadyH.nil
              go_simp
              refine (iskind_any x0 tb 0 _ _ _ (by omega) HB0.out (by simp) (p10_two HP.out HX0.out hq9 h9) (HV.out.two HX0.out hq9 h9) (HK.out.two HX0.out hq9 h9) h9).mono ?_; rintro e z1 ⟨v0, he1, hv0, hb1, tw⟩
              have he2 : e = .returned (.bool true) := by rw [he1, HO0.out]; rfl
              clear he1
              subst he2
              obtain rfl : v0 = y0 := hv0 _ HO0.out
              have HB1 : Hid (z1.heap[tb]? = some (.cells #[.int .i64 v0, .int .i64 f1, .int .i64 f2, .int .i64 f3] 29 (0, 0))) := hb1
              have HX1 : Hid (Two q tb w z1) := HX0.out.trans tw.too
              have HR1 : Hid (RdA z1 q (cutN l).2.1 (k + 1)) := rda_two HR0.out tw (fun h => hne h.symm)
              have HC1 : Hid (z1.cell? ⟨g, 0, none⟩ = some (.string ⟨x0.toArray⟩) ∧ z1.cell? ⟨g, 1, none⟩ = some (.string ⟨x1.toArray⟩) ∧ z1.cell? ⟨g, 2, none⟩ = some (.string ⟨x2.toArray⟩) ∧ z1.cell? ⟨g, 3, none⟩ = some (.string ⟨x3.toArray⟩)) := ⟨cell_two tw HC0.out.1 hgt, cell_two tw HC0.out.2.1 hgt, cell_two tw HC0.out.2.2.1 hgt, cell_two tw HC0.out.2.2.2 hgt⟩
              have hSnew := HC1.out
              clear hb1 tw
              go_wp2_with fail
              refine hK.out _ _ hSnew (fun hHeld8 => ?_)
              clear hK K hSnew
              clear hHeld
              have hHeld := hHeld8
              clear hHeld8
              try simp only [Act.put, List.setIfInBounds_toArray, List.set_cons_zero, List.set_cons_succ]
              refine wpAnyH_take (i := 9) (oi := { dst := some 21, op := Op.pick (Operand.tmp 13) (Operand.tmp 20) (Operand.const (Value.bool false)), type := 4, pos := "text.go:143", after := #[{ on := 1, ground := Ground.data }, { on := 8, ground := Ground.data }], guard := none }) (v := ?v9w4) rfl (by kernel_rfl) (by kernel_rfl) (by kernel_rfl) (fun _ _ _ h => h) (Or.inl ⟨by rfl, ?y9w4⟩) (by assumption) ?r9w4
              case y9w4 => (intro x hx; (try dsimp only at hx); go_simp; try with_reducible rfl)
              try simp only [Act.put, List.setIfInBounds_toArray, List.set_cons_zero, List.set_cons_succ]
              refine wpAnyH_take (i := 10) (oi := { dst := some 22, op := Op.move (Operand.tmp 21), type := 4, pos := "text.go:143", after := #[{ on := 9, ground := Ground.data }, { on := 8, ground := Ground.chain }], guard := none }) (v := ?v10w4) rfl (by kernel_rfl) (by kernel_rfl) (by kernel_rfl) (fun _ _ _ h => h) (Or.inl ⟨by rfl, ?y10w4⟩) (by assumption) ?r10w4
              case y10w4 => (intro x hx; (try dsimp only at hx); go_simp; try with_reducible rfl)
              try simp only [Act.put, List.setIfInBounds_toArray, List.set_cons_zero, List.set_cons_succ]
              refine wpAnyH_take (i := 11) (oi := { dst := some 23, op := Op.move (Operand.tmp 5), type := 46, pos := "text.go:143", after := #[{ on := 10, ground := Ground.guard }], guard := some (10, true) }) (v := ?v11w4) rfl (by kernel_rfl) (by kernel_rfl) (by kernel_rfl) (fun _ _ _ h => h) (Or.inl ⟨by rfl, ?y11w4⟩) (by assumption) ?r11w4
              case y11w4 => (intro x hx; (try dsimp only at hx); go_simp; try with_reducible rfl)
              try simp only [Act.put, List.setIfInBounds_toArray, List.set_cons_zero, List.set_cons_succ]
              refine wpAnyH_take (i := 12) (oi := { dst := some 24, op := Op.indexAddr 46 (Operand.tmp 23) (Operand.const (Value.int IntKind.i64 1)), type := 0, pos := "text.go:143", after := #[{ on := 11, ground := Ground.data }, { on := 10, ground := Ground.guard }], guard := some (10, true) }) (v := ?v12w4) rfl (by kernel_rfl) (by kernel_rfl) (by kernel_rfl) (fun _ _ _ h => h) (Or.inl ⟨by rfl, ?y12w4⟩) (by assumption) ?r12w4
              case y12w4 => (intro x hx; (try dsimp only at hx); go_simp; try with_reducible rfl)
              try simp only [Act.put, List.setIfInBounds_toArray, List.set_cons_zero, List.set_cons_succ]
              refine wpAnyH_take (i := 13) (oi := { dst := some 25, op := Op.load 9 (Operand.tmp 24), type := 9, pos := "text.go:143", after := #[{ on := 12, ground := Ground.data }, { on := 10, ground := Ground.guard }], guard := some (10, true) }) (v := ?v13w4) rfl (by kernel_rfl) (by kernel_rfl) (by kernel_rfl) (fun _ _ _ h => h) (Or.inl ⟨by rfl, ?y13w4⟩) (by assumption) ?r13w4
              case y13w4 => (intro x hx; (try dsimp only at hx); go_simp; try with_reducible rfl)
              try simp only [Act.put, List.setIfInBounds_toArray, List.set_cons_zero, List.set_cons_succ]
              refine wpAnyH_take (i := 14) (oi := { dst := some 26, op := Op.move (Operand.tmp 1), type := 82, pos := "text.go:143", after := #[{ on := 10, ground := Ground.guard }], guard := some (10, true) }) (v := ?v14w4) rfl (by kernel_rfl) (by kernel_rfl) (by kernel_rfl) (fun _ _ _ h => h) (Or.inl ⟨by rfl, ?y14w4⟩) (by assumption) ?r14w4
              case y14w4 => (intro x hx; (try dsimp only at hx); go_simp; try with_reducible rfl)
              try simp only [Act.put, List.setIfInBounds_toArray, List.set_cons_zero, List.set_cons_succ]
              refine wpAnyH_take (i := 15) (oi := { dst := some 27, op := Op.nilCheck (Operand.tmp 26), type := 0, pos := "text.go:143", after := #[{ on := 14, ground := Ground.data }, { on := 10, ground := Ground.guard }], guard := some (10, true) }) (v := ?v15w4) rfl (by kernel_rfl) (by kernel_rfl) (by kernel_rfl) (fun _ _ _ h => h) (Or.inl ⟨by rfl, ?y15w4⟩) (by assumption) ?r15w4
              case y15w4 => (intro x hx; (try dsimp only at hx); go_simp; try with_reducible rfl)
              try simp only [Act.put, List.setIfInBounds_toArray, List.set_cons_zero, List.set_cons_succ]
              refine wpAnyH_take (i := 16) (oi := { dst := some 28, op := Op.fieldAddr 29 (Operand.tmp 27) 1, type := 0, pos := "text.go:143", after := #[{ on := 15, ground := Ground.data }, { on := 10, ground := Ground.guard }], guard := some (10, true) }) (v := ?v16w4) rfl (by kernel_rfl) (by kernel_rfl) (by kernel_rfl) (fun _ _ _ h => h) (Or.inl ⟨by rfl, ?y16w4⟩) (by assumption) ?r16w4
              case y16w4 => (intro x hx; (try dsimp only at hx); go_simp; try with_reducible rfl)
              try simp only [Act.put, List.setIfInBounds_toArray, List.set_cons_zero, List.set_cons_succ]
              refine wpAnyH_take (i := 17) (oi := { dst := some 29, op := Op.fieldAddr 27 (Operand.tmp 28) 0, type := 0, pos := "text.go:143", after := #[{ on := 16, ground := Ground.data }, { on := 10, ground := Ground.guard }], guard := some (10, true) }) (v := ?v17w4) rfl (by kernel_rfl) (by kernel_rfl) (by kernel_rfl) (fun _ _ _ h => h) (Or.inl ⟨by rfl, ?y17w4⟩) (by assumption) ?r17w4
              case y17w4 => (intro x hx; (try dsimp only at hx); go_simp; try with_reducible rfl)
              try simp only [Act.put, List.setIfInBounds_toArray, List.set_cons_zero, List.set_cons_succ]
              refine wpAnyH_ready (rs := [18]) (by kernel_rfl) (by simp) ?_
              refine AllReadyH.cons (o := { dst := some 30, op := Op.call { callee := Callee.value (Operand.func 51), args := #[Operand.tmp 25, Operand.tmp 29], argTypes := #[9, 78] }, type := 4, pos := "text.go:143", after := #[{ on := 13, ground := Ground.data }, { on := 17, ground := Ground.data }, { on := 10, ground := Ground.chain }, { on := 10, ground := Ground.guard }], guard := some (10, true) }) rfl (fun K hK => ?_) AllReadyH.nil
              go_simp
              refine (isnum_any x1 tb 1 _ _ _ (by omega) HB1.out (by simp) (p10_two HP.out HX1.out hq9 h9) (HV.out.two HX1.out hq9 h9) h9).mono ?_; rintro e z2 ⟨v1, he1, hv1, hb1, tw⟩
              have he2 : e = .returned (.bool true) := by rw [he1, HO1.out]; rfl
              clear he1
              subst he2
              obtain rfl : v1 = y1 := hv1 _ HO1.out
              have HB2 : Hid (z2.heap[tb]? = some (.cells #[.int .i64 v0, .int .i64 v1, .int .i64 f2, .int .i64 f3] 29 (0, 0))) := hb1
              have HX2 : Hid (Two q tb w z2) := HX1.out.trans tw.too
              have HR2 : Hid (RdA z2 q (cutN l).2.1 (k + 1)) := rda_two HR1.out tw (fun h => hne h.symm)
              have HC2 : Hid (z2.cell? ⟨g, 0, none⟩ = some (.string ⟨x0.toArray⟩) ∧ z2.cell? ⟨g, 1, none⟩ = some (.string ⟨x1.toArray⟩) ∧ z2.cell? ⟨g, 2, none⟩ = some (.string ⟨x2.toArray⟩) ∧ z2.cell? ⟨g, 3, none⟩ = some (.string ⟨x3.toArray⟩)) := ⟨cell_two tw HC1.out.1 hgt, cell_two tw HC1.out.2.1 hgt, cell_two tw HC1.out.2.2.1 hgt, cell_two tw HC1.out.2.2.2 hgt⟩
              have hSnew := HC2.out
              clear hb1 tw
              go_wp2_with fail
              refine hK.out _ _ hSnew (fun hHeld18 => ?_)
              clear hK K hSnew
              clear hHeld
              have hHeld := hHeld18
              clear hHeld18
              try simp only [Act.put, List.setIfInBounds_toArray, List.set_cons_zero, List.set_cons_succ]
              refine wpAnyH_take (i := 19) (oi := { dst := some 31, op := Op.pick (Operand.tmp 22) (Operand.tmp 30) (Operand.const (Value.bool false)), type := 4, pos := "text.go:143", after := #[{ on := 10, ground := Ground.data }, { on := 18, ground := Ground.data }], guard := none }) (v := ?v19w4) rfl (by kernel_rfl) (by kernel_rfl) (by kernel_rfl) (fun _ _ _ h => h) (Or.inl ⟨by rfl, ?y19w4⟩) (by assumption) ?r19w4
              case y19w4 => (intro x hx; (try dsimp only at hx); go_simp; try with_reducible rfl)
              try simp only [Act.put, List.setIfInBounds_toArray, List.set_cons_zero, List.set_cons_succ]
              refine wpAnyH_take (i := 20) (oi := { dst := some 32, op := Op.move (Operand.tmp 31), type := 4, pos := "text.go:143", after := #[{ on := 19, ground := Ground.data }, { on := 18, ground := Ground.chain }], guard := none }) (v := ?v20w4) rfl (by kernel_rfl) (by kernel_rfl) (by kernel_rfl) (fun _ _ _ h => h) (Or.inl ⟨by rfl, ?y20w4⟩) (by assumption) ?r20w4
              case y20w4 => (intro x hx; (try dsimp only at hx); go_simp; try with_reducible rfl)
              try simp only [Act.put, List.setIfInBounds_toArray, List.set_cons_zero, List.set_cons_succ]
              refine wpAnyH_take (i := 21) (oi := { dst := some 33, op := Op.move (Operand.tmp 5), type := 46, pos := "text.go:143", after := #[{ on := 20, ground := Ground.guard }], guard := some (20, true) }) (v := ?v21w4) rfl (by kernel_rfl) (by kernel_rfl) (by kernel_rfl) (fun _ _ _ h => h) (Or.inl ⟨by rfl, ?y21w4⟩) (by assumption) ?r21w4
              case y21w4 => (intro x hx; (try dsimp only at hx); go_simp; try with_reducible rfl)
              try simp only [Act.put, List.setIfInBounds_toArray, List.set_cons_zero, List.set_cons_succ]
              refine wpAnyH_take (i := 22) (oi := { dst := some 34, op := Op.indexAddr 46 (Operand.tmp 33) (Operand.const (Value.int IntKind.i64 2)), type := 0, pos := "text.go:143", after := #[{ on := 21, ground := Ground.data }, { on := 20, ground := Ground.guard }], guard := some (20, true) }) (v := ?v22w4) rfl (by kernel_rfl) (by kernel_rfl) (by kernel_rfl) (fun _ _ _ h => h) (Or.inl ⟨by rfl, ?y22w4⟩) (by assumption) ?r22w4
              case y22w4 => (intro x hx; (try dsimp only at hx); go_simp; try with_reducible rfl)
              try simp only [Act.put, List.setIfInBounds_toArray, List.set_cons_zero, List.set_cons_succ]
              refine wpAnyH_take (i := 23) (oi := { dst := some 35, op := Op.load 9 (Operand.tmp 34), type := 9, pos := "text.go:143", after := #[{ on := 22, ground := Ground.data }, { on := 20, ground := Ground.guard }], guard := some (20, true) }) (v := ?v23w4) rfl (by kernel_rfl) (by kernel_rfl) (by kernel_rfl) (fun _ _ _ h => h) (Or.inl ⟨by rfl, ?y23w4⟩) (by assumption) ?r23w4
              case y23w4 => (intro x hx; (try dsimp only at hx); go_simp; try with_reducible rfl)
              try simp only [Act.put, List.setIfInBounds_toArray, List.set_cons_zero, List.set_cons_succ]
              refine wpAnyH_take (i := 24) (oi := { dst := some 36, op := Op.move (Operand.tmp 1), type := 82, pos := "text.go:143", after := #[{ on := 20, ground := Ground.guard }], guard := some (20, true) }) (v := ?v24w4) rfl (by kernel_rfl) (by kernel_rfl) (by kernel_rfl) (fun _ _ _ h => h) (Or.inl ⟨by rfl, ?y24w4⟩) (by assumption) ?r24w4
              case y24w4 => (intro x hx; (try dsimp only at hx); go_simp; try with_reducible rfl)
              try simp only [Act.put, List.setIfInBounds_toArray, List.set_cons_zero, List.set_cons_succ]
              refine wpAnyH_take (i := 25) (oi := { dst := some 37, op := Op.nilCheck (Operand.tmp 36), type := 0, pos := "text.go:143", after := #[{ on := 24, ground := Ground.data }, { on := 20, ground := Ground.guard }], guard := some (20, true) }) (v := ?v25w4) rfl (by kernel_rfl) (by kernel_rfl) (by kernel_rfl) (fun _ _ _ h => h) (Or.inl ⟨by rfl, ?y25w4⟩) (by assumption) ?r25w4
              case y25w4 => (intro x hx; (try dsimp only at hx); go_simp; try with_reducible rfl)
              try simp only [Act.put, List.setIfInBounds_toArray, List.set_cons_zero, List.set_cons_succ]
              refine wpAnyH_take (i := 26) (oi := { dst := some 38, op := Op.fieldAddr 29 (Operand.tmp 37) 1, type := 0, pos := "text.go:143", after := #[{ on := 25, ground := Ground.data }, { on := 20, ground := Ground.guard }], guard := some (20, true) }) (v := ?v26w4) rfl (by kernel_rfl) (by kernel_rfl) (by kernel_rfl) (fun _ _ _ h => h) (Or.inl ⟨by rfl, ?y26w4⟩) (by assumption) ?r26w4
              case y26w4 => (intro x hx; (try dsimp only at hx); go_simp; try with_reducible rfl)
              try simp only [Act.put, List.setIfInBounds_toArray, List.set_cons_zero, List.set_cons_succ]
              refine wpAnyH_take (i := 27) (oi := { dst := some 39, op := Op.fieldAddr 27 (Operand.tmp 38) 1, type := 0, pos := "text.go:143", after := #[{ on := 26, ground := Ground.data }, { on := 20, ground := Ground.guard }], guard := some (20, true) }) (v := ?v27w4) rfl (by kernel_rfl) (by kernel_rfl) (by kernel_rfl) (fun _ _ _ h => h) (Or.inl ⟨by rfl, ?y27w4⟩) (by assumption) ?r27w4
              case y27w4 => (intro x hx; (try dsimp only at hx); go_simp; try with_reducible rfl)
              try simp only [Act.put, List.setIfInBounds_toArray, List.set_cons_zero, List.set_cons_succ]
              refine wpAnyH_ready (rs := [28]) (by kernel_rfl) (by simp) ?_
              refine AllReadyH.cons (o := { dst := some 40, op := Op.call { callee := Callee.value (Operand.func 51), args := #[Operand.tmp 35, Operand.tmp 39], argTypes := #[9, 78] }, type := 4, pos := "text.go:144", after := #[{ on := 23, ground := Ground.data }, { on := 27, ground := Ground.data }, { on := 20, ground := Ground.chain }, { on := 20, ground := Ground.guard }], guard := some (20, true) }) rfl (fun K hK => ?_) AllReadyH.nil
              go_simp
              refine (isnum_any x2 tb 2 _ _ _ (by omega) HB2.out (by simp) (p10_two HP.out HX2.out hq9 h9) (HV.out.two HX2.out hq9 h9) h9).mono ?_; rintro e z3 ⟨v2, he1, hv2, hb1, tw⟩
              have he2 : e = .returned (.bool true) := by rw [he1, HO2.out]; rfl
              clear he1
              subst he2
              obtain rfl : v2 = y2 := hv2 _ HO2.out
              have HB3 : Hid (z3.heap[tb]? = some (.cells #[.int .i64 v0, .int .i64 v1, .int .i64 v2, .int .i64 f3] 29 (0, 0))) := hb1
              have HX3 : Hid (Two q tb w z3) := HX2.out.trans tw.too
              have HR3 : Hid (RdA z3 q (cutN l).2.1 (k + 1)) := rda_two HR2.out tw (fun h => hne h.symm)
              have HC3 : Hid (z3.cell? ⟨g, 0, none⟩ = some (.string ⟨x0.toArray⟩) ∧ z3.cell? ⟨g, 1, none⟩ = some (.string ⟨x1.toArray⟩) ∧ z3.cell? ⟨g, 2, none⟩ = some (.string ⟨x2.toArray⟩) ∧ z3.cell? ⟨g, 3, none⟩ = some (.string ⟨x3.toArray⟩)) := ⟨cell_two tw HC2.out.1 hgt, cell_two tw HC2.out.2.1 hgt, cell_two tw HC2.out.2.2.1 hgt, cell_two tw HC2.out.2.2.2 hgt⟩
              have hSnew := HC3.out
              clear hb1 tw
              go_wp2_with fail
              refine hK.out _ _ hSnew (fun hHeld28 => ?_)
              clear hK K hSnew
              clear hHeld
              have hHeld := hHeld28
              clear hHeld28
              try simp only [Act.put, List.setIfInBounds_toArray, List.set_cons_zero, List.set_cons_succ]
              refine wpAnyH_take (i := 29) (oi := { dst := some 41, op := Op.pick (Operand.tmp 32) (Operand.tmp 40) (Operand.const (Value.bool false)), type := 4, pos := "text.go:143", after := #[{ on := 20, ground := Ground.data }, { on := 28, ground := Ground.data }], guard := none }) (v := ?v29w4) rfl (by kernel_rfl) (by kernel_rfl) (by kernel_rfl) (fun _ _ _ h => h) (Or.inl ⟨by rfl, ?y29w4⟩) (by assumption) ?r29w4
              case y29w4 => (intro x hx; (try dsimp only at hx); go_simp; try with_reducible rfl)
              try simp only [Act.put, List.setIfInBounds_toArray, List.set_cons_zero, List.set_cons_succ]
              refine wpAnyH_take (i := 30) (oi := { dst := some 42, op := Op.move (Operand.tmp 41), type := 4, pos := "text.go:143", after := #[{ on := 29, ground := Ground.data }, { on := 28, ground := Ground.chain }], guard := none }) (v := ?v30w4) rfl (by kernel_rfl) (by kernel_rfl) (by kernel_rfl) (fun _ _ _ h => h) (Or.inl ⟨by rfl, ?y30w4⟩) (by assumption) ?r30w4
              case y30w4 => (intro x hx; (try dsimp only at hx); go_simp; try with_reducible rfl)
              try simp only [Act.put, List.setIfInBounds_toArray, List.set_cons_zero, List.set_cons_succ]
              refine wpAnyH_take (i := 31) (oi := { dst := some 43, op := Op.move (Operand.tmp 5), type := 46, pos := "text.go:143", after := #[{ on := 30, ground := Ground.guard }], guard := some (30, true) }) (v := ?v31w4) rfl (by kernel_rfl) (by kernel_rfl) (by kernel_rfl) (fun _ _ _ h => h) (Or.inl ⟨by rfl, ?y31w4⟩) (by assumption) ?r31w4
              case y31w4 => (intro x hx; (try dsimp only at hx); go_simp; try with_reducible rfl)
              try simp only [Act.put, List.setIfInBounds_toArray, List.set_cons_zero, List.set_cons_succ]
              refine wpAnyH_take (i := 32) (oi := { dst := some 44, op := Op.indexAddr 46 (Operand.tmp 43) (Operand.const (Value.int IntKind.i64 3)), type := 0, pos := "text.go:143", after := #[{ on := 31, ground := Ground.data }, { on := 30, ground := Ground.guard }], guard := some (30, true) }) (v := ?v32w4) rfl (by kernel_rfl) (by kernel_rfl) (by kernel_rfl) (fun _ _ _ h => h) (Or.inl ⟨by rfl, ?y32w4⟩) (by assumption) ?r32w4
              case y32w4 => (intro x hx; (try dsimp only at hx); go_simp; try with_reducible rfl)
              try simp only [Act.put, List.setIfInBounds_toArray, List.set_cons_zero, List.set_cons_succ]
              refine wpAnyH_take (i := 33) (oi := { dst := some 45, op := Op.load 9 (Operand.tmp 44), type := 9, pos := "text.go:143", after := #[{ on := 32, ground := Ground.data }, { on := 30, ground := Ground.guard }], guard := some (30, true) }) (v := ?v33w4) rfl (by kernel_rfl) (by kernel_rfl) (by kernel_rfl) (fun _ _ _ h => h) (Or.inl ⟨by rfl, ?y33w4⟩) (by assumption) ?r33w4
              case y33w4 => (intro x hx; (try dsimp only at hx); go_simp; try with_reducible rfl)
              try simp only [Act.put, List.setIfInBounds_toArray, List.set_cons_zero, List.set_cons_succ]
              refine wpAnyH_take (i := 34) (oi := { dst := some 46, op := Op.move (Operand.tmp 1), type := 82, pos := "text.go:143", after := #[{ on := 30, ground := Ground.guard }], guard := some (30, true) }) (v := ?v34w4) rfl (by kernel_rfl) (by kernel_rfl) (by kernel_rfl) (fun _ _ _ h => h) (Or.inl ⟨by rfl, ?y34w4⟩) (by assumption) ?r34w4
              case y34w4 => (intro x hx; (try dsimp only at hx); go_simp; try with_reducible rfl)
              try simp only [Act.put, List.setIfInBounds_toArray, List.set_cons_zero, List.set_cons_succ]
              refine wpAnyH_take (i := 35) (oi := { dst := some 47, op := Op.nilCheck (Operand.tmp 46), type := 0, pos := "text.go:143", after := #[{ on := 34, ground := Ground.data }, { on := 30, ground := Ground.guard }], guard := some (30, true) }) (v := ?v35w4) rfl (by kernel_rfl) (by kernel_rfl) (by kernel_rfl) (fun _ _ _ h => h) (Or.inl ⟨by rfl, ?y35w4⟩) (by assumption) ?r35w4
              case y35w4 => (intro x hx; (try dsimp only at hx); go_simp; try with_reducible rfl)
              try simp only [Act.put, List.setIfInBounds_toArray, List.set_cons_zero, List.set_cons_succ]
              refine wpAnyH_take (i := 36) (oi := { dst := some 48, op := Op.fieldAddr 29 (Operand.tmp 47) 2, type := 0, pos := "text.go:143", after := #[{ on := 35, ground := Ground.data }, { on := 30, ground := Ground.guard }], guard := some (30, true) }) (v := ?v36w4) rfl (by kernel_rfl) (by kernel_rfl) (by kernel_rfl) (fun _ _ _ h => h) (Or.inl ⟨by rfl, ?y36w4⟩) (by assumption) ?r36w4
              case y36w4 => (intro x hx; (try dsimp only at hx); go_simp; try with_reducible rfl)
              try simp only [Act.put, List.setIfInBounds_toArray, List.set_cons_zero, List.set_cons_succ]
              refine wpAnyH_ready (rs := [37]) (by kernel_rfl) (by simp) ?_
              refine AllReadyH.cons (o := { dst := some 49, op := Op.call { callee := Callee.value (Operand.func 51), args := #[Operand.tmp 45, Operand.tmp 48], argTypes := #[9, 78] }, type := 4, pos := "text.go:144", after := #[{ on := 33, ground := Ground.data }, { on := 36, ground := Ground.data }, { on := 30, ground := Ground.chain }, { on := 30, ground := Ground.guard }], guard := some (30, true) }) rfl (fun K hK => ?_) AllReadyH.nil
              go_simp
              refine (isnum_any x3 tb 3 _ _ _ (by omega) HB3.out (by simp) (p10_two HP.out HX3.out hq9 h9) (HV.out.two HX3.out hq9 h9) h9).mono ?_; rintro e z4 ⟨v3, he1, hv3, hb1, tw⟩
              have he2 : e = .returned (.bool true) := by rw [he1, HO3.out]; rfl
              clear he1
              subst he2
              obtain rfl : v3 = y3 := hv3 _ HO3.out
              have HB4 : Hid (z4.heap[tb]? = some (.cells #[.int .i64 v0, .int .i64 v1, .int .i64 v2, .int .i64 v3] 29 (0, 0))) := hb1
              have HX4 : Hid (Two q tb w z4) := HX3.out.trans tw.too
              have HR4 : Hid (RdA z4 q (cutN l).2.1 (k + 1)) := rda_two HR3.out tw (fun h => hne h.symm)
              have HC4 : Hid (z4.cell? ⟨g, 0, none⟩ = some (.string ⟨x0.toArray⟩) ∧ z4.cell? ⟨g, 1, none⟩ = some (.string ⟨x1.toArray⟩) ∧ z4.cell? ⟨g, 2, none⟩ = some (.string ⟨x2.toArray⟩) ∧ z4.cell? ⟨g, 3, none⟩ = some (.string ⟨x3.toArray⟩)) := ⟨cell_two tw HC3.out.1 hgt, cell_two tw HC3.out.2.1 hgt, cell_two tw HC3.out.2.2.1 hgt, cell_two tw HC3.out.2.2.2 hgt⟩
              have hSnew := HC4.out
              clear hb1 tw
              go_wp2_with fail
              refine hK.out _ _ hSnew (fun hHeld37 => ?_)
              clear hK K hSnew
              clear hHeld
              have hHeld := hHeld37
              clear hHeld37
              try simp only [Act.put, List.setIfInBounds_toArray, List.set_cons_zero, List.set_cons_succ]
              refine wpAnyH_take (i := 38) (oi := { dst := some 50, op := Op.pick (Operand.tmp 42) (Operand.tmp 49) (Operand.const (Value.bool false)), type := 4, pos := "text.go:143", after := #[{ on := 30, ground := Ground.data }, { on := 37, ground := Ground.data }], guard := none }) (v := ?v38w4) rfl (by kernel_rfl) (by kernel_rfl) (by kernel_rfl) (fun _ _ _ h => h) (Or.inl ⟨by rfl, ?y38w4⟩) (by assumption) ?r38w4
              case y38w4 => (intro x hx; (try dsimp only at hx); go_simp; try with_reducible rfl)
              try simp only [Act.put, List.setIfInBounds_toArray, List.set_cons_zero, List.set_cons_succ]
              refine wpAnyH_take (i := 39) (oi := { dst := some 4, op := Op.assign (Operand.tmp 50), type := 4, pos := "text.go:143", after := #[{ on := 38, ground := Ground.data }, { on := 37, ground := Ground.chain }, { on := 0, ground := Ground.phase }, { on := 1, ground := Ground.phase }, { on := 2, ground := Ground.phase }, { on := 3, ground := Ground.phase }, { on := 4, ground := Ground.phase }, { on := 5, ground := Ground.phase }, { on := 6, ground := Ground.phase }, { on := 7, ground := Ground.phase }, { on := 8, ground := Ground.phase }, { on := 9, ground := Ground.phase }, { on := 10, ground := Ground.phase }, { on := 11, ground := Ground.phase }, { on := 12, ground := Ground.phase }, { on := 13, ground := Ground.phase }, { on := 14, ground := Ground.phase }, { on := 15, ground := Ground.phase }, { on := 16, ground := Ground.phase }, { on := 17, ground := Ground.phase }, { on := 18, ground := Ground.phase }, { on := 19, ground := Ground.phase }, { on := 20, ground := Ground.phase }, { on := 21, ground := Ground.phase }, { on := 22, ground := Ground.phase }, { on := 23, ground := Ground.phase }, { on := 24, ground := Ground.phase }, { on := 25, ground := Ground.phase }, { on := 26, ground := Ground.phase }, { on := 27, ground := Ground.phase }, { on := 28, ground := Ground.phase }, { on := 29, ground := Ground.phase }, { on := 30, ground := Ground.phase }, { on := 31, ground := Ground.phase }, { on := 32, ground := Ground.phase }, { on := 33, ground := Ground.phase }, { on := 34, ground := Ground.phase }, { on := 35, ground := Ground.phase }, { on := 36, ground := Ground.phase }, { on := 37, ground := Ground.phase }, { on := 38, ground := Ground.phase }], guard := none }) (v := ?v39w4) rfl (by kernel_rfl) (by kernel_rfl) (by kernel_rfl) (fun _ _ _ h => h) (Or.inl ⟨by rfl, ?y39w4⟩) (by assumption) ?r39w4
              case y39w4 => (intro x hx; (try dsimp only at hx); go_simp; try with_reducible rfl)
              try simp only [Act.put, List.setIfInBounds_toArray, List.set_cons_zero, List.set_cons_succ]
              refine wpAnyH_done (by kernel_rfl) ?_ _
              go_wp2_with fail
              go_ret
              exact ⟨⟨v0, v1, v2, v3⟩, by rw [HF.out]; rfl, fun f hf => (by rw [HF.out] at hf; exact Option.some.inj hf), HB4.out, HR4.out, HX4.out⟩

end Go.Proofs.YtnjcjaaciphcgaaDoor
