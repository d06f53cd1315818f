/-
  SEAT YteefekhlbillfaaDoor: the reference's Read: one piece.
-/
import Derived.Test.YteefekhlbillfaaDoorQc
namespace Go.Proofs.YteefekhlbillfaaDoor
open Go.RowKit
set_option linter.unusedVariables false

/-- One piece at a place: its kind, its count, its page (of one that is told), the place behind it. Whether Pack would lay it down is not looked at. -/
def rdAt (C S left at_ : Nat) (bs : List Int) : Except Int (Nat × Nat × List Int × Nat) :=
  if bs.length ≤ at_ then .error 10
  else if 2 < bs.getD at_ 0 then .error 47
  else if bs.length < at_ + 3 then .error 10
  else if bs.getD at_ 0 ≠ 1 then
    if (bs.getD (at_ + 1) 0 + 256 * bs.getD (at_ + 2) 0).toNat = 0 ∨ left < (bs.getD (at_ + 1) 0 + 256 * bs.getD (at_ + 2) 0).toNat then .error 47
    else .ok ((bs.getD at_ 0).toNat, (bs.getD (at_ + 1) 0 + 256 * bs.getD (at_ + 2) 0).toNat, [], at_ + 3)
  else if C < (bs.getD (at_ + 1) 0 + 256 * bs.getD (at_ + 2) 0).toNat then .error 47
  else if bs.length < at_ + 3 + (bs.getD (at_ + 1) 0 + 256 * bs.getD (at_ + 2) 0).toNat + S then .error 10
  else .ok (1, 1, (bs.drop (at_ + 3)).take (bs.getD (at_ + 1) 0 + 256 * bs.getD (at_ + 2) 0).toNat ++ List.replicate (C - (bs.getD (at_ + 1) 0 + 256 * bs.getD (at_ + 2) 0).toNat) 255 ++ (bs.drop (at_ + 3 + (bs.getD (at_ + 1) 0 + 256 * bs.getD (at_ + 2) 0).toNat)).take S,
    at_ + 3 + (bs.getD (at_ + 1) 0 + 256 * bs.getD (at_ + 2) 0).toNat + S)

def PcR (w w' : World) (e : Ending) : Except Int (Nat × Nat × List Int × Nat) → Prop
  | .error x => x ≠ 0 ∧ e = .returned (.tuple #[.slice none 0 0, .int .i64 0, .int .i64 0, .int .i64 x])
  | .ok (_, m, pg, nx) => ∃ v, e = .returned (.tuple #[v, .int .i64 (m : Int), .int .i64 (nx : Int), .int .i64 0]) ∧ w'.ownsRow w.heap.size 5 1 v pg.length (pg.map (Value.int .u8))

theorem rep_snoc (xs : List Int) (k : Nat) : xs ++ List.replicate k (255 : Int) ++ [255] = xs ++ List.replicate (k + 1) 255 := by
  rw [List.append_assoc, List.replicate_succ']

set_option maxHeartbeats 2000000 in
set_option maxRecDepth 100000 in
theorem rpiece_none (a : Option Addr) (n c : Nat) (bs : List Int) (at_ b p s left : Nat) (w : World) (hr : Reads w a n bs) (hn : n ≤ 140737488355000) (hat : at_ ≤ n) (hs1 : 1 ≤ s) (hs2 : s ≤ 8) (hlf : left ≤ 65536) (C S : Nat) (hC : 256 * s = C) (hS : 54 + 3 * s = S) (h : n ≤ at_) :
    Calls Tryd.prog 49 #[.slice a n c, .int .i64 (at_ : Int), .agg #[.int .i64 (b : Int), .int .i64 (p : Int), .int .i64 (s : Int)], .int .i64 (left : Int)] w fun e w' => PcR w w' e (rdAt C S left at_ bs) ∧ Below w.heap.size w w' := by
  have HE : Hid (rdAt C S left at_ bs = .error 10) := by unfold Hid rdAt; rw [if_pos (by have := hr.1; omega)]
  have d1 : (n : Int) ≤ (at_ : Int) := by omega
  clear hr
  go_enter Tryd.func49, Tryd.ntmps49
  go_wp2_with fail
  exact bodyPost_ret (v := .tuple #[.slice none 0 0, .int .i64 0, .int .i64 0, .int .i64 10]) (by simp [results, Tryd.results49, go_sem]) rfl ⟨by rw [HE.out]; exact ⟨by decide, rfl⟩, below_alloc w _⟩
set_option maxHeartbeats 2000000 in
set_option maxRecDepth 100000 in
theorem rpiece_kind (a : Option Addr) (n c : Nat) (bs : List Int) (at_ b p s left : Nat) (w : World) (hr : Reads w a n bs) (hn : n ≤ 140737488355000) (hat : at_ ≤ n) (hs1 : 1 ≤ s) (hs2 : s ≤ 8) (hlf : left ≤ 65536) (C S : Nat) (hC : 256 * s = C) (hS : 54 + 3 * s = S) (h : at_ < n) (h2 : 2 < bs.getD at_ 0) :
    Calls Tryd.prog 49 #[.slice a n c, .int .i64 (at_ : Int), .agg #[.int .i64 (b : Int), .int .i64 (p : Int), .int .i64 (s : Int)], .int .i64 (left : Int)] w fun e w' => PcR w w' e (rdAt C S left at_ bs) ∧ Below w.heap.size w w' := by
  have HE : Hid (rdAt C S left at_ bs = .error 47) := by unfold Hid rdAt; rw [if_neg (by have := hr.1; omega), if_pos h2]
  have d1 : ¬ (n : Int) ≤ (at_ : Int) := by omega
  have d2 : (at_ : Int) < (n : Int) := by omega
  obtain ⟨bk, off, rfl, hbk, hcell⟩ := (hr.below (below_alloc w (.cells #[.int .i64 (b : Int), .int .i64 (p : Int), .int .i64 (s : Int)] 27))).pos (by omega)
  have k0 := hcell at_ h
  have b0 := byt_getD hr.2.1 at_
  generalize bs.getD at_ 0 = z at k0 h2 b0
  have wz : IntKind.i64.wrap z = z := by rw [IntKind.wrap_i64]; omega
  clear hr hcell
  go_enter Tryd.func49, Tryd.ntmps49
  go_wp2_with fail
  exact bodyPost_ret (v := .tuple #[.slice none 0 0, .int .i64 0, .int .i64 0, .int .i64 47]) (by simp [results, Tryd.results49, go_sem]) rfl ⟨by rw [HE.out]; exact ⟨by decide, rfl⟩, below_alloc w _⟩
set_option maxHeartbeats 2000000 in
set_option maxRecDepth 100000 in
theorem rpiece_short (a : Option Addr) (n c : Nat) (bs : List Int) (at_ b p s left : Nat) (w : World) (hr : Reads w a n bs) (hn : n ≤ 140737488355000) (hat : at_ ≤ n) (hs1 : 1 ≤ s) (hs2 : s ≤ 8) (hlf : left ≤ 65536) (C S : Nat) (hC : 256 * s = C) (hS : 54 + 3 * s = S) (h : at_ < n) (h2 : ¬ 2 < bs.getD at_ 0) (h3 : n < at_ + 3) :
    Calls Tryd.prog 49 #[.slice a n c, .int .i64 (at_ : Int), .agg #[.int .i64 (b : Int), .int .i64 (p : Int), .int .i64 (s : Int)], .int .i64 (left : Int)] w fun e w' => PcR w w' e (rdAt C S left at_ bs) ∧ Below w.heap.size w w' := by
  have HE : Hid (rdAt C S left at_ bs = .error 10) := by unfold Hid rdAt; rw [if_neg (by have := hr.1; omega), if_neg h2, if_pos (by have := hr.1; omega)]
  have d1 : ¬ (n : Int) ≤ (at_ : Int) := by omega
  have d2 : (at_ : Int) < (n : Int) := by omega
  have d3 : (n : Int) < (at_ : Int) + 3 := by omega
  obtain ⟨bk, off, rfl, hbk, hcell⟩ := (hr.below (below_alloc w (.cells #[.int .i64 (b : Int), .int .i64 (p : Int), .int .i64 (s : Int)] 27))).pos (by omega)
  have k0 := hcell at_ h
  have b0 := byt_getD hr.2.1 at_
  generalize bs.getD at_ 0 = z at k0 h2 b0
  have wz : IntKind.i64.wrap z = z := by rw [IntKind.wrap_i64]; omega
  clear hr hcell
  go_enter Tryd.func49, Tryd.ntmps49
  go_wp2_with fail
  exact bodyPost_ret (v := .tuple #[.slice none 0 0, .int .i64 0, .int .i64 0, .int .i64 10]) (by simp [results, Tryd.results49, go_sem]) rfl ⟨by rw [HE.out]; exact ⟨by decide, rfl⟩, below_alloc w _⟩
set_option maxHeartbeats 2000000 in
set_option maxRecDepth 100000 in
theorem rpiece_run (a : Option Addr) (n c : Nat) (bs : List Int) (at_ b p s left : Nat) (w : World) (hr : Reads w a n bs) (hn : n ≤ 140737488355000) (hat : at_ ≤ n) (hs1 : 1 ≤ s) (hs2 : s ≤ 8) (hlf : left ≤ 65536) (C S : Nat) (hC : 256 * s = C) (hS : 54 + 3 * s = S) (h3 : at_ + 3 ≤ n) (h2 : ¬ 2 < bs.getD at_ 0) (hz : bs.getD at_ 0 ≠ 1) :
    Calls Tryd.prog 49 #[.slice a n c, .int .i64 (at_ : Int), .agg #[.int .i64 (b : Int), .int .i64 (p : Int), .int .i64 (s : Int)], .int .i64 (left : Int)] w fun e w' => PcR w w' e (rdAt C S left at_ bs) ∧ Below w.heap.size w w' := by
  have hlen := hr.1
  have d1 : ¬ (n : Int) ≤ (at_ : Int) := by omega
  have d2 : (at_ : Int) < (n : Int) := by omega
  have d3 : ¬ (n : Int) < (at_ : Int) + 3 := by omega
  have HR1 : Hid (Reads (w.alloc (.cells #[.int .i64 (b : Int), .int .i64 (p : Int), .int .i64 (s : Int)] 27)) a n bs) := hr.below (below_alloc w _)
  obtain ⟨bk, off, rfl, hbk, hcell⟩ := HR1.out.pos (by omega)
  have k0 := hcell at_ (by omega)
  have k1 := hcell (at_ + 1) (by omega)
  have k2 := hcell (at_ + 2) (by omega)
  have b0 := byt_getD hr.2.1 at_
  have b1 := byt_getD hr.2.1 (at_ + 1)
  have b2 := byt_getD hr.2.1 (at_ + 2)
  have HRA : Hid (rdAt C S left at_ bs = if bs.getD at_ 0 ≠ 1 then
      if (bs.getD (at_ + 1) 0 + 256 * bs.getD (at_ + 2) 0).toNat = 0 ∨ left < (bs.getD (at_ + 1) 0 + 256 * bs.getD (at_ + 2) 0).toNat then .error 47
      else .ok ((bs.getD at_ 0).toNat, (bs.getD (at_ + 1) 0 + 256 * bs.getD (at_ + 2) 0).toNat, [], at_ + 3)
    else if C < (bs.getD (at_ + 1) 0 + 256 * bs.getD (at_ + 2) 0).toNat then .error 47
    else if n < at_ + 3 + (bs.getD (at_ + 1) 0 + 256 * bs.getD (at_ + 2) 0).toNat + S then .error 10
    else .ok (1, 1, (bs.drop (at_ + 3)).take (bs.getD (at_ + 1) 0 + 256 * bs.getD (at_ + 2) 0).toNat ++ List.replicate (C - (bs.getD (at_ + 1) 0 + 256 * bs.getD (at_ + 2) 0).toNat) 255 ++ (bs.drop (at_ + 3 + (bs.getD (at_ + 1) 0 + 256 * bs.getD (at_ + 2) 0).toNat)).take S,
      at_ + 3 + (bs.getD (at_ + 1) 0 + 256 * bs.getD (at_ + 2) 0).toNat + S)) := by
    unfold Hid rdAt
    rw [if_neg (by omega), if_neg h2, if_neg (by omega), hlen]
  generalize bs.getD at_ 0 = z at HRA k0 h2 b0 hz
  generalize bs.getD (at_ + 1) 0 = z1 at HRA k1 b1
  generalize bs.getD (at_ + 2) 0 = z2 at HRA k2 b2
  obtain ⟨m, hm⟩ := Int.eq_ofNat_of_zero_le (show 0 ≤ z1 + 256 * z2 by omega)
  have hm2 : m ≤ 65535 := by omega
  have wz : IntKind.i64.wrap z = z := by rw [IntKind.wrap_i64]; omega
  have wz1 : IntKind.i64.wrap z1 = z1 := by rw [IntKind.wrap_i64]; omega
  have wz2 : IntKind.i64.wrap z2 = z2 := by rw [IntKind.wrap_i64]; omega
  have wz3 : IntKind.i64.wrap (256 * z2) = 256 * z2 := by rw [IntKind.wrap_i64]; omega
  have wm : IntKind.i64.wrap (z1 + 256 * z2) = (m : Int) := by rw [IntKind.wrap_i64]; omega
  rw [hm, Int.toNat_natCast] at HRA
  obtain ⟨q1, hq1⟩ : ∃ q1, at_ + 1 = q1 := ⟨_, rfl⟩
  obtain ⟨q2, hq2⟩ : ∃ q2, at_ + 2 = q2 := ⟨_, rfl⟩
  have wa1 : IntKind.i64.wrap ((at_ : Int) + 1) = (q1 : Int) := by rw [IntKind.wrap_i64]; omega
  have wa2 : IntKind.i64.wrap ((at_ : Int) + 2) = (q2 : Int) := by rw [IntKind.wrap_i64]; omega
  have d4 : (q1 : Int) < (n : Int) := by omega
  have d5 : (q2 : Int) < (n : Int) := by omega
  rw [hq1] at k1
  rw [hq2] at k2
  clear hq1 hq2
  rw [if_pos hz] at HRA
  have hz1 : (z == 1) = false := by rw [beq_eq_false_iff_ne]; exact hz
  have HB1 : Hid (Below w.heap.size w (w.alloc (.cells #[.int .i64 (b : Int), .int .i64 (p : Int), .int .i64 (s : Int)] 27)).drew) := below_trans (below_alloc w _) (below_drew _)
  clear hr hcell hm hlen HR1
  go_enter Tryd.func49, Tryd.ntmps49
  go_upto_region 8 with fail
  refine wp_region_held_drew (S := (fun y : World => y.cell? ⟨bk, off + q1, none⟩ = some (.int .u8 z1) ∧ y.cell? ⟨bk, off + q2, none⟩ = some (.int .u8 z2))) (by kernel_rfl) (And.intro k1 k2) (fun hHeld => ?_)
  refine wpAnyH_take (i := 0) (oi := { dst := some 33, op := Op.move (Operand.tmp 0), type := 22, pos := "ref.go:204", after := #[], guard := none }) (v := ?v0p) rfl (by kernel_rfl) (by kernel_rfl) (by kernel_rfl) (fun _ _ _ h => h) (Or.inl ⟨by rfl, ?y0p⟩) (by assumption) ?r0p
  case y0p => (intro x hx; (try dsimp only at hx); go_simp; try with_reducible rfl)
  try simp only [Act.put, List.setIfInBounds_toArray, List.set_cons_zero, List.set_cons_succ]
  refine wpAnyH_take (i := 1) (oi := { dst := some 34, op := Op.move (Operand.tmp 1), type := 3, pos := "ref.go:204", after := #[], guard := none }) (v := ?v1p) rfl (by kernel_rfl) (by kernel_rfl) (by kernel_rfl) (fun _ _ _ h => h) (Or.inl ⟨by rfl, ?y1p⟩) (by assumption) ?r1p
  case y1p => (intro x hx; (try dsimp only at hx); go_simp; try with_reducible rfl)
  try simp only [Act.put, List.setIfInBounds_toArray, List.set_cons_zero, List.set_cons_succ]
  refine wpAnyH_take (i := 2) (oi := { dst := some 35, op := Op.binOp BinOp.add 3 (Operand.tmp 34) (Operand.const (Value.int IntKind.i64 1)) 3, type := 3, pos := "ref.go:204", after := #[{ on := 1, ground := Ground.data }], guard := none }) (v := ?v2p) rfl (by kernel_rfl) (by kernel_rfl) (by kernel_rfl) (fun _ _ _ h => h) (Or.inl ⟨by rfl, ?y2p⟩) (by assumption) ?r2p
  case y2p => (intro x hx; (try dsimp only at hx); go_simp; try with_reducible rfl)
  try simp only [Act.put, List.setIfInBounds_toArray, List.set_cons_zero, List.set_cons_succ]
  refine wpAnyH_take (i := 3) (oi := { dst := some 36, op := Op.indexAddr 22 (Operand.tmp 33) (Operand.tmp 35), type := 0, pos := "ref.go:204", after := #[{ on := 0, ground := Ground.data }, { on := 2, ground := Ground.data }], guard := none }) (v := ?v3p) rfl (by kernel_rfl) (by kernel_rfl) (by kernel_rfl) (fun _ _ _ h => h) (Or.inl ⟨by rfl, ?y3p⟩) (by assumption) ?r3p
  case y3p => (intro x hx; (try dsimp only at hx); go_simp; try with_reducible rfl)
  try simp only [Act.put, List.setIfInBounds_toArray, List.set_cons_zero, List.set_cons_succ]
  refine wpAnyH_take (i := 4) (oi := { dst := some 37, op := Op.load 5 (Operand.tmp 36), type := 5, pos := "ref.go:204", after := #[{ on := 3, ground := Ground.data }], guard := none }) (v := ?v4p) rfl (by kernel_rfl) (by kernel_rfl) (by kernel_rfl) (fun _ _ _ h => h) (Or.inl ⟨by rfl, ?y4p⟩) (by assumption) ?r4p
  case y4p => (intro x hx; (try dsimp only at hx); go_simp; try with_reducible rfl)
  try simp only [Act.put, List.setIfInBounds_toArray, List.set_cons_zero, List.set_cons_succ]
  refine wpAnyH_take (i := 5) (oi := { dst := some 38, op := Op.convert 5 3 (Operand.tmp 37), type := 3, pos := "ref.go:204", after := #[{ on := 4, ground := Ground.data }], guard := none }) (v := ?v5p) rfl (by kernel_rfl) (by kernel_rfl) (by kernel_rfl) (fun _ _ _ h => h) (Or.inl ⟨by rfl, ?y5p⟩) (by assumption) ?r5p
  case y5p => (intro x hx; (try dsimp only at hx); go_simp; try with_reducible rfl)
  try simp only [Act.put, List.setIfInBounds_toArray, List.set_cons_zero, List.set_cons_succ]
  refine wpAnyH_take (i := 6) (oi := { dst := some 39, op := Op.move (Operand.tmp 0), type := 22, pos := "ref.go:204", after := #[], guard := none }) (v := ?v6p) rfl (by kernel_rfl) (by kernel_rfl) (by kernel_rfl) (fun _ _ _ h => h) (Or.inl ⟨by rfl, ?y6p⟩) (by assumption) ?r6p
  case y6p => (intro x hx; (try dsimp only at hx); go_simp; try with_reducible rfl)
  try simp only [Act.put, List.setIfInBounds_toArray, List.set_cons_zero, List.set_cons_succ]
  refine wpAnyH_take (i := 7) (oi := { dst := some 40, op := Op.move (Operand.tmp 1), type := 3, pos := "ref.go:204", after := #[], guard := none }) (v := ?v7p) rfl (by kernel_rfl) (by kernel_rfl) (by kernel_rfl) (fun _ _ _ h => h) (Or.inl ⟨by rfl, ?y7p⟩) (by assumption) ?r7p
  case y7p => (intro x hx; (try dsimp only at hx); go_simp; try with_reducible rfl)
  try simp only [Act.put, List.setIfInBounds_toArray, List.set_cons_zero, List.set_cons_succ]
  refine wpAnyH_take (i := 8) (oi := { dst := some 41, op := Op.binOp BinOp.add 3 (Operand.tmp 40) (Operand.const (Value.int IntKind.i64 2)) 3, type := 3, pos := "ref.go:204", after := #[{ on := 7, ground := Ground.data }], guard := none }) (v := ?v8p) rfl (by kernel_rfl) (by kernel_rfl) (by kernel_rfl) (fun _ _ _ h => h) (Or.inl ⟨by rfl, ?y8p⟩) (by assumption) ?r8p
  case y8p => (intro x hx; (try dsimp only at hx); go_simp; try with_reducible rfl)
  try simp only [Act.put, List.setIfInBounds_toArray, List.set_cons_zero, List.set_cons_succ]
  refine wpAnyH_take (i := 9) (oi := { dst := some 42, op := Op.indexAddr 22 (Operand.tmp 39) (Operand.tmp 41), type := 0, pos := "ref.go:204", after := #[{ on := 6, ground := Ground.data }, { on := 8, ground := Ground.data }], guard := none }) (v := ?v9p) rfl (by kernel_rfl) (by kernel_rfl) (by kernel_rfl) (fun _ _ _ h => h) (Or.inl ⟨by rfl, ?y9p⟩) (by assumption) ?r9p
  case y9p => (intro x hx; (try dsimp only at hx); go_simp; try with_reducible rfl)
  try simp only [Act.put, List.setIfInBounds_toArray, List.set_cons_zero, List.set_cons_succ]
  refine wpAnyH_take (i := 10) (oi := { dst := some 43, op := Op.load 5 (Operand.tmp 42), type := 5, pos := "ref.go:204", after := #[{ on := 9, ground := Ground.data }], guard := none }) (v := ?v10p) rfl (by kernel_rfl) (by kernel_rfl) (by kernel_rfl) (fun _ _ _ h => h) (Or.inl ⟨by rfl, ?y10p⟩) (by assumption) ?r10p
  case y10p => (intro x hx; (try dsimp only at hx); go_simp; try with_reducible rfl)
  try simp only [Act.put, List.setIfInBounds_toArray, List.set_cons_zero, List.set_cons_succ]
  refine wpAnyH_take (i := 11) (oi := { dst := some 44, op := Op.convert 5 3 (Operand.tmp 43), type := 3, pos := "ref.go:204", after := #[{ on := 10, ground := Ground.data }], guard := none }) (v := ?v11p) rfl (by kernel_rfl) (by kernel_rfl) (by kernel_rfl) (fun _ _ _ h => h) (Or.inl ⟨by rfl, ?y11p⟩) (by assumption) ?r11p
  case y11p => (intro x hx; (try dsimp only at hx); go_simp; try with_reducible rfl)
  try simp only [Act.put, List.setIfInBounds_toArray, List.set_cons_zero, List.set_cons_succ]
  refine wpAnyH_take (i := 12) (oi := { dst := some 45, op := Op.binOp BinOp.mul 3 (Operand.const (Value.int IntKind.i64 256)) (Operand.tmp 44) 3, type := 3, pos := "ref.go:204", after := #[{ on := 11, ground := Ground.data }], guard := none }) (v := ?v12p) rfl (by kernel_rfl) (by kernel_rfl) (by kernel_rfl) (fun _ _ _ h => h) (Or.inl ⟨by rfl, ?y12p⟩) (by assumption) ?r12p
  case y12p => (intro x hx; (try dsimp only at hx); go_simp; try with_reducible rfl)
  try simp only [Act.put, List.setIfInBounds_toArray, List.set_cons_zero, List.set_cons_succ]
  refine wpAnyH_take (i := 13) (oi := { dst := some 46, op := Op.binOp BinOp.add 3 (Operand.tmp 38) (Operand.tmp 45) 3, type := 3, pos := "ref.go:204", after := #[{ on := 5, ground := Ground.data }, { on := 12, ground := Ground.data }], guard := none }) (v := ?v13p) rfl (by kernel_rfl) (by kernel_rfl) (by kernel_rfl) (fun _ _ _ h => h) (Or.inl ⟨by rfl, ?y13p⟩) (by assumption) ?r13p
  case y13p => (intro x hx; (try dsimp only at hx); go_simp; try with_reducible rfl)
  try simp only [Act.put, List.setIfInBounds_toArray, List.set_cons_zero, List.set_cons_succ]
  refine wpAnyH_take (i := 14) (oi := { dst := some 13, op := Op.assign (Operand.tmp 46), type := 3, pos := "ref.go:204", after := #[{ on := 13, ground := Ground.data }, { on := 0, ground := Ground.phase }, { on := 1, ground := Ground.phase }, { on := 2, ground := Ground.phase }, { on := 3, ground := Ground.phase }, { on := 4, ground := Ground.phase }, { on := 5, ground := Ground.phase }, { on := 6, ground := Ground.phase }, { on := 7, ground := Ground.phase }, { on := 8, ground := Ground.phase }, { on := 9, ground := Ground.phase }, { on := 10, ground := Ground.phase }, { on := 11, ground := Ground.phase }, { on := 12, ground := Ground.phase }, { on := 13, ground := Ground.phase }], guard := none }) (v := ?v14p) rfl (by kernel_rfl) (by kernel_rfl) (by kernel_rfl) (fun _ _ _ h => h) (Or.inl ⟨by rfl, ?y14p⟩) (by assumption) ?r14p
  case y14p => (intro x hx; (try dsimp only at hx); go_simp; try with_reducible rfl)
  try simp only [Act.put, List.setIfInBounds_toArray, List.set_cons_zero, List.set_cons_succ]
  refine wpAnyH_done (by kernel_rfl) ?_ _
  clear hHeld k0 k1 k2 wa1 wa2 d4 d5
  by_cases hm0 : m = 0 ∨ left < m
  · have HE : Hid (rdAt C S left at_ bs = .error 47) := by unfold Hid; rw [HRA.out, if_pos hm0]
    clear HRA
    rcases (show m = 0 ∨ (m ≠ 0 ∧ left < m) by omega) with h0 | ⟨h9, h0⟩
    · have e1 : (m : Int) < 1 := by omega
      go_wp2_with fail
      exact bodyPost_ret (v := .tuple #[.slice none 0 0, .int .i64 0, .int .i64 0, .int .i64 47]) (by simp [results, Tryd.results49, go_sem]) rfl ⟨by rw [HE.out]; exact ⟨by decide, rfl⟩, HB1.out⟩
    · have e1 : ¬ (m : Int) < 1 := by omega
      have e2 : (left : Int) < (m : Int) := by omega
      go_wp2_with fail
      exact bodyPost_ret (v := .tuple #[.slice none 0 0, .int .i64 0, .int .i64 0, .int .i64 47]) (by simp [results, Tryd.results49, go_sem]) rfl ⟨by rw [HE.out]; exact ⟨by decide, rfl⟩, HB1.out⟩
  · have HE : Hid (rdAt C S left at_ bs = .ok (z.toNat, m, [], at_ + 3)) := by unfold Hid; rw [HRA.out, if_neg hm0]
    have e1 : ¬ (m : Int) < 1 := by omega
    have e2 : ¬ (left : Int) < (m : Int) := by omega
    clear HRA hm0
    go_wp2_with fail
    exact bodyPost_ret (v := .tuple #[.slice none 0 0, .int .i64 (m : Int), .int .i64 ((at_ : Int) + 3), .int .i64 0]) (by simp [results, Tryd.results49, go_sem]) rfl ⟨by rw [HE.out]; exact ⟨_, rfl, World.ownsRow_nil _ _ _ _⟩, HB1.out⟩
set_option maxHeartbeats 2000000 in
set_option maxRecDepth 100000 in
theorem rpiece_told (a : Option Addr) (n c : Nat) (bs : List Int) (at_ b p s left : Nat) (w : World) (hr : Reads w a n bs) (hn : n ≤ 140737488355000) (hat : at_ ≤ n) (hs1 : 1 ≤ s) (hs2 : s ≤ 8) (hlf : left ≤ 65536) (C S : Nat) (hC : 256 * s = C) (hS : 54 + 3 * s = S) (h3 : at_ + 3 ≤ n) (h2 : ¬ 2 < bs.getD at_ 0) (hz : bs.getD at_ 0 = 1) :
    Calls Tryd.prog 49 #[.slice a n c, .int .i64 (at_ : Int), .agg #[.int .i64 (b : Int), .int .i64 (p : Int), .int .i64 (s : Int)], .int .i64 (left : Int)] w fun e w' => PcR w w' e (rdAt C S left at_ bs) ∧ Below w.heap.size w w' := by
  have hlen := hr.1
  have d1 : ¬ (n : Int) ≤ (at_ : Int) := by omega
  have d2 : (at_ : Int) < (n : Int) := by omega
  have d3 : ¬ (n : Int) < (at_ : Int) + 3 := by omega
  have HR1 : Hid (Reads (w.alloc (.cells #[.int .i64 (b : Int), .int .i64 (p : Int), .int .i64 (s : Int)] 27)) a n bs) := hr.below (below_alloc w _)
  obtain ⟨bk, off, rfl, hbk, hcell⟩ := HR1.out.pos (by omega)
  have k0 := hcell at_ (by omega)
  have k1 := hcell (at_ + 1) (by omega)
  have k2 := hcell (at_ + 2) (by omega)
  have b0 := byt_getD hr.2.1 at_
  have b1 := byt_getD hr.2.1 (at_ + 1)
  have b2 := byt_getD hr.2.1 (at_ + 2)
  have HRA : Hid (rdAt C S left at_ bs = if bs.getD at_ 0 ≠ 1 then
      if (bs.getD (at_ + 1) 0 + 256 * bs.getD (at_ + 2) 0).toNat = 0 ∨ left < (bs.getD (at_ + 1) 0 + 256 * bs.getD (at_ + 2) 0).toNat then .error 47
      else .ok ((bs.getD at_ 0).toNat, (bs.getD (at_ + 1) 0 + 256 * bs.getD (at_ + 2) 0).toNat, [], at_ + 3)
    else if C < (bs.getD (at_ + 1) 0 + 256 * bs.getD (at_ + 2) 0).toNat then .error 47
    else if n < at_ + 3 + (bs.getD (at_ + 1) 0 + 256 * bs.getD (at_ + 2) 0).toNat + S then .error 10
    else .ok (1, 1, (bs.drop (at_ + 3)).take (bs.getD (at_ + 1) 0 + 256 * bs.getD (at_ + 2) 0).toNat ++ List.replicate (C - (bs.getD (at_ + 1) 0 + 256 * bs.getD (at_ + 2) 0).toNat) 255 ++ (bs.drop (at_ + 3 + (bs.getD (at_ + 1) 0 + 256 * bs.getD (at_ + 2) 0).toNat)).take S,
      at_ + 3 + (bs.getD (at_ + 1) 0 + 256 * bs.getD (at_ + 2) 0).toNat + S)) := by
    unfold Hid rdAt
    rw [if_neg (by omega), if_neg h2, if_neg (by omega), hlen]
  generalize bs.getD at_ 0 = z at HRA k0 h2 b0 hz
  generalize bs.getD (at_ + 1) 0 = z1 at HRA k1 b1
  generalize bs.getD (at_ + 2) 0 = z2 at HRA k2 b2
  obtain ⟨m, hm⟩ := Int.eq_ofNat_of_zero_le (show 0 ≤ z1 + 256 * z2 by omega)
  have hm2 : m ≤ 65535 := by omega
  have wz : IntKind.i64.wrap z = z := by rw [IntKind.wrap_i64]; omega
  have wz1 : IntKind.i64.wrap z1 = z1 := by rw [IntKind.wrap_i64]; omega
  have wz2 : IntKind.i64.wrap z2 = z2 := by rw [IntKind.wrap_i64]; omega
  have wz3 : IntKind.i64.wrap (256 * z2) = 256 * z2 := by rw [IntKind.wrap_i64]; omega
  have wm : IntKind.i64.wrap (z1 + 256 * z2) = (m : Int) := by rw [IntKind.wrap_i64]; omega
  rw [hm, Int.toNat_natCast] at HRA
  obtain ⟨q1, hq1⟩ : ∃ q1, at_ + 1 = q1 := ⟨_, rfl⟩
  obtain ⟨q2, hq2⟩ : ∃ q2, at_ + 2 = q2 := ⟨_, rfl⟩
  have wa1 : IntKind.i64.wrap ((at_ : Int) + 1) = (q1 : Int) := by rw [IntKind.wrap_i64]; omega
  have wa2 : IntKind.i64.wrap ((at_ : Int) + 2) = (q2 : Int) := by rw [IntKind.wrap_i64]; omega
  have d4 : (q1 : Int) < (n : Int) := by omega
  have d5 : (q2 : Int) < (n : Int) := by omega
  rw [hq1] at k1
  rw [hq2] at k2
  clear hq1 hq2
  rw [if_neg (by simpa using hz)] at HRA
  subst hz
  have HB1 : Hid (Below w.heap.size w (w.alloc (.cells #[.int .i64 (b : Int), .int .i64 (p : Int), .int .i64 (s : Int)] 27)).drew) := below_trans (below_alloc w _) (below_drew _)
  have HR2 : Hid (Reads w (some ⟨bk, off, none⟩) n bs) := hr
  have HM1 : Hid ((w.alloc (.cells #[.int .i64 (b : Int), .int .i64 (p : Int), .int .i64 (s : Int)] 27)).drew.heap[w.heap.size]? = some (.cells #[.int .i64 (b : Int), .int .i64 (p : Int), .int .i64 (s : Int)] 27 (0, 0))) := heap_alloc_new w _
  have HBY : Hid (∀ x ∈ bs, 0 ≤ x ∧ x ≤ 255) := hr.2.1
  have HLEN : Hid (bs.length = n) := hlen
  clear hr hcell hm hlen HR1
  go_enter Tryd.func49, Tryd.ntmps49
  go_upto_region 8 with fail
  refine wp_region_held_drew (S := (fun y : World => y.cell? ⟨bk, off + q1, none⟩ = some (.int .u8 z1) ∧ y.cell? ⟨bk, off + q2, none⟩ = some (.int .u8 z2))) (by kernel_rfl) (And.intro k1 k2) (fun hHeld => ?_)
  refine wpAnyH_take (i := 0) (oi := { dst := some 33, op := Op.move (Operand.tmp 0), type := 22, pos := "ref.go:204", after := #[], guard := none }) (v := ?v0p) rfl (by kernel_rfl) (by kernel_rfl) (by kernel_rfl) (fun _ _ _ h => h) (Or.inl ⟨by rfl, ?y0p⟩) (by assumption) ?r0p
  case y0p => (intro x hx; (try dsimp only at hx); go_simp; try with_reducible rfl)
  try simp only [Act.put, List.setIfInBounds_toArray, List.set_cons_zero, List.set_cons_succ]
  refine wpAnyH_take (i := 1) (oi := { dst := some 34, op := Op.move (Operand.tmp 1), type := 3, pos := "ref.go:204", after := #[], guard := none }) (v := ?v1p) rfl (by kernel_rfl) (by kernel_rfl) (by kernel_rfl) (fun _ _ _ h => h) (Or.inl ⟨by rfl, ?y1p⟩) (by assumption) ?r1p
  case y1p => (intro x hx; (try dsimp only at hx); go_simp; try with_reducible rfl)
  try simp only [Act.put, List.setIfInBounds_toArray, List.set_cons_zero, List.set_cons_succ]
  refine wpAnyH_take (i := 2) (oi := { dst := some 35, op := Op.binOp BinOp.add 3 (Operand.tmp 34) (Operand.const (Value.int IntKind.i64 1)) 3, type := 3, pos := "ref.go:204", after := #[{ on := 1, ground := Ground.data }], guard := none }) (v := ?v2p) rfl (by kernel_rfl) (by kernel_rfl) (by kernel_rfl) (fun _ _ _ h => h) (Or.inl ⟨by rfl, ?y2p⟩) (by assumption) ?r2p
  case y2p => (intro x hx; (try dsimp only at hx); go_simp; try with_reducible rfl)
  try simp only [Act.put, List.setIfInBounds_toArray, List.set_cons_zero, List.set_cons_succ]
  refine wpAnyH_take (i := 3) (oi := { dst := some 36, op := Op.indexAddr 22 (Operand.tmp 33) (Operand.tmp 35), type := 0, pos := "ref.go:204", after := #[{ on := 0, ground := Ground.data }, { on := 2, ground := Ground.data }], guard := none }) (v := ?v3p) rfl (by kernel_rfl) (by kernel_rfl) (by kernel_rfl) (fun _ _ _ h => h) (Or.inl ⟨by rfl, ?y3p⟩) (by assumption) ?r3p
  case y3p => (intro x hx; (try dsimp only at hx); go_simp; try with_reducible rfl)
  try simp only [Act.put, List.setIfInBounds_toArray, List.set_cons_zero, List.set_cons_succ]
  refine wpAnyH_take (i := 4) (oi := { dst := some 37, op := Op.load 5 (Operand.tmp 36), type := 5, pos := "ref.go:204", after := #[{ on := 3, ground := Ground.data }], guard := none }) (v := ?v4p) rfl (by kernel_rfl) (by kernel_rfl) (by kernel_rfl) (fun _ _ _ h => h) (Or.inl ⟨by rfl, ?y4p⟩) (by assumption) ?r4p
  case y4p => (intro x hx; (try dsimp only at hx); go_simp; try with_reducible rfl)
  try simp only [Act.put, List.setIfInBounds_toArray, List.set_cons_zero, List.set_cons_succ]
  refine wpAnyH_take (i := 5) (oi := { dst := some 38, op := Op.convert 5 3 (Operand.tmp 37), type := 3, pos := "ref.go:204", after := #[{ on := 4, ground := Ground.data }], guard := none }) (v := ?v5p) rfl (by kernel_rfl) (by kernel_rfl) (by kernel_rfl) (fun _ _ _ h => h) (Or.inl ⟨by rfl, ?y5p⟩) (by assumption) ?r5p
  case y5p => (intro x hx; (try dsimp only at hx); go_simp; try with_reducible rfl)
  try simp only [Act.put, List.setIfInBounds_toArray, List.set_cons_zero, List.set_cons_succ]
  refine wpAnyH_take (i := 6) (oi := { dst := some 39, op := Op.move (Operand.tmp 0), type := 22, pos := "ref.go:204", after := #[], guard := none }) (v := ?v6p) rfl (by kernel_rfl) (by kernel_rfl) (by kernel_rfl) (fun _ _ _ h => h) (Or.inl ⟨by rfl, ?y6p⟩) (by assumption) ?r6p
  case y6p => (intro x hx; (try dsimp only at hx); go_simp; try with_reducible rfl)
  try simp only [Act.put, List.setIfInBounds_toArray, List.set_cons_zero, List.set_cons_succ]
  refine wpAnyH_take (i := 7) (oi := { dst := some 40, op := Op.move (Operand.tmp 1), type := 3, pos := "ref.go:204", after := #[], guard := none }) (v := ?v7p) rfl (by kernel_rfl) (by kernel_rfl) (by kernel_rfl) (fun _ _ _ h => h) (Or.inl ⟨by rfl, ?y7p⟩) (by assumption) ?r7p
  case y7p => (intro x hx; (try dsimp only at hx); go_simp; try with_reducible rfl)
  try simp only [Act.put, List.setIfInBounds_toArray, List.set_cons_zero, List.set_cons_succ]
  refine wpAnyH_take (i := 8) (oi := { dst := some 41, op := Op.binOp BinOp.add 3 (Operand.tmp 40) (Operand.const (Value.int IntKind.i64 2)) 3, type := 3, pos := "ref.go:204", after := #[{ on := 7, ground := Ground.data }], guard := none }) (v := ?v8p) rfl (by kernel_rfl) (by kernel_rfl) (by kernel_rfl) (fun _ _ _ h => h) (Or.inl ⟨by rfl, ?y8p⟩) (by assumption) ?r8p
  case y8p => (intro x hx; (try dsimp only at hx); go_simp; try with_reducible rfl)
  try simp only [Act.put, List.setIfInBounds_toArray, List.set_cons_zero, List.set_cons_succ]
  refine wpAnyH_take (i := 9) (oi := { dst := some 42, op := Op.indexAddr 22 (Operand.tmp 39) (Operand.tmp 41), type := 0, pos := "ref.go:204", after := #[{ on := 6, ground := Ground.data }, { on := 8, ground := Ground.data }], guard := none }) (v := ?v9p) rfl (by kernel_rfl) (by kernel_rfl) (by kernel_rfl) (fun _ _ _ h => h) (Or.inl ⟨by rfl, ?y9p⟩) (by assumption) ?r9p
  case y9p => (intro x hx; (try dsimp only at hx); go_simp; try with_reducible rfl)
  try simp only [Act.put, List.setIfInBounds_toArray, List.set_cons_zero, List.set_cons_succ]
  refine wpAnyH_take (i := 10) (oi := { dst := some 43, op := Op.load 5 (Operand.tmp 42), type := 5, pos := "ref.go:204", after := #[{ on := 9, ground := Ground.data }], guard := none }) (v := ?v10p) rfl (by kernel_rfl) (by kernel_rfl) (by kernel_rfl) (fun _ _ _ h => h) (Or.inl ⟨by rfl, ?y10p⟩) (by assumption) ?r10p
  case y10p => (intro x hx; (try dsimp only at hx); go_simp; try with_reducible rfl)
  try simp only [Act.put, List.setIfInBounds_toArray, List.set_cons_zero, List.set_cons_succ]
  refine wpAnyH_take (i := 11) (oi := { dst := some 44, op := Op.convert 5 3 (Operand.tmp 43), type := 3, pos := "ref.go:204", after := #[{ on := 10, ground := Ground.data }], guard := none }) (v := ?v11p) rfl (by kernel_rfl) (by kernel_rfl) (by kernel_rfl) (fun _ _ _ h => h) (Or.inl ⟨by rfl, ?y11p⟩) (by assumption) ?r11p
  case y11p => (intro x hx; (try dsimp only at hx); go_simp; try with_reducible rfl)
  try simp only [Act.put, List.setIfInBounds_toArray, List.set_cons_zero, List.set_cons_succ]
  refine wpAnyH_take (i := 12) (oi := { dst := some 45, op := Op.binOp BinOp.mul 3 (Operand.const (Value.int IntKind.i64 256)) (Operand.tmp 44) 3, type := 3, pos := "ref.go:204", after := #[{ on := 11, ground := Ground.data }], guard := none }) (v := ?v12p) rfl (by kernel_rfl) (by kernel_rfl) (by kernel_rfl) (fun _ _ _ h => h) (Or.inl ⟨by rfl, ?y12p⟩) (by assumption) ?r12p
  case y12p => (intro x hx; (try dsimp only at hx); go_simp; try with_reducible rfl)
  try simp only [Act.put, List.setIfInBounds_toArray, List.set_cons_zero, List.set_cons_succ]
  refine wpAnyH_take (i := 13) (oi := { dst := some 46, op := Op.binOp BinOp.add 3 (Operand.tmp 38) (Operand.tmp 45) 3, type := 3, pos := "ref.go:204", after := #[{ on := 5, ground := Ground.data }, { on := 12, ground := Ground.data }], guard := none }) (v := ?v13p) rfl (by kernel_rfl) (by kernel_rfl) (by kernel_rfl) (fun _ _ _ h => h) (Or.inl ⟨by rfl, ?y13p⟩) (by assumption) ?r13p
  case y13p => (intro x hx; (try dsimp only at hx); go_simp; try with_reducible rfl)
  try simp only [Act.put, List.setIfInBounds_toArray, List.set_cons_zero, List.set_cons_succ]
  refine wpAnyH_take (i := 14) (oi := { dst := some 13, op := Op.assign (Operand.tmp 46), type := 3, pos := "ref.go:204", after := #[{ on := 13, ground := Ground.data }, { on := 0, ground := Ground.phase }, { on := 1, ground := Ground.phase }, { on := 2, ground := Ground.phase }, { on := 3, ground := Ground.phase }, { on := 4, ground := Ground.phase }, { on := 5, ground := Ground.phase }, { on := 6, ground := Ground.phase }, { on := 7, ground := Ground.phase }, { on := 8, ground := Ground.phase }, { on := 9, ground := Ground.phase }, { on := 10, ground := Ground.phase }, { on := 11, ground := Ground.phase }, { on := 12, ground := Ground.phase }, { on := 13, ground := Ground.phase }], guard := none }) (v := ?v14p) rfl (by kernel_rfl) (by kernel_rfl) (by kernel_rfl) (fun _ _ _ h => h) (Or.inl ⟨by rfl, ?y14p⟩) (by assumption) ?r14p
  case y14p => (intro x hx; (try dsimp only at hx); go_simp; try with_reducible rfl)
  try simp only [Act.put, List.setIfInBounds_toArray, List.set_cons_zero, List.set_cons_succ]
  refine wpAnyH_done (by kernel_rfl) ?_ _
  clear hHeld k0 k1 k2 wa1 wa2 d4 d5
  obtain ⟨W, hW⟩ : ∃ W, (w.alloc (.cells #[.int .i64 (b : Int), .int .i64 (p : Int), .int .i64 (s : Int)] 27)).drew = W := ⟨_, rfl⟩
  rw [hW] at HB1 HM1 ⊢
  clear hW
  obtain ⟨x0, x1, x2, x3, x4, x5⟩ := blk3_cells HM1.out
  clear x3 x4 x5
  have eC : 256 * (s : Int) = (C : Int) := by omega
  have HS : Hid (54 + 3 * (s : Int) = (S : Int)) := by unfold Hid; omega
  have hC2 : C ≤ 2048 := by omega
  have hS2 : S ≤ 100 := by omega
  have hs3 : (1 : Int) ≤ (s : Int) ∧ (s : Int) ≤ 8 := by omega
  clear hC hS
  by_cases hc : C < m
  · have HE : Hid (rdAt C S left at_ bs = .error 47) := by unfold Hid; rw [HRA.out, if_pos hc]
    have e1 : (C : Int) < (m : Int) := by omega
    clear HRA
    go_wp2_with fail
    exact bodyPost_ret (v := .tuple #[.slice none 0 0, .int .i64 0, .int .i64 0, .int .i64 47]) (by simp [results, Tryd.results49, go_sem]) rfl ⟨by rw [HE.out]; exact ⟨by decide, rfl⟩, HB1.out⟩
  · have e1 : ¬ (C : Int) < (m : Int) := by omega
    have SP : ∀ u : World, Calls Tryd.prog 69 #[.agg #[.int .i64 (b : Int), .int .i64 (p : Int), .int .i64 (s : Int)]] u fun e w' => e = .returned (.int .i64 (S : Int)) ∧ Below u.heap.size u w' := fun u => by
      have h9 := rspare_any (b : Int) (p : Int) (s : Int) u hs3.1 hs3.2
      rw [HS.out] at h9
      exact h9
    rw [if_neg hc] at HRA
    obtain ⟨q3, hq3⟩ : ∃ q3, at_ + 3 = q3 := ⟨_, rfl⟩
    obtain ⟨q4, hq4⟩ : ∃ q4, q3 + m = q4 := ⟨_, rfl⟩
    obtain ⟨q5, hq5⟩ : ∃ q5, q4 + S = q5 := ⟨_, rfl⟩
    have f3 : (at_ : Int) + 3 = (q3 : Int) := by omega
    have f4 : (q3 : Int) + (m : Int) = (q4 : Int) := by omega
    have f5 : (q4 : Int) + (S : Int) = (q5 : Int) := by omega
    have HQ : Hid (q3 ≤ n ∧ q3 + m = q4 ∧ q4 + S = q5 ∧ q5 ≤ 300000000000000) := ⟨by omega, hq4, hq5, by omega⟩
    have hb5 : q5 ≤ 300000000000000 := by omega
    have hb4 : q4 ≤ 300000000000000 := by omega
    rw [hq3, hq4, hq5] at HRA
    clear hq3 hq4 hq5
    by_cases hc2 : n < q5
    · have HE : Hid (rdAt C S left at_ bs = .error 10) := by unfold Hid; rw [HRA.out, if_pos hc2]
      have e2 : (n : Int) < (q5 : Int) := by omega
      clear HRA
      go_wp2_with (first
        | (go_at_call 69; refine (SP _).mono ?_; rintro e u1 ⟨rfl, bl⟩
           have HB2 : Hid (Below w.heap.size w u1) := below_trans HB1.out bl
           clear bl x0 x1 x2))
      exact bodyPost_ret (v := .tuple #[.slice none 0 0, .int .i64 0, .int .i64 0, .int .i64 10]) (by simp [results, Tryd.results49, go_sem]) rfl ⟨by rw [HE.out]; exact ⟨by decide, rfl⟩, HB2.out⟩
    · have e2 : ¬ (n : Int) < (q5 : Int) := by omega
      obtain ⟨T1, hT1⟩ : ∃ T1, (bs.drop q3).take m = T1 := ⟨_, rfl⟩
      obtain ⟨T2, hT2⟩ : ∃ T2, (bs.drop q4).take S = T2 := ⟨_, rfl⟩
      have HL1 : Hid (T1.length = m) := by unfold Hid; rw [← hT1, List.length_take, List.length_drop, HLEN.out]; have := HQ.out; omega
      have HL2 : Hid (T2.length = S) := by unfold Hid; rw [← hT2, List.length_take, List.length_drop, HLEN.out]; have := HQ.out; omega
      have HP1 : Hid (q4 - q3 = m ∧ (bs.drop q3).take m = T1) := ⟨by have := HQ.out; omega, hT1⟩
      have HP2 : Hid (q5 - q4 = S ∧ (bs.drop q4).take S = T2) := ⟨by have := HQ.out; omega, hT2⟩
      have HY2 : Hid (∀ x ∈ T2, 0 ≤ x ∧ x ≤ 255) := fun x hx => HBY.out x (List.mem_of_mem_drop (List.mem_of_mem_take (by rw [hT2]; exact hx)))
      have HY1 : Hid (∀ k, ∀ x ∈ T1 ++ List.replicate k (255 : Int), 0 ≤ x ∧ x ≤ 255) := fun k x hx => by
        rcases List.mem_append.1 hx with h8 | h8
        · exact HBY.out x (List.mem_of_mem_drop (List.mem_of_mem_take (by rw [hT1]; exact h8)))
        · rw [List.eq_of_mem_replicate h8]; omega
      have HE : Hid (rdAt C S left at_ bs = .ok (1, 1, T1 ++ List.replicate (C - m) 255 ++ T2, q5)) := by unfold Hid; rw [HRA.out, if_neg hc2, hT1, hT2]
      clear hT1 hT2 HRA
      go_wp2_with (first
        | (go_at_call 69; refine (SP _).mono ?_; rintro e u1 ⟨rfl, bl⟩
           have HB2 : Hid (Below w.heap.size w u1) := below_trans HB1.out bl
           clear bl x0 x1 x2)
        | (go_at_call 26; refine (part_any (some ⟨bk, off, none⟩) n c q3 q4 bs _ (by omega) (by have := HQ.out; omega) (by have := HQ.out; omega) (HR2.out.below HB2.out)).mono ?_; rintro e u2 ⟨v2, rfl, own1, bl⟩; rw [HP1.out.1, HP1.out.2] at own1
           have HB3 : Hid (Below w.heap.size w u2) := below_trans HB2.out bl
           have HO3 : Hid (u2.ownsRow w.heap.size 5 1 v2 m (T1.map (Value.int .u8))) := ownsRow_base own1 HB2.out.size
           clear own1 bl))
      go_loopg [16] (C - m) (fun gh s16 wr => ∃ k : Nat, m + k ≤ C ∧ C - (m + k) ≤ gh ∧ Hid (wr.ownsRow w.heap.size 5 1 s16 (m + k) ((T1 ++ List.replicate k (255 : Int)).map (Value.int .u8))) ∧ Hid (Below w.heap.size w wr))
      case atStart => exact ⟨0, by omega, by omega, by rw [Nat.add_zero, List.replicate_zero, List.append_nil]; exact HO3.out, HB3.out⟩
      case round =>
        obtain ⟨k, hk, hkg, HO, HB⟩ := hrel
        obtain ⟨ad, cd, rfl, rd⟩ := own_any HO.out (HY1.out k)
        clear rd
        obtain ⟨mk, hmk⟩ : ∃ mk, m + k = mk := ⟨_, rfl⟩
        rw [hmk] at HO hkg hk ⊢
        have HMK : Hid (m + k = mk) := hmk
        clear hmk
        by_cases hlt : mk < C
        · have dl : (mk : Int) < (C : Int) := by omega
          go_wp2_with (first
            | (at_builtin; refine wpList_append_reads rfl (.tmp 88) (.tmp 89) rfl w.heap.size (.slice ad mk cd) mk (T1 ++ List.replicate k (255 : Int)) rfl (HO.out.alloc _) _ 1 1 [255] rfl (reads_new wr [255] (by intro x hx; rw [List.mem_singleton.1 hx]; omega)) (by omega) (by have := HB.out.size; simp; omega) ?_; intro v4 w4 own2 grow2
               have HB4 : Hid (Below w.heap.size w w4) := (HB.out.alloc HB.out.size _).grown grow2 (by have := HB.out.size; simp; omega) (fun q hq => (HO.out.lt q hq).1)
               have HO4 : Hid (w4.ownsRow w.heap.size 5 1 v4 (mk + 1) ((T1 ++ List.replicate (k + 1) (255 : Int)).map (Value.int .u8))) := by unfold Hid; rw [← rep_snoc]; exact own2
               clear own2 grow2))
          go_roundg (C - (mk + 1))
          case measure => omega
          case rel => exact ⟨k + 1, by have := HMK.out; omega, by have := HMK.out; omega, by rw [← Nat.add_assoc, HMK.out]; exact HO4.out, HB4.out⟩
        · have dl : ¬ (mk : Int) < (C : Int) := by omega
          have HKC : Hid (k = C - m) := by have := HMK.out; unfold Hid; omega
          go_wp2_with (first
            | (go_at_call 26; refine (part_any (some ⟨bk, off, none⟩) n c q4 q5 bs _ (by omega) (by have := HQ.out; omega) (by have := HQ.out; omega) (HR2.out.below HB.out)).mono ?_; rintro e u5 ⟨v5, rfl, own1, bl⟩; rw [HP2.out.1, HP2.out.2] at own1
               obtain ⟨ad5, cd5, rfl, rd5⟩ := own_any own1 HY2.out
               have HB5 : Hid (Below w.heap.size w u5) := below_trans HB.out bl
               have HO5 : Hid (u5.ownsRow w.heap.size 5 1 (.slice ad mk cd) mk ((T1 ++ List.replicate k (255 : Int)).map (Value.int .u8))) := row_below HO.out bl
               have HD5 : Hid (Reads u5 ad5 S T2) := rd5
               clear own1 bl rd5)
            | (at_builtin; refine wpList_append_reads rfl (.tmp 91) (.tmp 98) rfl w.heap.size (.slice ad mk cd) mk (T1 ++ List.replicate k (255 : Int)) rfl HO5.out ad5 S cd5 T2 rfl HD5.out (by omega) HB5.out.size ?_; intro v6 w6 own2 grow2
               have HB6 : Hid (Below w.heap.size w w6) := HB5.out.grown grow2 HB5.out.size (fun q hq => (HO5.out.lt q hq).1)
               have HO6 : Hid (w6.ownsRow w.heap.size 5 1 v6 (mk + S) ((T1 ++ List.replicate k (255 : Int) ++ T2).map (Value.int .u8))) := own2
               clear own2 grow2))
          refine bodyPost_ret (v := .tuple #[v6, .int .i64 1, .int .i64 (q5 : Int), .int .i64 0]) (by simp [results, Tryd.results49, go_sem]) rfl ⟨?_, HB6.out⟩
          rw [HE.out]
          refine ⟨v6, rfl, ?_⟩
          have h9 := HO6.out
          rw [HKC.out] at h9
          rw [show (T1 ++ List.replicate (C - m) (255 : Int) ++ T2).length = mk + S by simp [HL1.out, HL2.out]; have := HMK.out; have := HKC.out; omega]
          exact h9
theorem rpiece_any (a : Option Addr) (n c : Nat) (bs : List Int) (at_ b p s left : Nat) (w : World) (hr : Reads w a n bs) (hn : n ≤ 140737488355000) (hat : at_ ≤ n) (hs1 : 1 ≤ s) (hs2 : s ≤ 8) (hlf : left ≤ 65536) (C S : Nat) (hC : 256 * s = C) (hS : 54 + 3 * s = S) :
    Calls Tryd.prog 49 #[.slice a n c, .int .i64 (at_ : Int), .agg #[.int .i64 (b : Int), .int .i64 (p : Int), .int .i64 (s : Int)], .int .i64 (left : Int)] w fun e w' => PcR w w' e (rdAt C S left at_ bs) ∧ Below w.heap.size w w' := by
  by_cases h1 : n ≤ at_
  · exact rpiece_none a n c bs at_ b p s left w hr hn hat hs1 hs2 hlf C S hC hS h1
  · by_cases h2 : 2 < bs.getD at_ 0
    · exact rpiece_kind a n c bs at_ b p s left w hr hn hat hs1 hs2 hlf C S hC hS (by omega) h2
    · by_cases h3 : n < at_ + 3
      · exact rpiece_short a n c bs at_ b p s left w hr hn hat hs1 hs2 hlf C S hC hS (by omega) h2 h3
      · by_cases hz : bs.getD at_ 0 = 1
        · exact rpiece_told a n c bs at_ b p s left w hr hn hat hs1 hs2 hlf C S hC hS (by omega) h2 hz
        · exact rpiece_run a n c bs at_ b p s left w hr hn hat hs1 hs2 hlf C S hC hS (by omega) h2 hz

end Go.Proofs.YteefekhlbillfaaDoor
