/-
  SEAT Ytjginocbbnmgaaa: one call of both: Put, Drop, Cut.
-/
import Derived.Test.YtjginocbbnmgaaaTpN
namespace Go.Proofs.Ytjginocbbnmgaaa
open Go.RowKit
set_option linter.unusedVariables false
variable {bx : Nat}

theorem below_alloc (w : World) (o : Obj) : Below w.heap.size w (w.alloc o) := (Below.refl _ w).alloc (Nat.le_refl _) _
theorem below_drew (w : World) : Below w.heap.size w w.drew := ⟨rfl, rfl, rfl, Nat.le_refl _, fun _ _ => rfl⟩
/-- The box of a call. -/
def BxOn (x : World) (B : Nat) (q k v : Int) : Prop := x.heap[B]? = some (.cells #[.int .i64 q, .int .i64 k, .int .i64 v] 64 (0, 0))
theorem BxOn.cells {x : World} {B : Nat} {q k v : Int} (h : BxOn x B q k v) : x.cell? ⟨B, 0, none⟩ = some (.int .i64 q) ∧ x.cell? ⟨B, 1, none⟩ = some (.int .i64 k) ∧ x.cell? ⟨B, 2, none⟩ = some (.int .i64 v) := by
  unfold BxOn at h
  refine ⟨?_, ?_, ?_⟩
  · rw [cell_of_row _ _ 0 _ 64 (0, 0) h]; rfl
  · rw [cell_of_row _ _ 1 _ 64 (0, 0) h]; rfl
  · rw [cell_of_row _ _ 2 _ 64 (0, 0) h]; rfl
theorem BxOn.new (w : World) (q k v : Int) : BxOn (w.alloc (.cells #[.int .i64 q, .int .i64 k, .int .i64 v] 64)) w.heap.size q k v := heap_alloc_new _ _
theorem RefOn.below {A B : World} {gr : Nat} {v : Value} {L : List (Int × Int)} (h : RefOn A gr v L) (hb : Below A.heap.size A B) : RefOn B gr v L := ⟨(hb.block gr (lt_of_block h.1)).trans h.1, h.2.1.below hb, h.2.2⟩
theorem DuoX.below {A B : World} {gt gr h : Nat} {M : Mp} {v : Value} (hD : DuoX bx A gt gr h M v) (hb : Below A.heap.size A B) : DuoX bx B gt gr h M v := ⟨hD.tree.below hb, hD.ref.below hb⟩
theorem BxOn.below {x y : World} {B : Nat} {q k v : Int} (h : BxOn x B q k v) (hb : Below x.heap.size x y) : BxOn y B q k v := (hb.block B (lt_of_block h)).trans h
theorem BxOn.grown {x y : World} {B gt : Nat} {q k v : Int} (h : BxOn x B q k v) {h' : Nat} {M : Mp} (hT : TreeX bx x gt h' M) (hg : x.grownBy y (some gt)) : BxOn y B q k v := by
  obtain ⟨p1, p2, p3, hb⟩ := hT.box
  refine (hg.block B (lt_of_block h) (fun e => ?_)).trans h
  injection e with e
  unfold BxOn at h
  rw [e, hb] at h
  injection h with h
  injection h with _ h
  cases h
theorem BxOn.chg {x y : World} {B gr : Nat} {q k v : Int} (h : BxOn x B q k v) {u u' : Value} {L : List (Int × Int)} (hR : RefOn x gr u L) (hc : Chg x y gr u u') : BxOn y B q k v := by
  refine (hc.block B (lt_of_block h) (fun e => ?_) (fun e => ?_)).trans h
  · have h2 := hR.1
    rw [← e] at h2
    unfold BxOn at h
    rw [h] at h2
    injection h2 with h2
    injection h2 with _ h2
    cases h2
  · obtain ⟨cur, h2⟩ := hR.row e
    unfold BxOn at h
    rw [h] at h2
    injection h2 with h2
    injection h2 with _ h2
    cases h2
theorem Chg2.pre {A B C : World} {gt gr : Nat} {v v' : Value} (hb : Below A.heap.size A B) (h : Chg2 B C gt gr v v') : Chg2 A C gt gr v v' :=
  ⟨h.os.trans hb.os, h.tape.trans hb.tape, h.output.trans hb.output, Nat.le_trans hb.size h.size,
    fun i hi a b c => (h.block i (Nat.lt_of_lt_of_le hi hb.size) a b c).trans (hb.block i hi),
    fun q hq => (h.own q hq).imp id (fun h2 => Nat.le_trans hb.size h2)⟩
theorem Chg2.post {A B C : World} {gt gr : Nat} {v v' : Value} (h : Chg2 A B gt gr v v') (hb : Below B.heap.size B C) : Chg2 A C gt gr v v' :=
  ⟨hb.os.trans h.os, hb.tape.trans h.tape, hb.output.trans h.output, Nat.le_trans h.size hb.size,
    fun i hi a b c => (hb.block i (Nat.lt_of_lt_of_le hi h.size)).trans (h.block i hi a b c), h.own⟩
theorem Chg2.refl (A : World) (gt gr : Nat) (v : Value) : Chg2 A A gt gr v v := ⟨rfl, rfl, rfl, Nat.le_refl _, fun _ _ _ _ _ => rfl, fun _ h => Or.inl h⟩
theorem Chg2.of_below {A B : World} {gt gr : Nat} {v : Value} (hb : Below A.heap.size A B) : Chg2 A B gt gr v v := (Chg2.refl A gt gr v).post hb
/-- Both lie behind a call of the program's and of the reference's. -/
theorem DuoX.both {A B C : World} {gt gr h h' : Nat} {M M' : Mp} {v v' : Value} (hD : DuoX bx A gt gr h M v) (hT : TreeX bx B gt h' M') (hg : A.grownBy B (some gt)) (hR : RefOn C gr v' (allOf M')) (hc : Chg B C gr v v') : DuoX bx C gt gr h' M' v' :=
  ⟨hT.chg (hD.ref.grown hD.tree hg) hc, hR⟩

theorem put_m (gt h : Nat) (k x : Int) (M : Mp) (w : World) (hT : TreeX bx w gt h M) :
    Calls Try.prog 16 #[.pointer (some ⟨gt, 0, none⟩), .int .i64 k, .int .i64 x] w fun e w' => ∃ h', e = .returned (.int .i64 (if k < 0 ∨ 1048575 < k then 90 else 0)) ∧ TreeX bx w' gt h' (if k < 0 ∨ 1048575 < k then M else upd M k.toNat x) ∧ w.grownBy w' (some gt) := by
  by_cases hk : k < 0 ∨ 1048575 < k
  · rw [if_pos hk, if_pos hk]
    refine (put_bad gt h k x 0 w hk).mono ?_
    rintro e w' ⟨rfl, rfl⟩
    exact ⟨h, rfl, hT, World.grownBy.refl _ _⟩
  · rw [if_neg hk, if_neg hk]
    obtain ⟨n, rfl⟩ : ∃ n : Nat, k = n := ⟨k.toNat, by omega⟩
    exact put_any gt h n x M w hT (by omega)

/-- What a call of both comes to. -/
def Playd (w w' : World) (gt gr : Nat) (v : Value) (e : Ending) : Prop := e = .returned (.bool true) ∧ ∃ h' M' v', Duo w' gt gr h' M' v' ∧ Chg2 w w' gt gr v v'

set_option maxHeartbeats 2000000 in
set_option maxRecDepth 100000 in
theorem plays_put (gt gr h : Nat) (k x : Int) (M : Mp) (v : Value) (w : World) (hD : Duo w gt gr h M v) (hk : -9223372036854775808 ≤ k ∧ k < 9223372036854775808) :
    Calls Try.prog 32 #[.pointer (some ⟨gt, 0, none⟩), .pointer (some ⟨gr, 0, none⟩), .agg #[.int .i64 1, .int .i64 k, .int .i64 x]] w fun e w' => Playd w w' gt gr v e := by
  have hb0 : Below w.heap.size w (w.alloc (.cells #[.int .i64 1, .int .i64 k, .int .i64 x] 64)) := below_alloc w _
  have HD0 : Hid (Duo (w.alloc (.cells #[.int .i64 1, .int .i64 k, .int .i64 x] 64)).drew gt gr h M v) := (hD.below hb0).below (below_drew _)
  have HX0 : Hid (BxOn (w.alloc (.cells #[.int .i64 1, .int .i64 k, .int .i64 x] 64)).drew w.heap.size 1 k x) := (BxOn.new w 1 k x).below (below_drew _)
  have HBD : Hid (Below w.heap.size w (w.alloc (.cells #[.int .i64 1, .int .i64 k, .int .i64 x] 64)).drew) := hb0.trans ((below_drew _).mono hb0.size)
  obtain ⟨c0, c1, c2⟩ := (BxOn.new w 1 k x).cells
  obtain ⟨M1, hM1⟩ : ∃ M1, (if k < 0 ∨ 1048575 < k then M else upd M k.toNat x) = M1 := ⟨_, rfl⟩
  have HPM : Hid ((if k < 0 ∨ 1048575 < k then M else upd M k.toNat x) = M1) := hM1
  obtain ⟨E, hE⟩ : ∃ E : Int, (if k < 0 ∨ 1048575 < k then (90 : Int) else 0) = E := ⟨_, rfl⟩
  have HPE : Hid ((if k < 0 ∨ 1048575 < k then (90 : Int) else 0) = E) := hE
  clear hM1 hE
  clear hD
  go_enter Try.func32, Try.ntmps32
  go_upto_region 3 with fail
  refine wp_region_held_drew (S := (fun y : World => y.cell? ⟨w.heap.size, 0, none⟩ = some (.int .i64 1) ∧ y.cell? ⟨w.heap.size, 1, none⟩ = some (.int .i64 k) ∧ y.cell? ⟨w.heap.size, 2, none⟩ = some (.int .i64 x))) (by kernel_rfl) (HX0.out.cells) (fun hHeld => ?_)
  refine wpAnyH_take (i := 0) (oi := { dst := some 16, op := Op.move (Operand.tmp 0), type := 24, pos := "law.go:91", after := #[], guard := none }) (v := ?v0p1) rfl (by kernel_rfl) (by kernel_rfl) (by kernel_rfl) (fun _ _ _ h => h) (Or.inl ⟨by rfl, ?y0p1⟩) (by assumption) ?r0p1
  case y0p1 => (intro x hx; (try dsimp only at hx); go_simp; try with_reducible rfl)
  try simp only [Act.put, List.setIfInBounds_toArray, List.set_cons_zero, List.set_cons_succ]
  refine wpAnyH_take (i := 1) (oi := { dst := some 17, op := Op.fieldAddr 64 (Operand.tmp 5) 1, type := 0, pos := "law.go:91", after := #[], guard := none }) (v := ?v1p1) rfl (by kernel_rfl) (by kernel_rfl) (by kernel_rfl) (fun _ _ _ h => h) (Or.inl ⟨by rfl, ?y1p1⟩) (by assumption) ?r1p1
  case y1p1 => (intro x hx; (try dsimp only at hx); go_simp; try with_reducible rfl)
  try simp only [Act.put, List.setIfInBounds_toArray, List.set_cons_zero, List.set_cons_succ]
  refine wpAnyH_take (i := 2) (oi := { dst := some 18, op := Op.load 3 (Operand.tmp 17), type := 3, pos := "law.go:91", after := #[{ on := 1, ground := Ground.data }], guard := none }) (v := ?v2p1) rfl (by kernel_rfl) (by kernel_rfl) (by kernel_rfl) (fun _ _ _ h => h) (Or.inl ⟨by rfl, ?y2p1⟩) (by assumption) ?r2p1
  case y2p1 => (intro x hx; (try dsimp only at hx); go_simp; try with_reducible rfl)
  try simp only [Act.put, List.setIfInBounds_toArray, List.set_cons_zero, List.set_cons_succ]
  refine wpAnyH_take (i := 3) (oi := { dst := some 19, op := Op.fieldAddr 64 (Operand.tmp 5) 2, type := 0, pos := "law.go:91", after := #[], guard := none }) (v := ?v3p1) rfl (by kernel_rfl) (by kernel_rfl) (by kernel_rfl) (fun _ _ _ h => h) (Or.inl ⟨by rfl, ?y3p1⟩) (by assumption) ?r3p1
  case y3p1 => (intro x hx; (try dsimp only at hx); go_simp; try with_reducible rfl)
  try simp only [Act.put, List.setIfInBounds_toArray, List.set_cons_zero, List.set_cons_succ]
  refine wpAnyH_take (i := 4) (oi := { dst := some 20, op := Op.load 3 (Operand.tmp 19), type := 3, pos := "law.go:91", after := #[{ on := 3, ground := Ground.data }], guard := none }) (v := ?v4p1) rfl (by kernel_rfl) (by kernel_rfl) (by kernel_rfl) (fun _ _ _ h => h) (Or.inl ⟨by rfl, ?y4p1⟩) (by assumption) ?r4p1
  case y4p1 => (intro x hx; (try dsimp only at hx); go_simp; try with_reducible rfl)
  try simp only [Act.put, List.setIfInBounds_toArray, List.set_cons_zero, List.set_cons_succ]
  refine wpAnyH_take (i := 7) (oi := { dst := some 23, op := Op.move (Operand.tmp 1), type := 59, pos := "law.go:91", after := #[], guard := none }) (v := ?v7p1) rfl (by kernel_rfl) (by kernel_rfl) (by kernel_rfl) (fun _ _ _ h => h) (Or.inl ⟨by rfl, ?y7p1⟩) (by assumption) ?r7p1
  case y7p1 => (intro x hx; (try dsimp only at hx); go_simp; try with_reducible rfl)
  try simp only [Act.put, List.setIfInBounds_toArray, List.set_cons_zero, List.set_cons_succ]
  refine wpAnyH_take (i := 8) (oi := { dst := some 24, op := Op.fieldAddr 64 (Operand.tmp 5) 1, type := 0, pos := "law.go:91", after := #[], guard := none }) (v := ?v8p1) rfl (by kernel_rfl) (by kernel_rfl) (by kernel_rfl) (fun _ _ _ h => h) (Or.inl ⟨by rfl, ?y8p1⟩) (by assumption) ?r8p1
  case y8p1 => (intro x hx; (try dsimp only at hx); go_simp; try with_reducible rfl)
  try simp only [Act.put, List.setIfInBounds_toArray, List.set_cons_zero, List.set_cons_succ]
  refine wpAnyH_take (i := 9) (oi := { dst := some 25, op := Op.load 3 (Operand.tmp 24), type := 3, pos := "law.go:91", after := #[{ on := 8, ground := Ground.data }], guard := none }) (v := ?v9p1) rfl (by kernel_rfl) (by kernel_rfl) (by kernel_rfl) (fun _ _ _ h => h) (Or.inl ⟨by rfl, ?y9p1⟩) (by assumption) ?r9p1
  case y9p1 => (intro x hx; (try dsimp only at hx); go_simp; try with_reducible rfl)
  try simp only [Act.put, List.setIfInBounds_toArray, List.set_cons_zero, List.set_cons_succ]
  refine wpAnyH_take (i := 10) (oi := { dst := some 26, op := Op.fieldAddr 64 (Operand.tmp 5) 2, type := 0, pos := "law.go:91", after := #[], guard := none }) (v := ?v10p1) rfl (by kernel_rfl) (by kernel_rfl) (by kernel_rfl) (fun _ _ _ h => h) (Or.inl ⟨by rfl, ?y10p1⟩) (by assumption) ?r10p1
  case y10p1 => (intro x hx; (try dsimp only at hx); go_simp; try with_reducible rfl)
  try simp only [Act.put, List.setIfInBounds_toArray, List.set_cons_zero, List.set_cons_succ]
  refine wpAnyH_take (i := 11) (oi := { dst := some 27, op := Op.load 3 (Operand.tmp 26), type := 3, pos := "law.go:91", after := #[{ on := 10, ground := Ground.data }], guard := none }) (v := ?v11p1) rfl (by kernel_rfl) (by kernel_rfl) (by kernel_rfl) (fun _ _ _ h => h) (Or.inl ⟨by rfl, ?y11p1⟩) (by assumption) ?r11p1
  case y11p1 => (intro x hx; (try dsimp only at hx); go_simp; try with_reducible rfl)
  try simp only [Act.put, List.setIfInBounds_toArray, List.set_cons_zero, List.set_cons_succ]
  refine wpAnyH_ready (rs := [5]) (by kernel_rfl) (by simp) ?_
  refine AllReadyH.cons (o := { dst := some 21, op := Op.call { callee := Callee.value (Operand.func 16), args := #[Operand.tmp 16, Operand.tmp 18, Operand.tmp 20], argTypes := #[24, 3, 3] }, type := 32, pos := "law.go:91", after := #[{ on := 0, ground := Ground.data }, { on := 2, ground := Ground.data }, { on := 4, ground := Ground.data }], guard := none }) rfl (fun K hK => ?_) AllReadyH.nil
  go_simp
  go_at_call 16
  refine (put_m gt h k x M _ HD0.out.tree).mono ?_
  rintro e u1 ⟨h1, rfl, t1, g1⟩
  rw [HPM.out] at t1
  rw [HPE.out]
  have HT1 : Hid (Tree u1 gt h1 M1) := t1
  have HG1 : Hid (World.grownBy _ u1 (some gt)) := g1
  have HX1 : Hid (BxOn u1 w.heap.size 1 k x) := HX0.out.grown HD0.out.tree g1
  have HR1 : Hid (RefOn u1 gr v (allOf M)) := HD0.out.ref.grown HD0.out.tree g1
  have hSnew := HX1.out.cells
  clear t1 g1
  go_wp2_with fail
  refine hK.out _ _ hSnew (fun hHeld5 => ?_)
  clear hK K hSnew
  clear hHeld
  have hHeld := hHeld5
  clear hHeld5
  try simp only [Act.put, List.setIfInBounds_toArray, List.set_cons_zero, List.set_cons_succ]
  refine wpAnyH_ready (rs := [6]) (by kernel_rfl) (by simp) ?_
  refine AllReadyH.cons (o := { dst := some 22, op := Op.call { callee := Callee.value (Operand.func 20), args := #[Operand.tmp 21], argTypes := #[32] }, type := 3, pos := "law.go:91", after := #[{ on := 5, ground := Ground.data }, { on := 5, ground := Ground.chain }], guard := none }) rfl (fun K hK => ?_) AllReadyH.nil
  go_simp
  go_at_call 20
  refine (no_any _ _).mono ?_
  rintro e u9 ⟨rfl, hu9⟩
  rw [← hu9]
  clear hu9
  have hSnew := HX1.out.cells
  go_wp2_with fail
  refine hK.out _ _ hSnew (fun hHeld6 => ?_)
  clear hK K hSnew
  clear hHeld
  have hHeld := hHeld6
  clear hHeld6
  try simp only [Act.put, List.setIfInBounds_toArray, List.set_cons_zero, List.set_cons_succ]
  refine wpAnyH_ready (rs := [12]) (by kernel_rfl) (by simp) ?_
  refine AllReadyH.cons (o := { dst := some 28, op := Op.call { callee := Callee.value (Operand.func 45), args := #[Operand.tmp 23, Operand.tmp 25, Operand.tmp 27], argTypes := #[59, 3, 3] }, type := 3, pos := "law.go:91", after := #[{ on := 7, ground := Ground.data }, { on := 9, ground := Ground.data }, { on := 11, ground := Ground.data }, { on := 6, ground := Ground.chain }], guard := none }) rfl (fun K hK => ?_) AllReadyH.nil
  go_simp
  go_at_call 45
  refine (rput_m gr k x v M _ HR1.out).mono ?_
  rintro e u2 ⟨rfl, v2, r2, ch2⟩
  rw [HPM.out] at r2
  rw [HPE.out]
  have HR2 : Hid (RefOn u2 gr v2 (allOf M1)) := r2
  have HC2 : Hid (Chg u1 u2 gr v v2) := ch2
  have HX2 : Hid (BxOn u2 w.heap.size 1 k x) := HX1.out.chg HR1.out ch2
  have hSnew := HX2.out.cells
  clear r2 ch2
  go_wp2_with fail
  refine hK.out _ _ hSnew (fun hHeld12 => ?_)
  clear hK K hSnew
  clear hHeld
  have hHeld := hHeld12
  clear hHeld12
  try simp only [Act.put, List.setIfInBounds_toArray, List.set_cons_zero, List.set_cons_succ]
  refine wpAnyH_take (i := 13) (oi := { dst := some 29, op := Op.binOp BinOp.eql 3 (Operand.tmp 22) (Operand.tmp 28) 3, type := 4, pos := "law.go:91", after := #[{ on := 6, ground := Ground.data }, { on := 12, ground := Ground.data }], guard := none }) (v := ?v13p1) rfl (by kernel_rfl) (by kernel_rfl) (by kernel_rfl) (fun _ _ _ h => h) (Or.inl ⟨by rfl, ?y13p1⟩) (by assumption) ?r13p1
  case y13p1 => (intro x hx; (try dsimp only at hx); go_simp; try with_reducible rfl)
  try simp only [Act.put, List.setIfInBounds_toArray, List.set_cons_zero, List.set_cons_succ]
  refine wpAnyH_take (i := 14) (oi := { dst := some 6, op := Op.assign (Operand.tmp 29), type := 4, pos := "law.go:91", after := #[{ on := 13, ground := Ground.data }, { on := 12, ground := Ground.chain }, { on := 0, ground := Ground.phase }, { on := 1, ground := Ground.phase }, { on := 2, ground := Ground.phase }, { on := 3, ground := Ground.phase }, { on := 4, ground := Ground.phase }, { on := 5, ground := Ground.phase }, { on := 6, ground := Ground.phase }, { on := 7, ground := Ground.phase }, { on := 8, ground := Ground.phase }, { on := 9, ground := Ground.phase }, { on := 10, ground := Ground.phase }, { on := 11, ground := Ground.phase }, { on := 12, ground := Ground.phase }, { on := 13, ground := Ground.phase }], guard := none }) (v := ?v14p1) rfl (by kernel_rfl) (by kernel_rfl) (by kernel_rfl) (fun _ _ _ h => h) (Or.inl ⟨by rfl, ?y14p1⟩) (by assumption) ?r14p1
  case y14p1 => (intro x hx; (try dsimp only at hx); go_simp; try with_reducible rfl)
  try simp only [Act.put, List.setIfInBounds_toArray, List.set_cons_zero, List.set_cons_succ]
  refine wpAnyH_done (by kernel_rfl) ?_ _
  go_wp2
  go_ret
  exact ⟨rfl, h1, _, v2, HD0.out.both HT1.out HG1.out HR2.out HC2.out, Chg2.pre HBD.out (Chg2.of HG1.out HC2.out)⟩

set_option maxHeartbeats 2000000 in
set_option maxRecDepth 100000 in
theorem plays_drop (gt gr h : Nat) (k x : Int) (M : Mp) (v : Value) (w : World) (hD : Duo w gt gr h M v) (hk : -9223372036854775808 ≤ k ∧ k < 9223372036854775808) :
    Calls Try.prog 32 #[.pointer (some ⟨gt, 0, none⟩), .pointer (some ⟨gr, 0, none⟩), .agg #[.int .i64 3, .int .i64 k, .int .i64 x]] w fun e w' => Playd w w' gt gr v e := by
  have hb0 : Below w.heap.size w (w.alloc (.cells #[.int .i64 3, .int .i64 k, .int .i64 x] 64)) := below_alloc w _
  have HD0 : Hid (Duo (w.alloc (.cells #[.int .i64 3, .int .i64 k, .int .i64 x] 64)).drew gt gr h M v) := (hD.below hb0).below (below_drew _)
  have HX0 : Hid (BxOn (w.alloc (.cells #[.int .i64 3, .int .i64 k, .int .i64 x] 64)).drew w.heap.size 3 k x) := (BxOn.new w 3 k x).below (below_drew _)
  have HBD : Hid (Below w.heap.size w (w.alloc (.cells #[.int .i64 3, .int .i64 k, .int .i64 x] 64)).drew) := hb0.trans ((below_drew _).mono hb0.size)
  obtain ⟨c0, c1, c2⟩ := (BxOn.new w 3 k x).cells
  have HOUT : Hid (∀ j, 1048576 ≤ j → M j = none) := fun j hj => hD.tree.out hj
  clear hD
  go_enter Try.func32, Try.ntmps32
  go_upto_region 9 with fail
  refine wp_region_held_drew (S := (fun y : World => y.cell? ⟨w.heap.size, 0, none⟩ = some (.int .i64 3) ∧ y.cell? ⟨w.heap.size, 1, none⟩ = some (.int .i64 k) ∧ y.cell? ⟨w.heap.size, 2, none⟩ = some (.int .i64 x))) (by kernel_rfl) (HX0.out.cells) (fun hHeld => ?_)
  refine wpAnyH_take (i := 0) (oi := { dst := some 56, op := Op.move (Operand.tmp 0), type := 24, pos := "law.go:97", after := #[], guard := none }) (v := ?v0p3) rfl (by kernel_rfl) (by kernel_rfl) (by kernel_rfl) (fun _ _ _ h => h) (Or.inl ⟨by rfl, ?y0p3⟩) (by assumption) ?r0p3
  case y0p3 => (intro x hx; (try dsimp only at hx); go_simp; try with_reducible rfl)
  try simp only [Act.put, List.setIfInBounds_toArray, List.set_cons_zero, List.set_cons_succ]
  refine wpAnyH_take (i := 1) (oi := { dst := some 57, op := Op.fieldAddr 64 (Operand.tmp 5) 1, type := 0, pos := "law.go:97", after := #[], guard := none }) (v := ?v1p3) rfl (by kernel_rfl) (by kernel_rfl) (by kernel_rfl) (fun _ _ _ h => h) (Or.inl ⟨by rfl, ?y1p3⟩) (by assumption) ?r1p3
  case y1p3 => (intro x hx; (try dsimp only at hx); go_simp; try with_reducible rfl)
  try simp only [Act.put, List.setIfInBounds_toArray, List.set_cons_zero, List.set_cons_succ]
  refine wpAnyH_take (i := 2) (oi := { dst := some 58, op := Op.load 3 (Operand.tmp 57), type := 3, pos := "law.go:97", after := #[{ on := 1, ground := Ground.data }], guard := none }) (v := ?v2p3) rfl (by kernel_rfl) (by kernel_rfl) (by kernel_rfl) (fun _ _ _ h => h) (Or.inl ⟨by rfl, ?y2p3⟩) (by assumption) ?r2p3
  case y2p3 => (intro x hx; (try dsimp only at hx); go_simp; try with_reducible rfl)
  try simp only [Act.put, List.setIfInBounds_toArray, List.set_cons_zero, List.set_cons_succ]
  refine wpAnyH_take (i := 4) (oi := { dst := some 60, op := Op.move (Operand.tmp 1), type := 59, pos := "law.go:97", after := #[], guard := none }) (v := ?v4p3) rfl (by kernel_rfl) (by kernel_rfl) (by kernel_rfl) (fun _ _ _ h => h) (Or.inl ⟨by rfl, ?y4p3⟩) (by assumption) ?r4p3
  case y4p3 => (intro x hx; (try dsimp only at hx); go_simp; try with_reducible rfl)
  try simp only [Act.put, List.setIfInBounds_toArray, List.set_cons_zero, List.set_cons_succ]
  refine wpAnyH_take (i := 5) (oi := { dst := some 61, op := Op.fieldAddr 64 (Operand.tmp 5) 1, type := 0, pos := "law.go:97", after := #[], guard := none }) (v := ?v5p3) rfl (by kernel_rfl) (by kernel_rfl) (by kernel_rfl) (fun _ _ _ h => h) (Or.inl ⟨by rfl, ?y5p3⟩) (by assumption) ?r5p3
  case y5p3 => (intro x hx; (try dsimp only at hx); go_simp; try with_reducible rfl)
  try simp only [Act.put, List.setIfInBounds_toArray, List.set_cons_zero, List.set_cons_succ]
  refine wpAnyH_take (i := 6) (oi := { dst := some 62, op := Op.load 3 (Operand.tmp 61), type := 3, pos := "law.go:97", after := #[{ on := 5, ground := Ground.data }], guard := none }) (v := ?v6p3) rfl (by kernel_rfl) (by kernel_rfl) (by kernel_rfl) (fun _ _ _ h => h) (Or.inl ⟨by rfl, ?y6p3⟩) (by assumption) ?r6p3
  case y6p3 => (intro x hx; (try dsimp only at hx); go_simp; try with_reducible rfl)
  try simp only [Act.put, List.setIfInBounds_toArray, List.set_cons_zero, List.set_cons_succ]
  refine wpAnyH_ready (rs := [3]) (by kernel_rfl) (by simp) ?_
  refine AllReadyH.cons (o := { dst := some 59, op := Op.call { callee := Callee.value (Operand.func 17), args := #[Operand.tmp 56, Operand.tmp 58], argTypes := #[24, 3] }, type := 4, pos := "law.go:97", after := #[{ on := 0, ground := Ground.data }, { on := 2, ground := Ground.data }], guard := none }) rfl (fun K hK => ?_) AllReadyH.nil
  go_simp
  go_at_call 17
  refine (drop_any gt h k M _ HD0.out.tree hk).mono ?_
  rintro e u1 ⟨h1, rfl, t1, g1⟩
  have HT1 : Hid (Tree u1 gt h1 (del M k)) := t1
  have HG1 : Hid (World.grownBy _ u1 (some gt)) := g1
  have HX1 : Hid (BxOn u1 w.heap.size 3 k x) := HX0.out.grown HD0.out.tree g1
  have HR1 : Hid (RefOn u1 gr v (allOf M)) := HD0.out.ref.grown HD0.out.tree g1
  have hSnew := HX1.out.cells
  clear t1 g1
  go_wp2_with fail
  refine hK.out _ _ hSnew (fun hHeld3 => ?_)
  clear hK K hSnew
  clear hHeld
  have hHeld := hHeld3
  clear hHeld3
  try simp only [Act.put, List.setIfInBounds_toArray, List.set_cons_zero, List.set_cons_succ]
  refine wpAnyH_ready (rs := [7]) (by kernel_rfl) (by simp) ?_
  refine AllReadyH.cons (o := { dst := some 63, op := Op.call { callee := Callee.value (Operand.func 47), args := #[Operand.tmp 60, Operand.tmp 62], argTypes := #[59, 3] }, type := 4, pos := "law.go:97", after := #[{ on := 4, ground := Ground.data }, { on := 6, ground := Ground.data }, { on := 3, ground := Ground.chain }], guard := none }) rfl (fun K hK => ?_) AllReadyH.nil
  go_simp
  go_at_call 47
  refine (rdrop_m gr k v M _ HR1.out HOUT.out).mono ?_
  rintro e u2 ⟨rfl, v2, r2, ch2⟩
  have HR2 : Hid (RefOn u2 gr v2 (allOf (del M k))) := r2
  have HC2 : Hid (Chg u1 u2 gr v v2) := ch2
  have HX2 : Hid (BxOn u2 w.heap.size 3 k x) := HX1.out.chg HR1.out ch2
  have hSnew := HX2.out.cells
  clear r2 ch2
  go_wp2_with fail
  refine hK.out _ _ hSnew (fun hHeld7 => ?_)
  clear hK K hSnew
  clear hHeld
  have hHeld := hHeld7
  clear hHeld7
  try simp only [Act.put, List.setIfInBounds_toArray, List.set_cons_zero, List.set_cons_succ]
  refine wpAnyH_take (i := 8) (oi := { dst := some 64, op := Op.binOp BinOp.eql 4 (Operand.tmp 59) (Operand.tmp 63) 4, type := 4, pos := "law.go:97", after := #[{ on := 3, ground := Ground.data }, { on := 7, ground := Ground.data }], guard := none }) (v := ?v8p3) rfl (by kernel_rfl) (by kernel_rfl) (by kernel_rfl) (fun _ _ _ h => h) (Or.inl ⟨by rfl, ?y8p3⟩) (by assumption) ?r8p3
  case y8p3 => (intro x hx; (try dsimp only at hx); go_simp; try with_reducible rfl)
  try simp only [Act.put, List.setIfInBounds_toArray, List.set_cons_zero, List.set_cons_succ]
  refine wpAnyH_take (i := 9) (oi := { dst := some 6, op := Op.assign (Operand.tmp 64), type := 4, pos := "law.go:97", after := #[{ on := 8, ground := Ground.data }, { on := 7, ground := Ground.chain }, { on := 0, ground := Ground.phase }, { on := 1, ground := Ground.phase }, { on := 2, ground := Ground.phase }, { on := 3, ground := Ground.phase }, { on := 4, ground := Ground.phase }, { on := 5, ground := Ground.phase }, { on := 6, ground := Ground.phase }, { on := 7, ground := Ground.phase }, { on := 8, ground := Ground.phase }], guard := none }) (v := ?v9p3) rfl (by kernel_rfl) (by kernel_rfl) (by kernel_rfl) (fun _ _ _ h => h) (Or.inl ⟨by rfl, ?y9p3⟩) (by assumption) ?r9p3
  case y9p3 => (intro x hx; (try dsimp only at hx); go_simp; try with_reducible rfl)
  try simp only [Act.put, List.setIfInBounds_toArray, List.set_cons_zero, List.set_cons_succ]
  refine wpAnyH_done (by kernel_rfl) ?_ _
  go_wp2
  go_ret
  exact ⟨rfl, h1, _, v2, HD0.out.both HT1.out HG1.out HR2.out HC2.out, Chg2.pre HBD.out (Chg2.of HG1.out HC2.out)⟩

set_option maxHeartbeats 2000000 in
set_option maxRecDepth 100000 in
theorem plays_cut (gt gr h : Nat) (k x : Int) (M : Mp) (v : Value) (w : World) (hD : Duo w gt gr h M v) (hk : -9223372036854775808 ≤ k ∧ k < 9223372036854775808) :
    Calls Try.prog 32 #[.pointer (some ⟨gt, 0, none⟩), .pointer (some ⟨gr, 0, none⟩), .agg #[.int .i64 4, .int .i64 k, .int .i64 x]] w fun e w' => Playd w w' gt gr v e := by
  have hb0 : Below w.heap.size w (w.alloc (.cells #[.int .i64 4, .int .i64 k, .int .i64 x] 64)) := below_alloc w _
  have HD0 : Hid (Duo (w.alloc (.cells #[.int .i64 4, .int .i64 k, .int .i64 x] 64)).drew gt gr h M v) := (hD.below hb0).below (below_drew _)
  have HX0 : Hid (BxOn (w.alloc (.cells #[.int .i64 4, .int .i64 k, .int .i64 x] 64)).drew w.heap.size 4 k x) := (BxOn.new w 4 k x).below (below_drew _)
  have HBD : Hid (Below w.heap.size w (w.alloc (.cells #[.int .i64 4, .int .i64 k, .int .i64 x] 64)).drew) := hb0.trans ((below_drew _).mono hb0.size)
  obtain ⟨c0, c1, c2⟩ := (BxOn.new w 4 k x).cells
  obtain ⟨C, hC⟩ : ∃ C, cnt (hit M (max k 0) 1048576) 1048576 = C := ⟨_, rfl⟩
  have HCN : Hid (cnt (hit M (max k 0) 1048576) 1048576 = C) := hC
  clear hC
  clear hD
  go_enter Try.func32, Try.ntmps32
  go_upto_region 11 with fail
  refine wp_region_held_drew (S := (fun y : World => y.cell? ⟨w.heap.size, 0, none⟩ = some (.int .i64 4) ∧ y.cell? ⟨w.heap.size, 1, none⟩ = some (.int .i64 k) ∧ y.cell? ⟨w.heap.size, 2, none⟩ = some (.int .i64 x))) (by kernel_rfl) (HX0.out.cells) (fun hHeld => ?_)
  refine wpAnyH_take (i := 0) (oi := { dst := some 67, op := Op.move (Operand.tmp 0), type := 24, pos := "law.go:99", after := #[], guard := none }) (v := ?v0p4) rfl (by kernel_rfl) (by kernel_rfl) (by kernel_rfl) (fun _ _ _ h => h) (Or.inl ⟨by rfl, ?y0p4⟩) (by assumption) ?r0p4
  case y0p4 => (intro x hx; (try dsimp only at hx); go_simp; try with_reducible rfl)
  try simp only [Act.put, List.setIfInBounds_toArray, List.set_cons_zero, List.set_cons_succ]
  refine wpAnyH_take (i := 1) (oi := { dst := some 68, op := Op.fieldAddr 64 (Operand.tmp 5) 1, type := 0, pos := "law.go:99", after := #[], guard := none }) (v := ?v1p4) rfl (by kernel_rfl) (by kernel_rfl) (by kernel_rfl) (fun _ _ _ h => h) (Or.inl ⟨by rfl, ?y1p4⟩) (by assumption) ?r1p4
  case y1p4 => (intro x hx; (try dsimp only at hx); go_simp; try with_reducible rfl)
  try simp only [Act.put, List.setIfInBounds_toArray, List.set_cons_zero, List.set_cons_succ]
  refine wpAnyH_take (i := 2) (oi := { dst := some 69, op := Op.load 3 (Operand.tmp 68), type := 3, pos := "law.go:99", after := #[{ on := 1, ground := Ground.data }], guard := none }) (v := ?v2p4) rfl (by kernel_rfl) (by kernel_rfl) (by kernel_rfl) (fun _ _ _ h => h) (Or.inl ⟨by rfl, ?y2p4⟩) (by assumption) ?r2p4
  case y2p4 => (intro x hx; (try dsimp only at hx); go_simp; try with_reducible rfl)
  try simp only [Act.put, List.setIfInBounds_toArray, List.set_cons_zero, List.set_cons_succ]
  refine wpAnyH_take (i := 4) (oi := { dst := some 71, op := Op.move (Operand.tmp 1), type := 59, pos := "law.go:99", after := #[], guard := none }) (v := ?v4p4) rfl (by kernel_rfl) (by kernel_rfl) (by kernel_rfl) (fun _ _ _ h => h) (Or.inl ⟨by rfl, ?y4p4⟩) (by assumption) ?r4p4
  case y4p4 => (intro x hx; (try dsimp only at hx); go_simp; try with_reducible rfl)
  try simp only [Act.put, List.setIfInBounds_toArray, List.set_cons_zero, List.set_cons_succ]
  refine wpAnyH_take (i := 5) (oi := { dst := some 72, op := Op.fieldAddr 64 (Operand.tmp 5) 1, type := 0, pos := "law.go:99", after := #[], guard := none }) (v := ?v5p4) rfl (by kernel_rfl) (by kernel_rfl) (by kernel_rfl) (fun _ _ _ h => h) (Or.inl ⟨by rfl, ?y5p4⟩) (by assumption) ?r5p4
  case y5p4 => (intro x hx; (try dsimp only at hx); go_simp; try with_reducible rfl)
  try simp only [Act.put, List.setIfInBounds_toArray, List.set_cons_zero, List.set_cons_succ]
  refine wpAnyH_take (i := 6) (oi := { dst := some 73, op := Op.load 3 (Operand.tmp 72), type := 3, pos := "law.go:99", after := #[{ on := 5, ground := Ground.data }], guard := none }) (v := ?v6p4) rfl (by kernel_rfl) (by kernel_rfl) (by kernel_rfl) (fun _ _ _ h => h) (Or.inl ⟨by rfl, ?y6p4⟩) (by assumption) ?r6p4
  case y6p4 => (intro x hx; (try dsimp only at hx); go_simp; try with_reducible rfl)
  try simp only [Act.put, List.setIfInBounds_toArray, List.set_cons_zero, List.set_cons_succ]
  refine wpAnyH_ready (rs := [3]) (by kernel_rfl) (by simp) ?_
  refine AllReadyH.cons (o := { dst := some 70, op := Op.call { callee := Callee.value (Operand.func 11), args := #[Operand.tmp 67, Operand.tmp 69], argTypes := #[24, 3] }, type := 3, pos := "law.go:99", after := #[{ on := 0, ground := Ground.data }, { on := 2, ground := Ground.data }], guard := none }) rfl (fun K hK => ?_) AllReadyH.nil
  go_simp
  go_at_call 11
  refine (cut_any gt h k M _ HD0.out.tree hk).mono ?_
  rintro e u1 ⟨h1, rfl, t1, g1⟩
  rw [HCN.out]
  have HT1 : Hid (Tree u1 gt h1 (cutFrom M k)) := t1
  have HG1 : Hid (World.grownBy _ u1 (some gt)) := g1
  have HX1 : Hid (BxOn u1 w.heap.size 4 k x) := HX0.out.grown HD0.out.tree g1
  have HR1 : Hid (RefOn u1 gr v (allOf M)) := HD0.out.ref.grown HD0.out.tree g1
  have hSnew := HX1.out.cells
  clear t1 g1
  go_wp2_with fail
  refine hK.out _ _ hSnew (fun hHeld3 => ?_)
  clear hK K hSnew
  clear hHeld
  have hHeld := hHeld3
  clear hHeld3
  try simp only [Act.put, List.setIfInBounds_toArray, List.set_cons_zero, List.set_cons_succ]
  refine wpAnyH_ready (rs := [7]) (by kernel_rfl) (by simp) ?_
  refine AllReadyH.cons (o := { dst := some 74, op := Op.call { callee := Callee.value (Operand.func 48), args := #[Operand.tmp 71, Operand.tmp 73], argTypes := #[59, 3] }, type := 3, pos := "law.go:99", after := #[{ on := 4, ground := Ground.data }, { on := 6, ground := Ground.data }, { on := 3, ground := Ground.chain }], guard := none }) rfl (fun K hK => ?_) AllReadyH.nil
  go_simp
  go_at_call 48
  refine (rcut_m gr k v M _ HR1.out).mono ?_
  rintro e u2 ⟨rfl, v2, r2, ch2⟩
  rw [HCN.out]
  have HR2 : Hid (RefOn u2 gr v2 (allOf (cutFrom M k))) := r2
  have HC2 : Hid (Chg u1 u2 gr v v2) := ch2
  have HX2 : Hid (BxOn u2 w.heap.size 4 k x) := HX1.out.chg HR1.out ch2
  have hSnew := HX2.out.cells
  clear r2 ch2
  go_wp2_with fail
  refine hK.out _ _ hSnew (fun hHeld7 => ?_)
  clear hK K hSnew
  clear hHeld
  have hHeld := hHeld7
  clear hHeld7
  try simp only [Act.put, List.setIfInBounds_toArray, List.set_cons_zero, List.set_cons_succ]
  refine wpAnyH_take (i := 8) (oi := { dst := some 75, op := Op.binOp BinOp.eql 3 (Operand.tmp 70) (Operand.tmp 74) 3, type := 4, pos := "law.go:99", after := #[{ on := 3, ground := Ground.data }, { on := 7, ground := Ground.data }], guard := none }) (v := ?v8p4) rfl (by kernel_rfl) (by kernel_rfl) (by kernel_rfl) (fun _ _ _ h => h) (Or.inl ⟨by rfl, ?y8p4⟩) (by assumption) ?r8p4
  case y8p4 => (intro x hx; (try dsimp only at hx); go_simp; try with_reducible rfl)
  try simp only [Act.put, List.setIfInBounds_toArray, List.set_cons_zero, List.set_cons_succ]
  refine wpAnyH_take (i := 9) (oi := { dst := some 6, op := Op.assign (Operand.tmp 75), type := 4, pos := "law.go:99", after := #[{ on := 8, ground := Ground.data }, { on := 7, ground := Ground.chain }, { on := 0, ground := Ground.phase }, { on := 1, ground := Ground.phase }, { on := 2, ground := Ground.phase }, { on := 3, ground := Ground.phase }, { on := 4, ground := Ground.phase }, { on := 5, ground := Ground.phase }, { on := 6, ground := Ground.phase }, { on := 7, ground := Ground.phase }, { on := 8, ground := Ground.phase }], guard := none }) (v := ?v9p4) rfl (by kernel_rfl) (by kernel_rfl) (by kernel_rfl) (fun _ _ _ h => h) (Or.inl ⟨by rfl, ?y9p4⟩) (by assumption) ?r9p4
  case y9p4 => (intro x hx; (try dsimp only at hx); go_simp; try with_reducible rfl)
  try simp only [Act.put, List.setIfInBounds_toArray, List.set_cons_zero, List.set_cons_succ]
  refine wpAnyH_done (by kernel_rfl) ?_ _
  go_wp2
  go_ret
  exact ⟨rfl, h1, _, v2, HD0.out.both HT1.out HG1.out HR2.out HC2.out, Chg2.pre HBD.out (Chg2.of HG1.out HC2.out)⟩


end Go.Proofs.Ytjginocbbnmgaaa
