/-
  SEAT Ytjginocbbnmgaaa: one call of both: Get, All, All stopped, others.
-/
import Derived.Test.YtjginocbbnmgaaaTpO
namespace Go.Proofs.Ytjginocbbnmgaaa
open Go.RowKit
set_option linter.unusedVariables false

theorem got_form (o : Option Int) : ∃ gv gb, got o = .tuple #[.int .i64 gv, .bool gb] := by
  cases o with
  | none => exact ⟨0, false, rfl⟩
  | some y => exact ⟨y, true, rfl⟩
theorem pairs_n (gt h S : Nat) (hS6 : S ≤ 1048576) (M : Mp) (w : World) (hT : Tree w gt h M) :
    Calls Try.prog 12 #[.pointer (some ⟨gt, 0, none⟩), .int .i64 (S : Int)] w fun e W' => ∃ v, e = .returned v ∧ Rd W' v ((allOf M).take S) ∧ Below w.heap.size w W' := by
  rcases Nat.eq_zero_or_pos S with rfl | hS
  · refine (pairs_zero gt w).mono ?_
    rintro e W' ⟨v, rfl, h1, h2⟩
    exact ⟨v, rfl, by rw [List.take_zero]; exact Rd.of h1, h2⟩
  · refine (pairs_stop gt h S hS hS6 M w hT).mono ?_
    rintro e W' ⟨v, rfl, h1, h2⟩
    exact ⟨v, rfl, Rd.of h1, h2⟩
/-- The front of the reference's row. -/
theorem Rd.take {W : World} {a : Option Addr} {N cap : Nat} {L : List (Int × Int)} (h : Rd W (.slice a N cap) L) (hN : L.length = N) {i : Nat} (hi : i ≤ N) : Rd W (.slice a i cap) (L.take i) ∧ N ≤ cap := by
  rcases Rd.reads h with ⟨h1, h2⟩ | ⟨g, c, h1, h2, _⟩
  · injection h1 with h3 h4 h5
    subst h2
    simp only [List.length_nil] at hN
    subst hN h3 h5
    obtain rfl : i = 0 := by omega
    exact ⟨h, Nat.le_refl _⟩
  · injection h1 with h3 h4 h5
    subst h3 h5
    have h9 := Rd.front h hN hi
    exact ⟨h9.1, h9.2.1⟩

set_option maxHeartbeats 2000000 in
set_option maxRecDepth 100000 in
theorem plays_get (gt gr h : Nat) (k x : Int) (M : Mp) (v : Value) (w : World) (hD : Duo w gt gr h M v) (hk : -9223372036854775808 ≤ k ∧ k < 9223372036854775808) :
    Calls Try.prog 32 #[.pointer (some ⟨gt, 0, none⟩), .pointer (some ⟨gr, 0, none⟩), .agg #[.int .i64 2, .int .i64 k, .int .i64 x]] w fun e w' => Playd w w' gt gr v e := by
  have hb0 : Below w.heap.size w (w.alloc (.cells #[.int .i64 2, .int .i64 k, .int .i64 x] 64)) := below_alloc w _
  have HD0 : Hid (Duo (w.alloc (.cells #[.int .i64 2, .int .i64 k, .int .i64 x] 64)) gt gr h M v) := hD.below hb0
  have HX0 : Hid (BxOn (w.alloc (.cells #[.int .i64 2, .int .i64 k, .int .i64 x] 64)) w.heap.size 2 k x) := BxOn.new w 2 k x
  have HBD : Hid (Below w.heap.size w (w.alloc (.cells #[.int .i64 2, .int .i64 k, .int .i64 x] 64))) := hb0
  obtain ⟨c0, c1, c2⟩ := (BxOn.new w 2 k x).cells
  obtain ⟨gv, gb, hgot⟩ := got_form (at1 M k)
  have HGT : Hid (got (at1 M k) = .tuple #[.int .i64 gv, .bool gb]) := hgot
  have HOUT : Hid (∀ j, 1048576 ≤ j → M j = none) := fun j hj => hD.tree.out hj
  clear hD hgot
  go_enter Try.func32, Try.ntmps32
  go_wp2_with (first
    | (go_at_call 19; refine (get_t gt h k M _ HD0.out.tree).mono ?_; rintro e u1 ⟨rfl, t1, b1⟩; rw [HGT.out]
       have HD1 : Hid (Duo u1 gt gr h M v) := HD0.out.below b1
       have HX1 : Hid (BxOn u1 w.heap.size 2 k x) := HX0.out.below b1
       have HB1 : Hid (Below w.heap.size w u1) := HBD.out.trans (b1.mono HBD.out.size)
       clear t1 b1 c0 c1 c2
       obtain ⟨c0, c1, c2⟩ := HX1.out.cells)
    | (go_at_call 46; refine (rget_m gr k v M _ HD1.out.ref HOUT.out).mono ?_; rintro e u2 ⟨rfl, b2⟩; rw [HGT.out]
       have HD2 : Hid (Duo u2 gt gr h M v) := HD1.out.below b2
       have HB2 : Hid (Below w.heap.size w u2) := HB1.out.trans (b2.mono HB1.out.size)
       clear b2))
  go_ret
  exact ⟨by simp, h, M, v, HD2.out, Chg2.of_below HB2.out⟩

set_option maxHeartbeats 2000000 in
set_option maxRecDepth 100000 in
theorem plays_other (gt gr h : Nat) (q k x : Int) (M : Mp) (v : Value) (w : World) (hD : Duo w gt gr h M v) (hk : -9223372036854775808 ≤ k ∧ k < 9223372036854775808) (hq : (q == 1) = false ∧ (q == 2) = false ∧ (q == 3) = false ∧ (q == 4) = false ∧ (q == 5) = false ∧ (q == 6) = false ∧ (q == 7) = false) :
    Calls Try.prog 32 #[.pointer (some ⟨gt, 0, none⟩), .pointer (some ⟨gr, 0, none⟩), .agg #[.int .i64 q, .int .i64 k, .int .i64 x]] w fun e w' => Playd w w' gt gr v e := by
  have hb0 : Below w.heap.size w (w.alloc (.cells #[.int .i64 q, .int .i64 k, .int .i64 x] 64)) := below_alloc w _
  have HD0 : Hid (Duo (w.alloc (.cells #[.int .i64 q, .int .i64 k, .int .i64 x] 64)) gt gr h M v) := hD.below hb0
  have HX0 : Hid (BxOn (w.alloc (.cells #[.int .i64 q, .int .i64 k, .int .i64 x] 64)) w.heap.size q k x) := BxOn.new w q k x
  have HBD : Hid (Below w.heap.size w (w.alloc (.cells #[.int .i64 q, .int .i64 k, .int .i64 x] 64))) := hb0
  obtain ⟨c0, c1, c2⟩ := (BxOn.new w q k x).cells
  obtain ⟨q1, q2, q3, q4, q5, q6, q7⟩ := hq
  clear hD
  go_enter Try.func32, Try.ntmps32
  go_wp2_with fail
  go_ret
  exact ⟨rfl, h, M, v, HD0.out, Chg2.of_below HBD.out⟩

set_option maxHeartbeats 2000000 in
set_option maxRecDepth 100000 in
theorem plays_all (gt gr h : Nat) (k x : Int) (M : Mp) (v : Value) (w : World) (hD : Duo w gt gr h M v) (hk : -9223372036854775808 ≤ k ∧ k < 9223372036854775808) :
    Calls Try.prog 32 #[.pointer (some ⟨gt, 0, none⟩), .pointer (some ⟨gr, 0, none⟩), .agg #[.int .i64 5, .int .i64 k, .int .i64 x]] w fun e w' => Playd w w' gt gr v e := by
  have hb0 : Below w.heap.size w (w.alloc (.cells #[.int .i64 5, .int .i64 k, .int .i64 x] 64)) := below_alloc w _
  have HD0 : Hid (Duo (w.alloc (.cells #[.int .i64 5, .int .i64 k, .int .i64 x] 64)) gt gr h M v) := hD.below hb0
  have HX0 : Hid (BxOn (w.alloc (.cells #[.int .i64 5, .int .i64 k, .int .i64 x] 64)) w.heap.size 5 k x) := BxOn.new w 5 k x
  have HBD : Hid (Below w.heap.size w (w.alloc (.cells #[.int .i64 5, .int .i64 k, .int .i64 x] 64))) := hb0
  obtain ⟨c0, c1, c2⟩ := (BxOn.new w 5 k x).cells
  have HDD : Hid (Duo (w.alloc (.cells #[.int .i64 5, .int .i64 k, .int .i64 x] 64)).drew gt gr h M v) := HD0.out.below (below_drew _)
  have HBE : Hid (Below w.heap.size w (w.alloc (.cells #[.int .i64 5, .int .i64 k, .int .i64 x] 64)).drew) := HBD.out.trans ((below_drew _).mono HBD.out.size)
  have hv0 : (w.alloc (.cells #[.int .i64 5, .int .i64 k, .int .i64 x] 64)).drew.cell? ⟨gr, 0, none⟩ = some v := (by obtain ⟨_, _, _, hcc, _⟩ := ref_form HDD.out.ref; exact hcc)
  clear hD
  go_enter Try.func32, Try.ntmps32
  go_upto_region 13 with fail
  refine wp_region_held_drew (S := (fun y : World => y.cell? ⟨gr, 0, none⟩ = some v)) (by kernel_rfl) (hv0) (fun hHeld => ?_)
  refine wpAnyH_take (i := 0) (oi := { dst := some 78, op := Op.move (Operand.tmp 0), type := 24, pos := "law.go:101", after := #[], guard := none }) (v := ?v0p5) rfl (by kernel_rfl) (by kernel_rfl) (by kernel_rfl) (fun _ _ _ h => h) (Or.inl ⟨by rfl, ?y0p5⟩) (by assumption) ?r0p5
  case y0p5 => (intro x hx; (try dsimp only at hx); go_simp; try with_reducible rfl)
  try simp only [Act.put, List.setIfInBounds_toArray, List.set_cons_zero, List.set_cons_succ]
  refine wpAnyH_take (i := 2) (oi := { dst := some 80, op := Op.move (Operand.tmp 1), type := 59, pos := "law.go:101", after := #[], guard := none }) (v := ?v2p5) rfl (by kernel_rfl) (by kernel_rfl) (by kernel_rfl) (fun _ _ _ h => h) (Or.inl ⟨by rfl, ?y2p5⟩) (by assumption) ?r2p5
  case y2p5 => (intro x hx; (try dsimp only at hx); go_simp; try with_reducible rfl)
  try simp only [Act.put, List.setIfInBounds_toArray, List.set_cons_zero, List.set_cons_succ]
  refine wpAnyH_take (i := 3) (oi := { dst := some 81, op := Op.nilCheck (Operand.tmp 80), type := 0, pos := "law.go:101", after := #[{ on := 2, ground := Ground.data }], guard := none }) (v := ?v3p5) rfl (by kernel_rfl) (by kernel_rfl) (by kernel_rfl) (fun _ _ _ h => h) (Or.inl ⟨by rfl, ?y3p5⟩) (by assumption) ?r3p5
  case y3p5 => (intro x hx; (try dsimp only at hx); go_simp; try with_reducible rfl)
  try simp only [Act.put, List.setIfInBounds_toArray, List.set_cons_zero, List.set_cons_succ]
  refine wpAnyH_take (i := 4) (oi := { dst := some 82, op := Op.fieldAddr 61 (Operand.tmp 81) 0, type := 0, pos := "law.go:101", after := #[{ on := 3, ground := Ground.data }], guard := none }) (v := ?v4p5) rfl (by kernel_rfl) (by kernel_rfl) (by kernel_rfl) (fun _ _ _ h => h) (Or.inl ⟨by rfl, ?y4p5⟩) (by assumption) ?r4p5
  case y4p5 => (intro x hx; (try dsimp only at hx); go_simp; try with_reducible rfl)
  try simp only [Act.put, List.setIfInBounds_toArray, List.set_cons_zero, List.set_cons_succ]
  refine wpAnyH_take (i := 5) (oi := { dst := some 83, op := Op.load 28 (Operand.tmp 82), type := 28, pos := "law.go:101", after := #[{ on := 4, ground := Ground.data }], guard := none }) (v := ?v5p5) rfl (by kernel_rfl) (by kernel_rfl) (by kernel_rfl) (fun _ _ _ h => h) (Or.inl ⟨by rfl, ?y5p5⟩) (by assumption) ?r5p5
  case y5p5 => (intro x hx; (try dsimp only at hx); go_simp; try with_reducible rfl)
  try simp only [Act.put, List.setIfInBounds_toArray, List.set_cons_zero, List.set_cons_succ]
  refine wpAnyH_ready (rs := [1]) (by kernel_rfl) (by simp) ?_
  refine AllReadyH.cons (o := { dst := some 79, op := Op.call { callee := Callee.value (Operand.func 12), args := #[Operand.tmp 78, Operand.const (Value.int IntKind.i64 (-1))], argTypes := #[24, 3] }, type := 28, pos := "law.go:101", after := #[{ on := 0, ground := Ground.data }], guard := none }) rfl (fun K hK => ?_) AllReadyH.nil
  go_simp
  go_at_call 12
  refine (pairs_t gt h M _ HDD.out.tree).mono ?_
  rintro e u1 ⟨vl, rfl, r1, t1, b1⟩
  have HD1 : Hid (Duo u1 gt gr h M v) := HDD.out.below b1
  have HL1 : Hid (Rd u1 vl (allOf M)) := r1
  have HB1 : Hid (Below w.heap.size w u1) := HBE.out.trans (b1.mono HBE.out.size)
  have hSnew : u1.cell? ⟨gr, 0, none⟩ = some v := (by obtain ⟨_, _, _, hcc, _⟩ := ref_form HD1.out.ref; exact hcc)
  clear r1 t1 b1
  go_wp2_with fail
  refine hK.out _ _ hSnew (fun hHeld1 => ?_)
  clear hK K hSnew
  clear hHeld
  have hHeld := hHeld1
  clear hHeld1
  try simp only [Act.put, List.setIfInBounds_toArray, List.set_cons_zero, List.set_cons_succ]
  refine wpAnyH_ready (rs := [6]) (by kernel_rfl) (by simp) ?_
  refine AllReadyH.cons (o := { dst := some 84, op := Op.call { callee := Callee.value (Operand.func 18), args := #[Operand.tmp 79, Operand.tmp 83], argTypes := #[28, 28] }, type := 4, pos := "law.go:101", after := #[{ on := 1, ground := Ground.data }, { on := 5, ground := Ground.data }, { on := 1, ground := Ground.chain }], guard := none }) rfl (fun K hK => ?_) AllReadyH.nil
  go_simp
  go_at_call 18
  refine (same_t _ _ _ (allOf M) HL1.out HD1.out.ref.2.1).mono ?_
  rintro e u2 ⟨rfl, b2⟩
  have HD2 : Hid (Duo u2 gt gr h M v) := HD1.out.below b2
  have HB2 : Hid (Below w.heap.size w u2) := HB1.out.trans (b2.mono HB1.out.size)
  have hSnew : u2.cell? ⟨gr, 0, none⟩ = some v := (by obtain ⟨_, _, _, hcc, _⟩ := ref_form HD2.out.ref; exact hcc)
  clear b2
  go_wp2_with fail
  refine hK.out _ _ hSnew (fun hHeld6 => ?_)
  clear hK K hSnew
  clear hHeld
  have hHeld := hHeld6
  clear hHeld6
  try simp only [Act.put, List.setIfInBounds_toArray, List.set_cons_zero, List.set_cons_succ]
  refine wpAnyH_take (i := 7) (oi := { dst := some 6, op := Op.assign (Operand.tmp 84), type := 4, pos := "law.go:101", after := #[{ on := 6, ground := Ground.data }, { on := 6, ground := Ground.chain }, { on := 0, ground := Ground.phase }, { on := 1, ground := Ground.phase }, { on := 2, ground := Ground.phase }, { on := 3, ground := Ground.phase }, { on := 4, ground := Ground.phase }, { on := 5, ground := Ground.phase }, { on := 6, ground := Ground.phase }], guard := none }) (v := ?v7p5) rfl (by kernel_rfl) (by kernel_rfl) (by kernel_rfl) (fun _ _ _ h => h) (Or.inl ⟨by rfl, ?y7p5⟩) (by assumption) ?r7p5
  case y7p5 => (intro x hx; (try dsimp only at hx); go_simp; try with_reducible rfl)
  try simp only [Act.put, List.setIfInBounds_toArray, List.set_cons_zero, List.set_cons_succ]
  refine wpAnyH_done (by kernel_rfl) ?_ _
  go_wp2
  go_ret
  exact ⟨rfl, h, M, v, HD2.out, Chg2.of_below HB2.out⟩

set_option maxHeartbeats 2000000 in
set_option maxRecDepth 100000 in
theorem plays_stop0 (gt gr h : Nat) (k x : Int) (M : Mp) (v : Value) (w : World) (hD : Duo w gt gr h M v) (hk : -9223372036854775808 ≤ k ∧ k < 9223372036854775808) (hx : x < 0) :
    Calls Try.prog 32 #[.pointer (some ⟨gt, 0, none⟩), .pointer (some ⟨gr, 0, none⟩), .agg #[.int .i64 6, .int .i64 k, .int .i64 x]] w fun e w' => Playd w w' gt gr v e := by
  obtain ⟨a, cap, rfl, hcl, _⟩ := ref_form hD.ref
  obtain ⟨N, hN⟩ : ∃ N, (allOf M).length = N := ⟨_, rfl⟩
  have HN : Hid ((allOf M).length = N) := hN
  have hN6 : N ≤ 1048576 := by rw [← hN]; exact hD.ref.2.2
  have f1 : x < 0 := hx
  rw [hN] at hD hcl ⊢
  have hSN : N ≤ N := Nat.le_refl N
  have hS6 : N ≤ 1048576 := hN6
  have hb0 : Below w.heap.size w (w.alloc (.cells #[.int .i64 6, .int .i64 k, .int .i64 x] 64)) := below_alloc w _
  have HD0 : Hid (Duo (w.alloc (.cells #[.int .i64 6, .int .i64 k, .int .i64 x] 64)) gt gr h M (.slice a N cap)) := hD.below hb0
  have HX0 : Hid (BxOn (w.alloc (.cells #[.int .i64 6, .int .i64 k, .int .i64 x] 64)) w.heap.size 6 k x) := BxOn.new w 6 k x
  have HBD : Hid (Below w.heap.size w (w.alloc (.cells #[.int .i64 6, .int .i64 k, .int .i64 x] 64))) := hb0
  obtain ⟨c0, c1, c2⟩ := (BxOn.new w 6 k x).cells
  have HDD : Hid (Duo (w.alloc (.cells #[.int .i64 6, .int .i64 k, .int .i64 x] 64)).drew gt gr h M (.slice a N cap)) := HD0.out.below (below_drew _)
  have HBE : Hid (Below w.heap.size w (w.alloc (.cells #[.int .i64 6, .int .i64 k, .int .i64 x] 64)).drew) := HBD.out.trans ((below_drew _).mono HBD.out.size)
  have hv1 : (w.alloc (.cells #[.int .i64 6, .int .i64 k, .int .i64 x] 64)).cell? ⟨gr, 0, none⟩ = some (.slice a N cap) := (by obtain ⟨_, _, _, hcc, _⟩ := ref_form HD0.out.ref; exact hcc)
  have hv0 : (w.alloc (.cells #[.int .i64 6, .int .i64 k, .int .i64 x] 64)).drew.cell? ⟨gr, 0, none⟩ = some (.slice a N cap) := (by obtain ⟨_, _, _, hcc, _⟩ := ref_form HDD.out.ref; exact hcc)
  have hcp := (Rd.take hD.ref.2.1 hN (Nat.le_refl N)).2
  have hcp2 : N ≤ cap := by omega
  clear hD hN hcl hx
  go_enter Try.func32, Try.ntmps32
  go_upto_region 18 with fail
  refine wp_region_held_drew (S := (fun y : World => y.cell? ⟨gr, 0, none⟩ = some (.slice a N cap))) (by kernel_rfl) (hv0) (fun hHeld => ?_)
  refine wpAnyH_take (i := 0) (oi := { dst := some 105, op := Op.move (Operand.tmp 0), type := 24, pos := "law.go:107", after := #[], guard := none }) (v := ?v0p6) rfl (by kernel_rfl) (by kernel_rfl) (by kernel_rfl) (fun _ _ _ h => h) (Or.inl ⟨by rfl, ?y0p6⟩) (by assumption) ?r0p6
  case y0p6 => (intro x hx; (try dsimp only at hx); go_simp; try with_reducible rfl)
  try simp only [Act.put, List.setIfInBounds_toArray, List.set_cons_zero, List.set_cons_succ]
  refine wpAnyH_take (i := 1) (oi := { dst := some 106, op := Op.move (Operand.tmp 11), type := 3, pos := "law.go:107", after := #[], guard := none }) (v := ?v1p6) rfl (by kernel_rfl) (by kernel_rfl) (by kernel_rfl) (fun _ _ _ h => h) (Or.inl ⟨by rfl, ?y1p6⟩) (by assumption) ?r1p6
  case y1p6 => (intro x hx; (try dsimp only at hx); go_simp; try with_reducible rfl)
  try simp only [Act.put, List.setIfInBounds_toArray, List.set_cons_zero, List.set_cons_succ]
  refine wpAnyH_take (i := 3) (oi := { dst := some 108, op := Op.move (Operand.tmp 1), type := 59, pos := "law.go:107", after := #[], guard := none }) (v := ?v3p6) rfl (by kernel_rfl) (by kernel_rfl) (by kernel_rfl) (fun _ _ _ h => h) (Or.inl ⟨by rfl, ?y3p6⟩) (by assumption) ?r3p6
  case y3p6 => (intro x hx; (try dsimp only at hx); go_simp; try with_reducible rfl)
  try simp only [Act.put, List.setIfInBounds_toArray, List.set_cons_zero, List.set_cons_succ]
  refine wpAnyH_take (i := 4) (oi := { dst := some 109, op := Op.nilCheck (Operand.tmp 108), type := 0, pos := "law.go:107", after := #[{ on := 3, ground := Ground.data }], guard := none }) (v := ?v4p6) rfl (by kernel_rfl) (by kernel_rfl) (by kernel_rfl) (fun _ _ _ h => h) (Or.inl ⟨by rfl, ?y4p6⟩) (by assumption) ?r4p6
  case y4p6 => (intro x hx; (try dsimp only at hx); go_simp; try with_reducible rfl)
  try simp only [Act.put, List.setIfInBounds_toArray, List.set_cons_zero, List.set_cons_succ]
  refine wpAnyH_take (i := 5) (oi := { dst := some 110, op := Op.fieldAddr 61 (Operand.tmp 109) 0, type := 0, pos := "law.go:107", after := #[{ on := 4, ground := Ground.data }], guard := none }) (v := ?v5p6) rfl (by kernel_rfl) (by kernel_rfl) (by kernel_rfl) (fun _ _ _ h => h) (Or.inl ⟨by rfl, ?y5p6⟩) (by assumption) ?r5p6
  case y5p6 => (intro x hx; (try dsimp only at hx); go_simp; try with_reducible rfl)
  try simp only [Act.put, List.setIfInBounds_toArray, List.set_cons_zero, List.set_cons_succ]
  refine wpAnyH_take (i := 6) (oi := { dst := some 111, op := Op.load 28 (Operand.tmp 110), type := 28, pos := "law.go:107", after := #[{ on := 5, ground := Ground.data }], guard := none }) (v := ?v6p6) rfl (by kernel_rfl) (by kernel_rfl) (by kernel_rfl) (fun _ _ _ h => h) (Or.inl ⟨by rfl, ?y6p6⟩) (by assumption) ?r6p6
  case y6p6 => (intro x hx; (try dsimp only at hx); go_simp; try with_reducible rfl)
  try simp only [Act.put, List.setIfInBounds_toArray, List.set_cons_zero, List.set_cons_succ]
  refine wpAnyH_take (i := 7) (oi := { dst := some 112, op := Op.move (Operand.tmp 11), type := 3, pos := "law.go:107", after := #[], guard := none }) (v := ?v7p6) rfl (by kernel_rfl) (by kernel_rfl) (by kernel_rfl) (fun _ _ _ h => h) (Or.inl ⟨by rfl, ?y7p6⟩) (by assumption) ?r7p6
  case y7p6 => (intro x hx; (try dsimp only at hx); go_simp; try with_reducible rfl)
  try simp only [Act.put, List.setIfInBounds_toArray, List.set_cons_zero, List.set_cons_succ]
  refine wpAnyH_take (i := 8) (oi := { dst := some 113, op := Op.slice 28 (Operand.tmp 111) none (some (Operand.tmp 112)) none, type := 28, pos := "law.go:107", after := #[{ on := 6, ground := Ground.data }, { on := 7, ground := Ground.data }], guard := none }) (v := ?v8p6) rfl (by kernel_rfl) (by kernel_rfl) (by kernel_rfl) (fun _ _ _ h => h) (Or.inl ⟨by rfl, ?y8p6⟩) (by assumption) ?r8p6
  case y8p6 => (intro x hx; (try dsimp only at hx); go_simp; try with_reducible rfl)
  try simp only [Act.put, List.setIfInBounds_toArray, List.set_cons_zero, List.set_cons_succ]
  refine wpAnyH_ready (rs := [2]) (by kernel_rfl) (by simp) ?_
  refine AllReadyH.cons (o := { dst := some 107, op := Op.call { callee := Callee.value (Operand.func 12), args := #[Operand.tmp 105, Operand.tmp 106], argTypes := #[24, 3] }, type := 28, pos := "law.go:107", after := #[{ on := 0, ground := Ground.data }, { on := 1, ground := Ground.data }], guard := none }) rfl (fun K hK => ?_) AllReadyH.nil
  go_simp
  go_at_call 12
  refine (pairs_n gt h N hS6 M _ HDD.out.tree).mono ?_
  rintro e u1 ⟨vl, rfl, r1, b1⟩
  have HD1 : Hid (Duo u1 gt gr h M (.slice a N cap)) := HDD.out.below b1
  have HL1 : Hid (Rd u1 vl ((allOf M).take N)) := r1
  have HB1 : Hid (Below w.heap.size w u1) := HBE.out.trans (b1.mono HBE.out.size)
  have hSnew : u1.cell? ⟨gr, 0, none⟩ = some (.slice a N cap) := (by obtain ⟨_, _, _, hcc, _⟩ := ref_form HD1.out.ref; exact hcc)
  clear r1 b1
  go_wp2_with fail
  refine hK.out _ _ hSnew (fun hHeld2 => ?_)
  clear hK K hSnew
  clear hHeld
  have hHeld := hHeld2
  clear hHeld2
  try simp only [Act.put, List.setIfInBounds_toArray, List.set_cons_zero, List.set_cons_succ]
  refine wpAnyH_ready (rs := [9]) (by kernel_rfl) (by simp) ?_
  refine AllReadyH.cons (o := { dst := some 114, op := Op.call { callee := Callee.value (Operand.func 18), args := #[Operand.tmp 107, Operand.tmp 113], argTypes := #[28, 28] }, type := 4, pos := "law.go:107", after := #[{ on := 2, ground := Ground.data }, { on := 8, ground := Ground.data }, { on := 2, ground := Ground.chain }], guard := none }) rfl (fun K hK => ?_) AllReadyH.nil
  go_simp
  go_at_call 18
  refine (same_t _ _ _ ((allOf M).take N) HL1.out (Rd.take HD1.out.ref.2.1 HN.out hSN).1).mono ?_
  rintro e u2 ⟨rfl, b2⟩
  have HD2 : Hid (Duo u2 gt gr h M (.slice a N cap)) := HD1.out.below b2
  have HB2 : Hid (Below w.heap.size w u2) := HB1.out.trans (b2.mono HB1.out.size)
  have hSnew : u2.cell? ⟨gr, 0, none⟩ = some (.slice a N cap) := (by obtain ⟨_, _, _, hcc, _⟩ := ref_form HD2.out.ref; exact hcc)
  clear b2
  go_wp2_with fail
  refine hK.out _ _ hSnew (fun hHeld9 => ?_)
  clear hK K hSnew
  clear hHeld
  have hHeld := hHeld9
  clear hHeld9
  try simp only [Act.put, List.setIfInBounds_toArray, List.set_cons_zero, List.set_cons_succ]
  refine wpAnyH_take (i := 10) (oi := { dst := some 6, op := Op.assign (Operand.tmp 114), type := 4, pos := "law.go:107", after := #[{ on := 9, ground := Ground.data }, { on := 9, ground := Ground.chain }, { on := 0, ground := Ground.phase }, { on := 1, ground := Ground.phase }, { on := 2, ground := Ground.phase }, { on := 3, ground := Ground.phase }, { on := 4, ground := Ground.phase }, { on := 5, ground := Ground.phase }, { on := 6, ground := Ground.phase }, { on := 7, ground := Ground.phase }, { on := 8, ground := Ground.phase }, { on := 9, ground := Ground.phase }], guard := none }) (v := ?v10p6) rfl (by kernel_rfl) (by kernel_rfl) (by kernel_rfl) (fun _ _ _ h => h) (Or.inl ⟨by rfl, ?y10p6⟩) (by assumption) ?r10p6
  case y10p6 => (intro x hx; (try dsimp only at hx); go_simp; try with_reducible rfl)
  try simp only [Act.put, List.setIfInBounds_toArray, List.set_cons_zero, List.set_cons_succ]
  refine wpAnyH_done (by kernel_rfl) ?_ _
  go_wp2
  go_ret
  exact ⟨rfl, h, M, _, HD2.out, Chg2.of_below HB2.out⟩

set_option maxHeartbeats 2000000 in
set_option maxRecDepth 100000 in
theorem plays_stop1 (gt gr h : Nat) (k x : Int) (M : Mp) (v : Value) (w : World) (hD : Duo w gt gr h M v) (hk : -9223372036854775808 ≤ k ∧ k < 9223372036854775808) (hx : ¬ x < 0) (hx2 : (allOf M).length < x) :
    Calls Try.prog 32 #[.pointer (some ⟨gt, 0, none⟩), .pointer (some ⟨gr, 0, none⟩), .agg #[.int .i64 6, .int .i64 k, .int .i64 x]] w fun e w' => Playd w w' gt gr v e := by
  obtain ⟨a, cap, rfl, hcl, _⟩ := ref_form hD.ref
  obtain ⟨N, hN⟩ : ∃ N, (allOf M).length = N := ⟨_, rfl⟩
  have HN : Hid ((allOf M).length = N) := hN
  have hN6 : N ≤ 1048576 := by rw [← hN]; exact hD.ref.2.2
  have f1 : ¬ x < 0 := hx
  have f2 : (N : Int) < x := by rw [← HN.out]; exact hx2
  rw [hN] at hD hcl ⊢
  rw [hN] at hx2
  have hSN : N ≤ N := Nat.le_refl N
  have hS6 : N ≤ 1048576 := hN6
  have hb0 : Below w.heap.size w (w.alloc (.cells #[.int .i64 6, .int .i64 k, .int .i64 x] 64)) := below_alloc w _
  have HD0 : Hid (Duo (w.alloc (.cells #[.int .i64 6, .int .i64 k, .int .i64 x] 64)) gt gr h M (.slice a N cap)) := hD.below hb0
  have HX0 : Hid (BxOn (w.alloc (.cells #[.int .i64 6, .int .i64 k, .int .i64 x] 64)) w.heap.size 6 k x) := BxOn.new w 6 k x
  have HBD : Hid (Below w.heap.size w (w.alloc (.cells #[.int .i64 6, .int .i64 k, .int .i64 x] 64))) := hb0
  obtain ⟨c0, c1, c2⟩ := (BxOn.new w 6 k x).cells
  have HDD : Hid (Duo (w.alloc (.cells #[.int .i64 6, .int .i64 k, .int .i64 x] 64)).drew gt gr h M (.slice a N cap)) := HD0.out.below (below_drew _)
  have HBE : Hid (Below w.heap.size w (w.alloc (.cells #[.int .i64 6, .int .i64 k, .int .i64 x] 64)).drew) := HBD.out.trans ((below_drew _).mono HBD.out.size)
  have hv1 : (w.alloc (.cells #[.int .i64 6, .int .i64 k, .int .i64 x] 64)).cell? ⟨gr, 0, none⟩ = some (.slice a N cap) := (by obtain ⟨_, _, _, hcc, _⟩ := ref_form HD0.out.ref; exact hcc)
  have hv0 : (w.alloc (.cells #[.int .i64 6, .int .i64 k, .int .i64 x] 64)).drew.cell? ⟨gr, 0, none⟩ = some (.slice a N cap) := (by obtain ⟨_, _, _, hcc, _⟩ := ref_form HDD.out.ref; exact hcc)
  have hcp := (Rd.take hD.ref.2.1 hN (Nat.le_refl N)).2
  have hcp2 : N ≤ cap := by omega
  clear hD hN hcl hx hx2
  go_enter Try.func32, Try.ntmps32
  go_upto_region 18 with fail
  refine wp_region_held_drew (S := (fun y : World => y.cell? ⟨gr, 0, none⟩ = some (.slice a N cap))) (by kernel_rfl) (hv0) (fun hHeld => ?_)
  refine wpAnyH_take (i := 0) (oi := { dst := some 105, op := Op.move (Operand.tmp 0), type := 24, pos := "law.go:107", after := #[], guard := none }) (v := ?v0p6) rfl (by kernel_rfl) (by kernel_rfl) (by kernel_rfl) (fun _ _ _ h => h) (Or.inl ⟨by rfl, ?y0p6⟩) (by assumption) ?r0p6
  case y0p6 => (intro x hx; (try dsimp only at hx); go_simp; try with_reducible rfl)
  try simp only [Act.put, List.setIfInBounds_toArray, List.set_cons_zero, List.set_cons_succ]
  refine wpAnyH_take (i := 1) (oi := { dst := some 106, op := Op.move (Operand.tmp 11), type := 3, pos := "law.go:107", after := #[], guard := none }) (v := ?v1p6) rfl (by kernel_rfl) (by kernel_rfl) (by kernel_rfl) (fun _ _ _ h => h) (Or.inl ⟨by rfl, ?y1p6⟩) (by assumption) ?r1p6
  case y1p6 => (intro x hx; (try dsimp only at hx); go_simp; try with_reducible rfl)
  try simp only [Act.put, List.setIfInBounds_toArray, List.set_cons_zero, List.set_cons_succ]
  refine wpAnyH_take (i := 3) (oi := { dst := some 108, op := Op.move (Operand.tmp 1), type := 59, pos := "law.go:107", after := #[], guard := none }) (v := ?v3p6) rfl (by kernel_rfl) (by kernel_rfl) (by kernel_rfl) (fun _ _ _ h => h) (Or.inl ⟨by rfl, ?y3p6⟩) (by assumption) ?r3p6
  case y3p6 => (intro x hx; (try dsimp only at hx); go_simp; try with_reducible rfl)
  try simp only [Act.put, List.setIfInBounds_toArray, List.set_cons_zero, List.set_cons_succ]
  refine wpAnyH_take (i := 4) (oi := { dst := some 109, op := Op.nilCheck (Operand.tmp 108), type := 0, pos := "law.go:107", after := #[{ on := 3, ground := Ground.data }], guard := none }) (v := ?v4p6) rfl (by kernel_rfl) (by kernel_rfl) (by kernel_rfl) (fun _ _ _ h => h) (Or.inl ⟨by rfl, ?y4p6⟩) (by assumption) ?r4p6
  case y4p6 => (intro x hx; (try dsimp only at hx); go_simp; try with_reducible rfl)
  try simp only [Act.put, List.setIfInBounds_toArray, List.set_cons_zero, List.set_cons_succ]
  refine wpAnyH_take (i := 5) (oi := { dst := some 110, op := Op.fieldAddr 61 (Operand.tmp 109) 0, type := 0, pos := "law.go:107", after := #[{ on := 4, ground := Ground.data }], guard := none }) (v := ?v5p6) rfl (by kernel_rfl) (by kernel_rfl) (by kernel_rfl) (fun _ _ _ h => h) (Or.inl ⟨by rfl, ?y5p6⟩) (by assumption) ?r5p6
  case y5p6 => (intro x hx; (try dsimp only at hx); go_simp; try with_reducible rfl)
  try simp only [Act.put, List.setIfInBounds_toArray, List.set_cons_zero, List.set_cons_succ]
  refine wpAnyH_take (i := 6) (oi := { dst := some 111, op := Op.load 28 (Operand.tmp 110), type := 28, pos := "law.go:107", after := #[{ on := 5, ground := Ground.data }], guard := none }) (v := ?v6p6) rfl (by kernel_rfl) (by kernel_rfl) (by kernel_rfl) (fun _ _ _ h => h) (Or.inl ⟨by rfl, ?y6p6⟩) (by assumption) ?r6p6
  case y6p6 => (intro x hx; (try dsimp only at hx); go_simp; try with_reducible rfl)
  try simp only [Act.put, List.setIfInBounds_toArray, List.set_cons_zero, List.set_cons_succ]
  refine wpAnyH_take (i := 7) (oi := { dst := some 112, op := Op.move (Operand.tmp 11), type := 3, pos := "law.go:107", after := #[], guard := none }) (v := ?v7p6) rfl (by kernel_rfl) (by kernel_rfl) (by kernel_rfl) (fun _ _ _ h => h) (Or.inl ⟨by rfl, ?y7p6⟩) (by assumption) ?r7p6
  case y7p6 => (intro x hx; (try dsimp only at hx); go_simp; try with_reducible rfl)
  try simp only [Act.put, List.setIfInBounds_toArray, List.set_cons_zero, List.set_cons_succ]
  refine wpAnyH_take (i := 8) (oi := { dst := some 113, op := Op.slice 28 (Operand.tmp 111) none (some (Operand.tmp 112)) none, type := 28, pos := "law.go:107", after := #[{ on := 6, ground := Ground.data }, { on := 7, ground := Ground.data }], guard := none }) (v := ?v8p6) rfl (by kernel_rfl) (by kernel_rfl) (by kernel_rfl) (fun _ _ _ h => h) (Or.inl ⟨by rfl, ?y8p6⟩) (by assumption) ?r8p6
  case y8p6 => (intro x hx; (try dsimp only at hx); go_simp; try with_reducible rfl)
  try simp only [Act.put, List.setIfInBounds_toArray, List.set_cons_zero, List.set_cons_succ]
  refine wpAnyH_ready (rs := [2]) (by kernel_rfl) (by simp) ?_
  refine AllReadyH.cons (o := { dst := some 107, op := Op.call { callee := Callee.value (Operand.func 12), args := #[Operand.tmp 105, Operand.tmp 106], argTypes := #[24, 3] }, type := 28, pos := "law.go:107", after := #[{ on := 0, ground := Ground.data }, { on := 1, ground := Ground.data }], guard := none }) rfl (fun K hK => ?_) AllReadyH.nil
  go_simp
  go_at_call 12
  refine (pairs_n gt h N hS6 M _ HDD.out.tree).mono ?_
  rintro e u1 ⟨vl, rfl, r1, b1⟩
  have HD1 : Hid (Duo u1 gt gr h M (.slice a N cap)) := HDD.out.below b1
  have HL1 : Hid (Rd u1 vl ((allOf M).take N)) := r1
  have HB1 : Hid (Below w.heap.size w u1) := HBE.out.trans (b1.mono HBE.out.size)
  have hSnew : u1.cell? ⟨gr, 0, none⟩ = some (.slice a N cap) := (by obtain ⟨_, _, _, hcc, _⟩ := ref_form HD1.out.ref; exact hcc)
  clear r1 b1
  go_wp2_with fail
  refine hK.out _ _ hSnew (fun hHeld2 => ?_)
  clear hK K hSnew
  clear hHeld
  have hHeld := hHeld2
  clear hHeld2
  try simp only [Act.put, List.setIfInBounds_toArray, List.set_cons_zero, List.set_cons_succ]
  refine wpAnyH_ready (rs := [9]) (by kernel_rfl) (by simp) ?_
  refine AllReadyH.cons (o := { dst := some 114, op := Op.call { callee := Callee.value (Operand.func 18), args := #[Operand.tmp 107, Operand.tmp 113], argTypes := #[28, 28] }, type := 4, pos := "law.go:107", after := #[{ on := 2, ground := Ground.data }, { on := 8, ground := Ground.data }, { on := 2, ground := Ground.chain }], guard := none }) rfl (fun K hK => ?_) AllReadyH.nil
  go_simp
  go_at_call 18
  refine (same_t _ _ _ ((allOf M).take N) HL1.out (Rd.take HD1.out.ref.2.1 HN.out hSN).1).mono ?_
  rintro e u2 ⟨rfl, b2⟩
  have HD2 : Hid (Duo u2 gt gr h M (.slice a N cap)) := HD1.out.below b2
  have HB2 : Hid (Below w.heap.size w u2) := HB1.out.trans (b2.mono HB1.out.size)
  have hSnew : u2.cell? ⟨gr, 0, none⟩ = some (.slice a N cap) := (by obtain ⟨_, _, _, hcc, _⟩ := ref_form HD2.out.ref; exact hcc)
  clear b2
  go_wp2_with fail
  refine hK.out _ _ hSnew (fun hHeld9 => ?_)
  clear hK K hSnew
  clear hHeld
  have hHeld := hHeld9
  clear hHeld9
  try simp only [Act.put, List.setIfInBounds_toArray, List.set_cons_zero, List.set_cons_succ]
  refine wpAnyH_take (i := 10) (oi := { dst := some 6, op := Op.assign (Operand.tmp 114), type := 4, pos := "law.go:107", after := #[{ on := 9, ground := Ground.data }, { on := 9, ground := Ground.chain }, { on := 0, ground := Ground.phase }, { on := 1, ground := Ground.phase }, { on := 2, ground := Ground.phase }, { on := 3, ground := Ground.phase }, { on := 4, ground := Ground.phase }, { on := 5, ground := Ground.phase }, { on := 6, ground := Ground.phase }, { on := 7, ground := Ground.phase }, { on := 8, ground := Ground.phase }, { on := 9, ground := Ground.phase }], guard := none }) (v := ?v10p6) rfl (by kernel_rfl) (by kernel_rfl) (by kernel_rfl) (fun _ _ _ h => h) (Or.inl ⟨by rfl, ?y10p6⟩) (by assumption) ?r10p6
  case y10p6 => (intro x hx; (try dsimp only at hx); go_simp; try with_reducible rfl)
  try simp only [Act.put, List.setIfInBounds_toArray, List.set_cons_zero, List.set_cons_succ]
  refine wpAnyH_done (by kernel_rfl) ?_ _
  go_wp2
  go_ret
  exact ⟨rfl, h, M, _, HD2.out, Chg2.of_below HB2.out⟩

set_option maxHeartbeats 2000000 in
set_option maxRecDepth 100000 in
theorem plays_stop2 (gt gr h : Nat) (k x : Int) (M : Mp) (v : Value) (w : World) (hD : Duo w gt gr h M v) (hk : -9223372036854775808 ≤ k ∧ k < 9223372036854775808) (hx : ¬ x < 0) (hx2 : ¬ ((allOf M).length : Int) < x) :
    Calls Try.prog 32 #[.pointer (some ⟨gt, 0, none⟩), .pointer (some ⟨gr, 0, none⟩), .agg #[.int .i64 6, .int .i64 k, .int .i64 x]] w fun e w' => Playd w w' gt gr v e := by
  obtain ⟨a, cap, rfl, hcl, _⟩ := ref_form hD.ref
  obtain ⟨N, hN⟩ : ∃ N, (allOf M).length = N := ⟨_, rfl⟩
  have HN : Hid ((allOf M).length = N) := hN
  have hN6 : N ≤ 1048576 := by rw [← hN]; exact hD.ref.2.2
  obtain ⟨S, rfl⟩ := Int.eq_ofNat_of_zero_le (show 0 ≤ x by omega)
  have f1 : ¬ (S : Int) < 0 := hx
  have f2 : ¬ (N : Int) < (S : Int) := by rw [← HN.out]; exact hx2
  rw [hN] at hD hcl ⊢
  rw [hN] at hx2
  have hSN : S ≤ N := by omega
  have hS6 : S ≤ 1048576 := by omega
  have hb0 : Below w.heap.size w (w.alloc (.cells #[.int .i64 6, .int .i64 k, .int .i64 (S : Int)] 64)) := below_alloc w _
  have HD0 : Hid (Duo (w.alloc (.cells #[.int .i64 6, .int .i64 k, .int .i64 (S : Int)] 64)) gt gr h M (.slice a N cap)) := hD.below hb0
  have HX0 : Hid (BxOn (w.alloc (.cells #[.int .i64 6, .int .i64 k, .int .i64 (S : Int)] 64)) w.heap.size 6 k (S : Int)) := BxOn.new w 6 k (S : Int)
  have HBD : Hid (Below w.heap.size w (w.alloc (.cells #[.int .i64 6, .int .i64 k, .int .i64 (S : Int)] 64))) := hb0
  obtain ⟨c0, c1, c2⟩ := (BxOn.new w 6 k (S : Int)).cells
  have HDD : Hid (Duo (w.alloc (.cells #[.int .i64 6, .int .i64 k, .int .i64 (S : Int)] 64)).drew gt gr h M (.slice a N cap)) := HD0.out.below (below_drew _)
  have HBE : Hid (Below w.heap.size w (w.alloc (.cells #[.int .i64 6, .int .i64 k, .int .i64 (S : Int)] 64)).drew) := HBD.out.trans ((below_drew _).mono HBD.out.size)
  have hv1 : (w.alloc (.cells #[.int .i64 6, .int .i64 k, .int .i64 (S : Int)] 64)).cell? ⟨gr, 0, none⟩ = some (.slice a N cap) := (by obtain ⟨_, _, _, hcc, _⟩ := ref_form HD0.out.ref; exact hcc)
  have hv0 : (w.alloc (.cells #[.int .i64 6, .int .i64 k, .int .i64 (S : Int)] 64)).drew.cell? ⟨gr, 0, none⟩ = some (.slice a N cap) := (by obtain ⟨_, _, _, hcc, _⟩ := ref_form HDD.out.ref; exact hcc)
  have hcp := (Rd.take hD.ref.2.1 hN (Nat.le_refl N)).2
  have hcp2 : S ≤ cap := by omega
  clear hD hN hcl hx hx2
  go_enter Try.func32, Try.ntmps32
  go_upto_region 18 with fail
  refine wp_region_held_drew (S := (fun y : World => y.cell? ⟨gr, 0, none⟩ = some (.slice a N cap))) (by kernel_rfl) (hv0) (fun hHeld => ?_)
  refine wpAnyH_take (i := 0) (oi := { dst := some 105, op := Op.move (Operand.tmp 0), type := 24, pos := "law.go:107", after := #[], guard := none }) (v := ?v0p6) rfl (by kernel_rfl) (by kernel_rfl) (by kernel_rfl) (fun _ _ _ h => h) (Or.inl ⟨by rfl, ?y0p6⟩) (by assumption) ?r0p6
  case y0p6 => (intro x hx; (try dsimp only at hx); go_simp; try with_reducible rfl)
  try simp only [Act.put, List.setIfInBounds_toArray, List.set_cons_zero, List.set_cons_succ]
  refine wpAnyH_take (i := 1) (oi := { dst := some 106, op := Op.move (Operand.tmp 11), type := 3, pos := "law.go:107", after := #[], guard := none }) (v := ?v1p6) rfl (by kernel_rfl) (by kernel_rfl) (by kernel_rfl) (fun _ _ _ h => h) (Or.inl ⟨by rfl, ?y1p6⟩) (by assumption) ?r1p6
  case y1p6 => (intro x hx; (try dsimp only at hx); go_simp; try with_reducible rfl)
  try simp only [Act.put, List.setIfInBounds_toArray, List.set_cons_zero, List.set_cons_succ]
  refine wpAnyH_take (i := 3) (oi := { dst := some 108, op := Op.move (Operand.tmp 1), type := 59, pos := "law.go:107", after := #[], guard := none }) (v := ?v3p6) rfl (by kernel_rfl) (by kernel_rfl) (by kernel_rfl) (fun _ _ _ h => h) (Or.inl ⟨by rfl, ?y3p6⟩) (by assumption) ?r3p6
  case y3p6 => (intro x hx; (try dsimp only at hx); go_simp; try with_reducible rfl)
  try simp only [Act.put, List.setIfInBounds_toArray, List.set_cons_zero, List.set_cons_succ]
  refine wpAnyH_take (i := 4) (oi := { dst := some 109, op := Op.nilCheck (Operand.tmp 108), type := 0, pos := "law.go:107", after := #[{ on := 3, ground := Ground.data }], guard := none }) (v := ?v4p6) rfl (by kernel_rfl) (by kernel_rfl) (by kernel_rfl) (fun _ _ _ h => h) (Or.inl ⟨by rfl, ?y4p6⟩) (by assumption) ?r4p6
  case y4p6 => (intro x hx; (try dsimp only at hx); go_simp; try with_reducible rfl)
  try simp only [Act.put, List.setIfInBounds_toArray, List.set_cons_zero, List.set_cons_succ]
  refine wpAnyH_take (i := 5) (oi := { dst := some 110, op := Op.fieldAddr 61 (Operand.tmp 109) 0, type := 0, pos := "law.go:107", after := #[{ on := 4, ground := Ground.data }], guard := none }) (v := ?v5p6) rfl (by kernel_rfl) (by kernel_rfl) (by kernel_rfl) (fun _ _ _ h => h) (Or.inl ⟨by rfl, ?y5p6⟩) (by assumption) ?r5p6
  case y5p6 => (intro x hx; (try dsimp only at hx); go_simp; try with_reducible rfl)
  try simp only [Act.put, List.setIfInBounds_toArray, List.set_cons_zero, List.set_cons_succ]
  refine wpAnyH_take (i := 6) (oi := { dst := some 111, op := Op.load 28 (Operand.tmp 110), type := 28, pos := "law.go:107", after := #[{ on := 5, ground := Ground.data }], guard := none }) (v := ?v6p6) rfl (by kernel_rfl) (by kernel_rfl) (by kernel_rfl) (fun _ _ _ h => h) (Or.inl ⟨by rfl, ?y6p6⟩) (by assumption) ?r6p6
  case y6p6 => (intro x hx; (try dsimp only at hx); go_simp; try with_reducible rfl)
  try simp only [Act.put, List.setIfInBounds_toArray, List.set_cons_zero, List.set_cons_succ]
  refine wpAnyH_take (i := 7) (oi := { dst := some 112, op := Op.move (Operand.tmp 11), type := 3, pos := "law.go:107", after := #[], guard := none }) (v := ?v7p6) rfl (by kernel_rfl) (by kernel_rfl) (by kernel_rfl) (fun _ _ _ h => h) (Or.inl ⟨by rfl, ?y7p6⟩) (by assumption) ?r7p6
  case y7p6 => (intro x hx; (try dsimp only at hx); go_simp; try with_reducible rfl)
  try simp only [Act.put, List.setIfInBounds_toArray, List.set_cons_zero, List.set_cons_succ]
  refine wpAnyH_take (i := 8) (oi := { dst := some 113, op := Op.slice 28 (Operand.tmp 111) none (some (Operand.tmp 112)) none, type := 28, pos := "law.go:107", after := #[{ on := 6, ground := Ground.data }, { on := 7, ground := Ground.data }], guard := none }) (v := ?v8p6) rfl (by kernel_rfl) (by kernel_rfl) (by kernel_rfl) (fun _ _ _ h => h) (Or.inl ⟨by rfl, ?y8p6⟩) (by assumption) ?r8p6
  case y8p6 => (intro x hx; (try dsimp only at hx); go_simp; try with_reducible rfl)
  try simp only [Act.put, List.setIfInBounds_toArray, List.set_cons_zero, List.set_cons_succ]
  refine wpAnyH_ready (rs := [2]) (by kernel_rfl) (by simp) ?_
  refine AllReadyH.cons (o := { dst := some 107, op := Op.call { callee := Callee.value (Operand.func 12), args := #[Operand.tmp 105, Operand.tmp 106], argTypes := #[24, 3] }, type := 28, pos := "law.go:107", after := #[{ on := 0, ground := Ground.data }, { on := 1, ground := Ground.data }], guard := none }) rfl (fun K hK => ?_) AllReadyH.nil
  go_simp
  go_at_call 12
  refine (pairs_n gt h S hS6 M _ HDD.out.tree).mono ?_
  rintro e u1 ⟨vl, rfl, r1, b1⟩
  have HD1 : Hid (Duo u1 gt gr h M (.slice a N cap)) := HDD.out.below b1
  have HL1 : Hid (Rd u1 vl ((allOf M).take S)) := r1
  have HB1 : Hid (Below w.heap.size w u1) := HBE.out.trans (b1.mono HBE.out.size)
  have hSnew : u1.cell? ⟨gr, 0, none⟩ = some (.slice a N cap) := (by obtain ⟨_, _, _, hcc, _⟩ := ref_form HD1.out.ref; exact hcc)
  clear r1 b1
  go_wp2_with fail
  refine hK.out _ _ hSnew (fun hHeld2 => ?_)
  clear hK K hSnew
  clear hHeld
  have hHeld := hHeld2
  clear hHeld2
  try simp only [Act.put, List.setIfInBounds_toArray, List.set_cons_zero, List.set_cons_succ]
  refine wpAnyH_ready (rs := [9]) (by kernel_rfl) (by simp) ?_
  refine AllReadyH.cons (o := { dst := some 114, op := Op.call { callee := Callee.value (Operand.func 18), args := #[Operand.tmp 107, Operand.tmp 113], argTypes := #[28, 28] }, type := 4, pos := "law.go:107", after := #[{ on := 2, ground := Ground.data }, { on := 8, ground := Ground.data }, { on := 2, ground := Ground.chain }], guard := none }) rfl (fun K hK => ?_) AllReadyH.nil
  go_simp
  go_at_call 18
  refine (same_t _ _ _ ((allOf M).take S) HL1.out (Rd.take HD1.out.ref.2.1 HN.out hSN).1).mono ?_
  rintro e u2 ⟨rfl, b2⟩
  have HD2 : Hid (Duo u2 gt gr h M (.slice a N cap)) := HD1.out.below b2
  have HB2 : Hid (Below w.heap.size w u2) := HB1.out.trans (b2.mono HB1.out.size)
  have hSnew : u2.cell? ⟨gr, 0, none⟩ = some (.slice a N cap) := (by obtain ⟨_, _, _, hcc, _⟩ := ref_form HD2.out.ref; exact hcc)
  clear b2
  go_wp2_with fail
  refine hK.out _ _ hSnew (fun hHeld9 => ?_)
  clear hK K hSnew
  clear hHeld
  have hHeld := hHeld9
  clear hHeld9
  try simp only [Act.put, List.setIfInBounds_toArray, List.set_cons_zero, List.set_cons_succ]
  refine wpAnyH_take (i := 10) (oi := { dst := some 6, op := Op.assign (Operand.tmp 114), type := 4, pos := "law.go:107", after := #[{ on := 9, ground := Ground.data }, { on := 9, ground := Ground.chain }, { on := 0, ground := Ground.phase }, { on := 1, ground := Ground.phase }, { on := 2, ground := Ground.phase }, { on := 3, ground := Ground.phase }, { on := 4, ground := Ground.phase }, { on := 5, ground := Ground.phase }, { on := 6, ground := Ground.phase }, { on := 7, ground := Ground.phase }, { on := 8, ground := Ground.phase }, { on := 9, ground := Ground.phase }], guard := none }) (v := ?v10p6) rfl (by kernel_rfl) (by kernel_rfl) (by kernel_rfl) (fun _ _ _ h => h) (Or.inl ⟨by rfl, ?y10p6⟩) (by assumption) ?r10p6
  case y10p6 => (intro x hx; (try dsimp only at hx); go_simp; try with_reducible rfl)
  try simp only [Act.put, List.setIfInBounds_toArray, List.set_cons_zero, List.set_cons_succ]
  refine wpAnyH_done (by kernel_rfl) ?_ _
  go_wp2
  go_ret
  exact ⟨rfl, h, M, _, HD2.out, Chg2.of_below HB2.out⟩


end Go.Proofs.Ytjginocbbnmgaaa
