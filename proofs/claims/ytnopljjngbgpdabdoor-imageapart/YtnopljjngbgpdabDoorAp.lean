/-
  SEAT YtnopljjngbgpdabDoor: Diff is empty of like images alone (in part).
-/
import Derived.Test.YtnopljjngbgpdabDoorDt
namespace Go.Proofs.YtnopljjngbgpdabDoor
open Go.RowKit
set_option linter.unusedVariables false

/-- The boxes of three images. -/
structure Bx3 (w W : World) (v1 v2 v3 : Array Value) : Prop where
  bel : Below w.heap.size w W
  b1 : W.heap[w.heap.size]? = some (.cells v1 27 (0, 0))
  b2 : W.heap[w.heap.size + 1]? = some (.cells v2 27 (0, 0))
  b3 : W.heap[w.heap.size + 1 + 1]? = some (.cells v3 27 (0, 0))
theorem Bx3.below {w W X : World} {v1 v2 v3 : Array Value} (h : Bx3 w W v1 v2 v3) (hb : Below W.heap.size W X) : Bx3 w X v1 v2 v3 :=
  ⟨below_trans h.bel hb, (hb.block _ (lt_of_b h.b1)).trans h.b1, (hb.block _ (lt_of_b h.b2)).trans h.b2, (hb.block _ (lt_of_b h.b3)).trans h.b3⟩
theorem Bx3.new (w : World) (v1 v2 v3 : Array Value) : Bx3 w (((w.alloc (.cells v1 27)).alloc (.cells v2 27)).alloc (.cells v3 27)) v1 v2 v3 := by
  refine ⟨below_trans (below_trans (below_alloc w _) (below_alloc _ _)) (below_alloc _ _), ?_, ?_, ?_⟩
  · exact (Below.heap_alloc _ _ _ (by simp; omega)).trans ((Below.heap_alloc _ _ _ (by simp)).trans (heap_alloc_new w _))
  · have h9 := heap_alloc_new (w.alloc (.cells v1 27)) (.cells v2 27)
    rw [World.size_alloc] at h9
    exact (Below.heap_alloc _ _ _ (by simp)).trans h9
  · have h9 := heap_alloc_new ((w.alloc (.cells v1 27)).alloc (.cells v2 27)) (.cells v3 27)
    simp only [World.size_alloc] at h9
    exact h9
theorem below_dr (w : World) : Below w.heap.size w w.drew := ⟨rfl, rfl, rfl, Nat.le_refl _, fun _ _ => rfl⟩
theorem ownP_nil {W : World} {B : Nat} {v : Value} (h : W.ownsRow B 50 2 v ([] : List Pl).length (flatP [])) : ∃ r k, v = .slice r 0 k := by
  obtain ⟨r, k, rfl, _⟩ := ownP_reads h
  exact ⟨r, k, rfl⟩

set_option maxHeartbeats 8000000 in
set_option maxRecDepth 100000 in
theorem apart_bada (b q s : Int) (a1 a2 : Option Addr) (n1 c1 n2 c2 : Nat) (xs : List Int) (ms : List Bool) (b' q' s' : Int) (a3 a4 : Option Addr) (n3 c3 n4 c4 : Nat) (ys : List Int) (ns : List Bool) (bc qc sc : Int) (a5 a6 : Option Addr) (n5 c5 n6 c6 : Nat) (zs : List Int) (ts : List Bool) (w : World) (h1 : n1 ≤ 140737488351232) (h2 : n2 ≤ 140737488351232) (r1 : Reads w a1 n1 xs) (r2 : ReadsB w a2 n2 ms) (k1 : n1 ≤ c1) (k2 : c1 ≤ 9223372036854775807) (h3 : n3 ≤ 140737488351232) (h4 : n4 ≤ 140737488351232) (r3 : Reads w a3 n3 ys) (r4 : ReadsB w a4 n4 ns) (k3 : n3 ≤ c3) (k4 : c3 ≤ 9223372036854775807) (h5 : n5 ≤ 140737488351232) (h6 : n6 ≤ 140737488351232) (r5 : Reads w a5 n5 zs) (r6 : ReadsB w a6 n6 ts) (k5 : n5 ≤ c5) (k6 : c5 ≤ 9223372036854775807) (ht : Tab w) (hEA : chkE b q s n1 n2 ≠ 0) :
    Calls Tryd.prog 7 #[.agg #[.int .i64 b, .int .i64 q, .int .i64 s, .slice a1 n1 c1, .slice a2 n2 c2], .agg #[.int .i64 b', .int .i64 q', .int .i64 s', .slice a3 n3 c3, .slice a4 n4 c4], .agg #[.int .i64 bc, .int .i64 qc, .int .i64 sc, .slice a5 n5 c5, .slice a6 n6 c6]] w fun e w' => e = .returned (.bool true) ∧ Below w.heap.size w w' := by
  have hd1 : difE b q s b' q' s' (chkE b q s n1 n2) (chkE b' q' s' n3 n4) ≠ 0 := by unfold difE; rw [if_neg hEA]; exact hEA
  have hd2 : difE b' q' s' b q s (chkE b' q' s' n3 n4) (chkE b q s n1 n2) ≠ 0 := by
    unfold difE
    by_cases h9 : chkE b' q' s' n3 n4 = 0
    · rw [if_pos h9, if_neg hEA]; exact hEA
    · rw [if_neg h9]; exact h9
  obtain ⟨e1, he1⟩ : ∃ e1, difE b q s b' q' s' (chkE b q s n1 n2) (chkE b' q' s' n3 n4) = e1 := ⟨_, rfl⟩
  obtain ⟨e2, he2⟩ : ∃ e2, difE b' q' s' b q s (chkE b' q' s' n3 n4) (chkE b q s n1 n2) = e2 := ⟨_, rfl⟩
  have HD1 : Hid (difE b q s b' q' s' (chkE b q s n1 n2) (chkE b' q' s' n3 n4) = e1) := he1
  have HD2 : Hid (difE b' q' s' b q s (chkE b' q' s' n3 n4) (chkE b q s n1 n2) = e2) := he2
  rw [he1] at hd1
  rw [he2] at hd2
  have HL1 : Hid (difD b q s e1 xs ys ms ns = []) := by unfold Hid difD; rw [if_neg hd1]
  have HL2 : Hid (difD b' q' s' e2 ys xs ns ms = []) := by unfold Hid difD; rw [if_neg hd2]
  obtain ⟨EA, hA⟩ : ∃ EA, chkE b q s n1 n2 = EA := ⟨_, rfl⟩
  obtain ⟨EB, hB⟩ : ∃ EB, chkE b' q' s' n3 n4 = EB := ⟨_, rfl⟩
  obtain ⟨EC, hC⟩ : ∃ EC, chkE bc qc sc n5 n6 = EC := ⟨_, rfl⟩
  have HEA : Hid (chkE b q s n1 n2 = EA) := hA
  have HEB : Hid (chkE b' q' s' n3 n4 = EB) := hB
  have HEC : Hid (chkE bc qc sc n5 n6 = EC) := hC
  rw [hA] at hEA
  have p1 : (e1 != 0) = true := by simpa using hd1
  have p2 : (e2 != 0) = true := by simpa using hd2
  have p3 : (EA != 0) = true := by simpa using hEA
  have T1 : Hid True := trivial
  have T2 : Hid True := trivial
  clear he1 he2 hA hB hC hd1 hd2 hEA
  have HTB : Hid (Tab w) := ht
  have HR1 : Hid (Reads w a1 n1 xs) := r1
  have HR2 : Hid (ReadsB w a2 n2 ms) := r2
  have HR3 : Hid (Reads w a3 n3 ys) := r3
  have HR4 : Hid (ReadsB w a4 n4 ns) := r4
  have HR5 : Hid (Reads w a5 n5 zs) := r5
  have HR6 : Hid (ReadsB w a6 n6 ts) := r6
  have HKC : Hid ((n1 ≤ c1 ∧ c1 ≤ 9223372036854775807) ∧ (n3 ≤ c3 ∧ c3 ≤ 9223372036854775807) ∧ (n5 ≤ c5 ∧ c5 ≤ 9223372036854775807)) := ⟨⟨k1, k2⟩, ⟨k3, k4⟩, ⟨k5, k6⟩⟩
  have HX0 : Hid (Bx3 w (((w.alloc (.cells #[.int .i64 b, .int .i64 q, .int .i64 s, .slice a1 n1 c1, .slice a2 n2 c2] 27)).alloc (.cells #[.int .i64 b', .int .i64 q', .int .i64 s', .slice a3 n3 c3, .slice a4 n4 c4] 27)).alloc (.cells #[.int .i64 bc, .int .i64 qc, .int .i64 sc, .slice a5 n5 c5, .slice a6 n6 c6] 27)) #[.int .i64 b, .int .i64 q, .int .i64 s, .slice a1 n1 c1, .slice a2 n2 c2] #[.int .i64 b', .int .i64 q', .int .i64 s', .slice a3 n3 c3, .slice a4 n4 c4] #[.int .i64 bc, .int .i64 qc, .int .i64 sc, .slice a5 n5 c5, .slice a6 n6 c6]) := Bx3.new w _ _ _
  obtain ⟨x10, x11, x12, x13, x14⟩ := cells5 HX0.out.b1
  obtain ⟨x20, x21, x22, x23, x24⟩ := cells5 HX0.out.b2
  obtain ⟨x30, x31, x32, x33, x34⟩ := cells5 HX0.out.b3
  clear r1 r2 r3 r4 r5 r6 ht k1 k2 k3 k4 k5 k6
  go_enter Tryd.func7, Tryd.ntmps7
  go_upto_region 3 with (first
    | (go_at_call 9; refine (heads_any _ (HTB.out.below HX0.out.bel)).mono ?_; rintro e t1 ⟨rfl, bl1⟩
       have HX1 : Hid (Bx3 w t1 #[.int .i64 b, .int .i64 q, .int .i64 s, .slice a1 n1 c1, .slice a2 n2 c2] #[.int .i64 b', .int .i64 q', .int .i64 s', .slice a3 n3 c3, .slice a4 n4 c4] #[.int .i64 bc, .int .i64 qc, .int .i64 sc, .slice a5 n5 c5, .slice a6 n6 c6]) := HX0.out.below bl1
       clear bl1 x10 x11 x12 x13 x14 x20 x21 x22 x23 x24 x30 x31 x32 x33 x34))
  have HXD : Hid (Bx3 w t1.drew #[.int .i64 b, .int .i64 q, .int .i64 s, .slice a1 n1 c1, .slice a2 n2 c2] #[.int .i64 b', .int .i64 q', .int .i64 s', .slice a3 n3 c3, .slice a4 n4 c4] #[.int .i64 bc, .int .i64 qc, .int .i64 sc, .slice a5 n5 c5, .slice a6 n6 c6]) := HX1.out.below (below_dr _)
  refine wp_region_held_drew (S := (fun y : World => (y.cell? ⟨w.heap.size, 0, none⟩ = some (.int .i64 b) ∧ y.cell? ⟨w.heap.size, 1, none⟩ = some (.int .i64 q) ∧ y.cell? ⟨w.heap.size, 2, none⟩ = some (.int .i64 s) ∧ y.cell? ⟨w.heap.size, 3, none⟩ = some (.slice a1 n1 c1) ∧ y.cell? ⟨w.heap.size, 4, none⟩ = some (.slice a2 n2 c2)) ∧ (y.cell? ⟨w.heap.size + 1, 0, none⟩ = some (.int .i64 b') ∧ y.cell? ⟨w.heap.size + 1, 1, none⟩ = some (.int .i64 q') ∧ y.cell? ⟨w.heap.size + 1, 2, none⟩ = some (.int .i64 s') ∧ y.cell? ⟨w.heap.size + 1, 3, none⟩ = some (.slice a3 n3 c3) ∧ y.cell? ⟨w.heap.size + 1, 4, none⟩ = some (.slice a4 n4 c4)) ∧ (y.cell? ⟨w.heap.size + 1 + 1, 0, none⟩ = some (.int .i64 bc) ∧ y.cell? ⟨w.heap.size + 1 + 1, 1, none⟩ = some (.int .i64 qc) ∧ y.cell? ⟨w.heap.size + 1 + 1, 2, none⟩ = some (.int .i64 sc) ∧ y.cell? ⟨w.heap.size + 1 + 1, 3, none⟩ = some (.slice a5 n5 c5) ∧ y.cell? ⟨w.heap.size + 1 + 1, 4, none⟩ = some (.slice a6 n6 c6)))) (by kernel_rfl) (⟨cells5 HXD.out.b1, cells5 HXD.out.b2, cells5 HXD.out.b3⟩) (fun hHeld => ?_)
  refine wpAnyH_take (i := 0) (oi := { dst := some 23, op := Op.load 27 (Operand.tmp 3), type := 27, pos := "outright.go:151", after := #[], guard := none }) (v := ?v0ra) rfl (by kernel_rfl) (by kernel_rfl) (by kernel_rfl) (fun _ _ _ h => h) (Or.inl ⟨by rfl, ?y0ra⟩) (by assumption) ?r0ra
  case y0ra => (intro x hx; (try dsimp only at hx); go_simp; try with_reducible rfl)
  try simp only [Act.put, List.setIfInBounds_toArray, List.set_cons_zero, List.set_cons_succ]
  refine wpAnyH_take (i := 2) (oi := { dst := some 25, op := Op.load 27 (Operand.tmp 4), type := 27, pos := "outright.go:151", after := #[], guard := none }) (v := ?v2ra) rfl (by kernel_rfl) (by kernel_rfl) (by kernel_rfl) (fun _ _ _ h => h) (Or.inl ⟨by rfl, ?y2ra⟩) (by assumption) ?r2ra
  case y2ra => (intro x hx; (try dsimp only at hx); go_simp; try with_reducible rfl)
  try simp only [Act.put, List.setIfInBounds_toArray, List.set_cons_zero, List.set_cons_succ]
  refine wpAnyH_take (i := 4) (oi := { dst := some 27, op := Op.load 27 (Operand.tmp 5), type := 27, pos := "outright.go:151", after := #[], guard := none }) (v := ?v4ra) rfl (by kernel_rfl) (by kernel_rfl) (by kernel_rfl) (fun _ _ _ h => h) (Or.inl ⟨by rfl, ?y4ra⟩) (by assumption) ?r4ra
  case y4ra => (intro x hx; (try dsimp only at hx); go_simp; try with_reducible rfl)
  try simp only [Act.put, List.setIfInBounds_toArray, List.set_cons_zero, List.set_cons_succ]
  refine wpAnyH_ready (rs := [1]) (by kernel_rfl) (by simp) ?_
  refine AllReadyH.cons (o := { dst := some 24, op := Op.call { callee := Callee.value (Operand.func 10), args := #[Operand.tmp 23], argTypes := #[27] }, type := 29, pos := "outright.go:151", after := #[{ on := 0, ground := Ground.data }], guard := none }) rfl (fun K hK => ?_) AllReadyH.nil
  go_simp
  go_at_call 10
  refine (check_any b q s a1 a2 n1 c1 n2 c2 _ (by omega) (by omega)).mono ?_
  rintro e t2 ⟨rfl, bl⟩
  rw [HEA.out]
  have HX2 : Hid (Bx3 w t2 #[.int .i64 b, .int .i64 q, .int .i64 s, .slice a1 n1 c1, .slice a2 n2 c2] #[.int .i64 b', .int .i64 q', .int .i64 s', .slice a3 n3 c3, .slice a4 n4 c4] #[.int .i64 bc, .int .i64 qc, .int .i64 sc, .slice a5 n5 c5, .slice a6 n6 c6]) := HXD.out.below bl
  have hSnew := (And.intro (cells5 HX2.out.b1) (And.intro (cells5 HX2.out.b2) (cells5 HX2.out.b3)))
  clear bl
  go_wp2_with fail
  refine hK.out _ _ hSnew (fun hHeld1 => ?_)
  clear hK K hSnew
  clear hHeld
  have hHeld := hHeld1
  clear hHeld1
  try simp only [Act.put, List.setIfInBounds_toArray, List.set_cons_zero, List.set_cons_succ]
  refine wpAnyH_ready (rs := [3]) (by kernel_rfl) (by simp) ?_
  refine AllReadyH.cons (o := { dst := some 26, op := Op.call { callee := Callee.value (Operand.func 10), args := #[Operand.tmp 25], argTypes := #[27] }, type := 29, pos := "outright.go:151", after := #[{ on := 2, ground := Ground.data }, { on := 1, ground := Ground.chain }], guard := none }) rfl (fun K hK => ?_) AllReadyH.nil
  go_simp
  go_at_call 10
  refine (check_any b' q' s' a3 a4 n3 c3 n4 c4 _ (by omega) (by omega)).mono ?_
  rintro e t3 ⟨rfl, bl⟩
  rw [HEB.out]
  have HX3 : Hid (Bx3 w t3 #[.int .i64 b, .int .i64 q, .int .i64 s, .slice a1 n1 c1, .slice a2 n2 c2] #[.int .i64 b', .int .i64 q', .int .i64 s', .slice a3 n3 c3, .slice a4 n4 c4] #[.int .i64 bc, .int .i64 qc, .int .i64 sc, .slice a5 n5 c5, .slice a6 n6 c6]) := HX2.out.below bl
  have hSnew := (And.intro (cells5 HX3.out.b1) (And.intro (cells5 HX3.out.b2) (cells5 HX3.out.b3)))
  clear bl
  go_wp2_with fail
  refine hK.out _ _ hSnew (fun hHeld3 => ?_)
  clear hK K hSnew
  clear hHeld
  have hHeld := hHeld3
  clear hHeld3
  try simp only [Act.put, List.setIfInBounds_toArray, List.set_cons_zero, List.set_cons_succ]
  refine wpAnyH_ready (rs := [5]) (by kernel_rfl) (by simp) ?_
  refine AllReadyH.cons (o := { dst := some 28, op := Op.call { callee := Callee.value (Operand.func 10), args := #[Operand.tmp 27], argTypes := #[27] }, type := 29, pos := "outright.go:151", after := #[{ on := 4, ground := Ground.data }, { on := 3, ground := Ground.chain }], guard := none }) rfl (fun K hK => ?_) AllReadyH.nil
  go_simp
  go_at_call 10
  refine (check_any bc qc sc a5 a6 n5 c5 n6 c6 _ (by omega) (by omega)).mono ?_
  rintro e t4 ⟨rfl, bl⟩
  rw [HEC.out]
  have HX4 : Hid (Bx3 w t4 #[.int .i64 b, .int .i64 q, .int .i64 s, .slice a1 n1 c1, .slice a2 n2 c2] #[.int .i64 b', .int .i64 q', .int .i64 s', .slice a3 n3 c3, .slice a4 n4 c4] #[.int .i64 bc, .int .i64 qc, .int .i64 sc, .slice a5 n5 c5, .slice a6 n6 c6]) := HX3.out.below bl
  have hSnew := (And.intro (cells5 HX4.out.b1) (And.intro (cells5 HX4.out.b2) (cells5 HX4.out.b3)))
  clear bl
  go_wp2_with fail
  refine hK.out _ _ hSnew (fun hHeld5 => ?_)
  clear hK K hSnew
  clear hHeld
  have hHeld := hHeld5
  clear hHeld5
  try simp only [Act.put, List.setIfInBounds_toArray, List.set_cons_zero, List.set_cons_succ]
  refine wpAnyH_take (i := 6) (oi := { dst := some 7, op := Op.assign (Operand.tmp 24), type := 29, pos := "outright.go:151", after := #[{ on := 1, ground := Ground.data }, { on := 5, ground := Ground.chain }, { on := 0, ground := Ground.phase }, { on := 1, ground := Ground.phase }, { on := 2, ground := Ground.textOnly Departure.lateStores }, { on := 3, ground := Ground.textOnly Departure.lateStoresUnsure }, { on := 4, ground := Ground.textOnly Departure.lateStores }, { on := 5, ground := Ground.textOnly Departure.lateStoresUnsure }], guard := none }) (v := ?v6ra) rfl (by kernel_rfl) (by kernel_rfl) (by kernel_rfl) (fun _ _ _ h => h) (Or.inl ⟨by rfl, ?y6ra⟩) (by assumption) ?r6ra
  case y6ra => (intro x hx; (try dsimp only at hx); go_simp; try with_reducible rfl)
  try simp only [Act.put, List.setIfInBounds_toArray, List.set_cons_zero, List.set_cons_succ]
  refine wpAnyH_take (i := 7) (oi := { dst := some 8, op := Op.assign (Operand.tmp 26), type := 29, pos := "outright.go:151", after := #[{ on := 3, ground := Ground.data }, { on := 6, ground := Ground.chain }, { on := 0, ground := Ground.phase }, { on := 1, ground := Ground.phase }, { on := 2, ground := Ground.phase }, { on := 3, ground := Ground.phase }, { on := 4, ground := Ground.textOnly Departure.lateStores }, { on := 5, ground := Ground.textOnly Departure.lateStoresUnsure }, { on := 6, ground := Ground.phase }], guard := none }) (v := ?v7ra) rfl (by kernel_rfl) (by kernel_rfl) (by kernel_rfl) (fun _ _ _ h => h) (Or.inl ⟨by rfl, ?y7ra⟩) (by assumption) ?r7ra
  case y7ra => (intro x hx; (try dsimp only at hx); go_simp; try with_reducible rfl)
  try simp only [Act.put, List.setIfInBounds_toArray, List.set_cons_zero, List.set_cons_succ]
  refine wpAnyH_take (i := 8) (oi := { dst := some 9, op := Op.assign (Operand.tmp 28), type := 29, pos := "outright.go:151", after := #[{ on := 5, ground := Ground.data }, { on := 7, ground := Ground.chain }, { on := 0, ground := Ground.phase }, { on := 1, ground := Ground.phase }, { on := 2, ground := Ground.phase }, { on := 3, ground := Ground.phase }, { on := 4, ground := Ground.phase }, { on := 5, ground := Ground.phase }, { on := 6, ground := Ground.phase }, { on := 7, ground := Ground.phase }], guard := none }) (v := ?v8ra) rfl (by kernel_rfl) (by kernel_rfl) (by kernel_rfl) (fun _ _ _ h => h) (Or.inl ⟨by rfl, ?y8ra⟩) (by assumption) ?r8ra
  case y8ra => (intro x hx; (try dsimp only at hx); go_simp; try with_reducible rfl)
  try simp only [Act.put, List.setIfInBounds_toArray, List.set_cons_zero, List.set_cons_succ]
  refine wpAnyH_done (by kernel_rfl) ?_ _
  obtain ⟨x10, x11, x12, x13, x14⟩ := cells5 HX4.out.b1
  obtain ⟨x20, x21, x22, x23, x24⟩ := cells5 HX4.out.b2
  obtain ⟨x30, x31, x32, x33, x34⟩ := cells5 HX4.out.b3
  go_wp2_with (first
    | (go_at_call 18; have zz := T1; clear T1 zz; refine (diff_any b q s b' q' s' a1 a2 a3 a4 n1 c1 n2 c2 n3 c3 n4 c4 xs ys ms ns _ (by omega) (by omega) (by omega) (by omega) (HR1.out.below HX4.out.bel) (HR2.out.below HX4.out.bel) (HR3.out.below HX4.out.bel) (HR4.out.below HX4.out.bel) HKC.out.1 HKC.out.2.1).mono ?_; rintro e t5 ⟨vt5, rfl, ot5, bl⟩
       rw [HD1.out] at ot5 ⊢; rw [HL1.out] at ot5; obtain ⟨ra, ka, rfl⟩ := ownP_nil ot5; clear ot5
       have HX5 : Hid (Bx3 w t5 #[.int .i64 b, .int .i64 q, .int .i64 s, .slice a1 n1 c1, .slice a2 n2 c2] #[.int .i64 b', .int .i64 q', .int .i64 s', .slice a3 n3 c3, .slice a4 n4 c4] #[.int .i64 bc, .int .i64 qc, .int .i64 sc, .slice a5 n5 c5, .slice a6 n6 c6]) := HX4.out.below bl
       clear bl x10 x11 x12 x13 x14 x20 x21 x22 x23 x24 x30 x31 x32 x33 x34
       obtain ⟨x10, x11, x12, x13, x14⟩ := cells5 HX5.out.b1
       obtain ⟨x20, x21, x22, x23, x24⟩ := cells5 HX5.out.b2
       obtain ⟨x30, x31, x32, x33, x34⟩ := cells5 HX5.out.b3)
    | (go_at_call 18; have zz := T2; clear T2 zz; refine (diff_any b' q' s' b q s a3 a4 a1 a2 n3 c3 n4 c4 n1 c1 n2 c2 ys xs ns ms _ (by omega) (by omega) (by omega) (by omega) (HR3.out.below HX5.out.bel) (HR4.out.below HX5.out.bel) (HR1.out.below HX5.out.bel) (HR2.out.below HX5.out.bel) HKC.out.2.1 HKC.out.1).mono ?_; rintro e t6 ⟨vt6, rfl, ot6, bl⟩
       rw [HD2.out] at ot6 ⊢; rw [HL2.out] at ot6; obtain ⟨rb, kb, rfl⟩ := ownP_nil ot6; clear ot6
       have HX6 : Hid (Bx3 w t6 #[.int .i64 b, .int .i64 q, .int .i64 s, .slice a1 n1 c1, .slice a2 n2 c2] #[.int .i64 b', .int .i64 q', .int .i64 s', .slice a3 n3 c3, .slice a4 n4 c4] #[.int .i64 bc, .int .i64 qc, .int .i64 sc, .slice a5 n5 c5, .slice a6 n6 c6]) := HX5.out.below bl
       clear bl x10 x11 x12 x13 x14 x20 x21 x22 x23 x24 x30 x31 x32 x33 x34
       obtain ⟨x10, x11, x12, x13, x14⟩ := cells5 HX6.out.b1
       obtain ⟨x20, x21, x22, x23, x24⟩ := cells5 HX6.out.b2
       obtain ⟨x30, x31, x32, x33, x34⟩ := cells5 HX6.out.b3)
    | (go_at_call 12; refine (no_any _ _).mono ?_; rintro e u9 ⟨rfl, h9⟩; rw [h9]; clear h9))
  go_ret
  exact ⟨by simp, HX6.out.bel⟩

set_option maxHeartbeats 8000000 in
set_option maxRecDepth 100000 in
theorem apart_badb (b q s : Int) (a1 a2 : Option Addr) (n1 c1 n2 c2 : Nat) (xs : List Int) (ms : List Bool) (b' q' s' : Int) (a3 a4 : Option Addr) (n3 c3 n4 c4 : Nat) (ys : List Int) (ns : List Bool) (bc qc sc : Int) (a5 a6 : Option Addr) (n5 c5 n6 c6 : Nat) (zs : List Int) (ts : List Bool) (w : World) (h1 : n1 ≤ 140737488351232) (h2 : n2 ≤ 140737488351232) (r1 : Reads w a1 n1 xs) (r2 : ReadsB w a2 n2 ms) (k1 : n1 ≤ c1) (k2 : c1 ≤ 9223372036854775807) (h3 : n3 ≤ 140737488351232) (h4 : n4 ≤ 140737488351232) (r3 : Reads w a3 n3 ys) (r4 : ReadsB w a4 n4 ns) (k3 : n3 ≤ c3) (k4 : c3 ≤ 9223372036854775807) (h5 : n5 ≤ 140737488351232) (h6 : n6 ≤ 140737488351232) (r5 : Reads w a5 n5 zs) (r6 : ReadsB w a6 n6 ts) (k5 : n5 ≤ c5) (k6 : c5 ≤ 9223372036854775807) (ht : Tab w) (hEA : chkE b q s n1 n2 = 0) (hEB : chkE b' q' s' n3 n4 ≠ 0) :
    Calls Tryd.prog 7 #[.agg #[.int .i64 b, .int .i64 q, .int .i64 s, .slice a1 n1 c1, .slice a2 n2 c2], .agg #[.int .i64 b', .int .i64 q', .int .i64 s', .slice a3 n3 c3, .slice a4 n4 c4], .agg #[.int .i64 bc, .int .i64 qc, .int .i64 sc, .slice a5 n5 c5, .slice a6 n6 c6]] w fun e w' => e = .returned (.bool true) ∧ Below w.heap.size w w' := by
  have hd1 : difE b q s b' q' s' (chkE b q s n1 n2) (chkE b' q' s' n3 n4) ≠ 0 := by unfold difE; rw [if_pos hEA, if_neg hEB]; exact hEB
  have hd2 : difE b' q' s' b q s (chkE b' q' s' n3 n4) (chkE b q s n1 n2) ≠ 0 := by
    unfold difE
    rw [if_neg hEB]; exact hEB
  obtain ⟨e1, he1⟩ : ∃ e1, difE b q s b' q' s' (chkE b q s n1 n2) (chkE b' q' s' n3 n4) = e1 := ⟨_, rfl⟩
  obtain ⟨e2, he2⟩ : ∃ e2, difE b' q' s' b q s (chkE b' q' s' n3 n4) (chkE b q s n1 n2) = e2 := ⟨_, rfl⟩
  have HD1 : Hid (difE b q s b' q' s' (chkE b q s n1 n2) (chkE b' q' s' n3 n4) = e1) := he1
  have HD2 : Hid (difE b' q' s' b q s (chkE b' q' s' n3 n4) (chkE b q s n1 n2) = e2) := he2
  rw [he1] at hd1
  rw [he2] at hd2
  have HL1 : Hid (difD b q s e1 xs ys ms ns = []) := by unfold Hid difD; rw [if_neg hd1]
  have HL2 : Hid (difD b' q' s' e2 ys xs ns ms = []) := by unfold Hid difD; rw [if_neg hd2]
  obtain ⟨EA, hA⟩ : ∃ EA, chkE b q s n1 n2 = EA := ⟨_, rfl⟩
  obtain ⟨EB, hB⟩ : ∃ EB, chkE b' q' s' n3 n4 = EB := ⟨_, rfl⟩
  obtain ⟨EC, hC⟩ : ∃ EC, chkE bc qc sc n5 n6 = EC := ⟨_, rfl⟩
  have HEA : Hid (chkE b q s n1 n2 = EA) := hA
  have HEB : Hid (chkE b' q' s' n3 n4 = EB) := hB
  have HEC : Hid (chkE bc qc sc n5 n6 = EC) := hC
  rw [hA] at hEA
  rw [hB] at hEB
  have p1 : (e1 != 0) = true := by simpa using hd1
  have p2 : (e2 != 0) = true := by simpa using hd2
  have p3 : (EA != 0) = false := by simp [hEA]
  have p4 : (EB != 0) = true := by simpa using hEB
  have T1 : Hid True := trivial
  have T2 : Hid True := trivial
  clear he1 he2 hA hB hC hd1 hd2 hEA hEB
  have HTB : Hid (Tab w) := ht
  have HR1 : Hid (Reads w a1 n1 xs) := r1
  have HR2 : Hid (ReadsB w a2 n2 ms) := r2
  have HR3 : Hid (Reads w a3 n3 ys) := r3
  have HR4 : Hid (ReadsB w a4 n4 ns) := r4
  have HR5 : Hid (Reads w a5 n5 zs) := r5
  have HR6 : Hid (ReadsB w a6 n6 ts) := r6
  have HKC : Hid ((n1 ≤ c1 ∧ c1 ≤ 9223372036854775807) ∧ (n3 ≤ c3 ∧ c3 ≤ 9223372036854775807) ∧ (n5 ≤ c5 ∧ c5 ≤ 9223372036854775807)) := ⟨⟨k1, k2⟩, ⟨k3, k4⟩, ⟨k5, k6⟩⟩
  have HX0 : Hid (Bx3 w (((w.alloc (.cells #[.int .i64 b, .int .i64 q, .int .i64 s, .slice a1 n1 c1, .slice a2 n2 c2] 27)).alloc (.cells #[.int .i64 b', .int .i64 q', .int .i64 s', .slice a3 n3 c3, .slice a4 n4 c4] 27)).alloc (.cells #[.int .i64 bc, .int .i64 qc, .int .i64 sc, .slice a5 n5 c5, .slice a6 n6 c6] 27)) #[.int .i64 b, .int .i64 q, .int .i64 s, .slice a1 n1 c1, .slice a2 n2 c2] #[.int .i64 b', .int .i64 q', .int .i64 s', .slice a3 n3 c3, .slice a4 n4 c4] #[.int .i64 bc, .int .i64 qc, .int .i64 sc, .slice a5 n5 c5, .slice a6 n6 c6]) := Bx3.new w _ _ _
  obtain ⟨x10, x11, x12, x13, x14⟩ := cells5 HX0.out.b1
  obtain ⟨x20, x21, x22, x23, x24⟩ := cells5 HX0.out.b2
  obtain ⟨x30, x31, x32, x33, x34⟩ := cells5 HX0.out.b3
  clear r1 r2 r3 r4 r5 r6 ht k1 k2 k3 k4 k5 k6
  go_enter Tryd.func7, Tryd.ntmps7
  go_upto_region 3 with (first
    | (go_at_call 9; refine (heads_any _ (HTB.out.below HX0.out.bel)).mono ?_; rintro e t1 ⟨rfl, bl1⟩
       have HX1 : Hid (Bx3 w t1 #[.int .i64 b, .int .i64 q, .int .i64 s, .slice a1 n1 c1, .slice a2 n2 c2] #[.int .i64 b', .int .i64 q', .int .i64 s', .slice a3 n3 c3, .slice a4 n4 c4] #[.int .i64 bc, .int .i64 qc, .int .i64 sc, .slice a5 n5 c5, .slice a6 n6 c6]) := HX0.out.below bl1
       clear bl1 x10 x11 x12 x13 x14 x20 x21 x22 x23 x24 x30 x31 x32 x33 x34))
  have HXD : Hid (Bx3 w t1.drew #[.int .i64 b, .int .i64 q, .int .i64 s, .slice a1 n1 c1, .slice a2 n2 c2] #[.int .i64 b', .int .i64 q', .int .i64 s', .slice a3 n3 c3, .slice a4 n4 c4] #[.int .i64 bc, .int .i64 qc, .int .i64 sc, .slice a5 n5 c5, .slice a6 n6 c6]) := HX1.out.below (below_dr _)
  refine wp_region_held_drew (S := (fun y : World => (y.cell? ⟨w.heap.size, 0, none⟩ = some (.int .i64 b) ∧ y.cell? ⟨w.heap.size, 1, none⟩ = some (.int .i64 q) ∧ y.cell? ⟨w.heap.size, 2, none⟩ = some (.int .i64 s) ∧ y.cell? ⟨w.heap.size, 3, none⟩ = some (.slice a1 n1 c1) ∧ y.cell? ⟨w.heap.size, 4, none⟩ = some (.slice a2 n2 c2)) ∧ (y.cell? ⟨w.heap.size + 1, 0, none⟩ = some (.int .i64 b') ∧ y.cell? ⟨w.heap.size + 1, 1, none⟩ = some (.int .i64 q') ∧ y.cell? ⟨w.heap.size + 1, 2, none⟩ = some (.int .i64 s') ∧ y.cell? ⟨w.heap.size + 1, 3, none⟩ = some (.slice a3 n3 c3) ∧ y.cell? ⟨w.heap.size + 1, 4, none⟩ = some (.slice a4 n4 c4)) ∧ (y.cell? ⟨w.heap.size + 1 + 1, 0, none⟩ = some (.int .i64 bc) ∧ y.cell? ⟨w.heap.size + 1 + 1, 1, none⟩ = some (.int .i64 qc) ∧ y.cell? ⟨w.heap.size + 1 + 1, 2, none⟩ = some (.int .i64 sc) ∧ y.cell? ⟨w.heap.size + 1 + 1, 3, none⟩ = some (.slice a5 n5 c5) ∧ y.cell? ⟨w.heap.size + 1 + 1, 4, none⟩ = some (.slice a6 n6 c6)))) (by kernel_rfl) (⟨cells5 HXD.out.b1, cells5 HXD.out.b2, cells5 HXD.out.b3⟩) (fun hHeld => ?_)
  refine wpAnyH_take (i := 0) (oi := { dst := some 23, op := Op.load 27 (Operand.tmp 3), type := 27, pos := "outright.go:151", after := #[], guard := none }) (v := ?v0ra) rfl (by kernel_rfl) (by kernel_rfl) (by kernel_rfl) (fun _ _ _ h => h) (Or.inl ⟨by rfl, ?y0ra⟩) (by assumption) ?r0ra
  case y0ra => (intro x hx; (try dsimp only at hx); go_simp; try with_reducible rfl)
  try simp only [Act.put, List.setIfInBounds_toArray, List.set_cons_zero, List.set_cons_succ]
  refine wpAnyH_take (i := 2) (oi := { dst := some 25, op := Op.load 27 (Operand.tmp 4), type := 27, pos := "outright.go:151", after := #[], guard := none }) (v := ?v2ra) rfl (by kernel_rfl) (by kernel_rfl) (by kernel_rfl) (fun _ _ _ h => h) (Or.inl ⟨by rfl, ?y2ra⟩) (by assumption) ?r2ra
  case y2ra => (intro x hx; (try dsimp only at hx); go_simp; try with_reducible rfl)
  try simp only [Act.put, List.setIfInBounds_toArray, List.set_cons_zero, List.set_cons_succ]
  refine wpAnyH_take (i := 4) (oi := { dst := some 27, op := Op.load 27 (Operand.tmp 5), type := 27, pos := "outright.go:151", after := #[], guard := none }) (v := ?v4ra) rfl (by kernel_rfl) (by kernel_rfl) (by kernel_rfl) (fun _ _ _ h => h) (Or.inl ⟨by rfl, ?y4ra⟩) (by assumption) ?r4ra
  case y4ra => (intro x hx; (try dsimp only at hx); go_simp; try with_reducible rfl)
  try simp only [Act.put, List.setIfInBounds_toArray, List.set_cons_zero, List.set_cons_succ]
  refine wpAnyH_ready (rs := [1]) (by kernel_rfl) (by simp) ?_
  refine AllReadyH.cons (o := { dst := some 24, op := Op.call { callee := Callee.value (Operand.func 10), args := #[Operand.tmp 23], argTypes := #[27] }, type := 29, pos := "outright.go:151", after := #[{ on := 0, ground := Ground.data }], guard := none }) rfl (fun K hK => ?_) AllReadyH.nil
  go_simp
  go_at_call 10
  refine (check_any b q s a1 a2 n1 c1 n2 c2 _ (by omega) (by omega)).mono ?_
  rintro e t2 ⟨rfl, bl⟩
  rw [HEA.out]
  have HX2 : Hid (Bx3 w t2 #[.int .i64 b, .int .i64 q, .int .i64 s, .slice a1 n1 c1, .slice a2 n2 c2] #[.int .i64 b', .int .i64 q', .int .i64 s', .slice a3 n3 c3, .slice a4 n4 c4] #[.int .i64 bc, .int .i64 qc, .int .i64 sc, .slice a5 n5 c5, .slice a6 n6 c6]) := HXD.out.below bl
  have hSnew := (And.intro (cells5 HX2.out.b1) (And.intro (cells5 HX2.out.b2) (cells5 HX2.out.b3)))
  clear bl
  go_wp2_with fail
  refine hK.out _ _ hSnew (fun hHeld1 => ?_)
  clear hK K hSnew
  clear hHeld
  have hHeld := hHeld1
  clear hHeld1
  try simp only [Act.put, List.setIfInBounds_toArray, List.set_cons_zero, List.set_cons_succ]
  refine wpAnyH_ready (rs := [3]) (by kernel_rfl) (by simp) ?_
  refine AllReadyH.cons (o := { dst := some 26, op := Op.call { callee := Callee.value (Operand.func 10), args := #[Operand.tmp 25], argTypes := #[27] }, type := 29, pos := "outright.go:151", after := #[{ on := 2, ground := Ground.data }, { on := 1, ground := Ground.chain }], guard := none }) rfl (fun K hK => ?_) AllReadyH.nil
  go_simp
  go_at_call 10
  refine (check_any b' q' s' a3 a4 n3 c3 n4 c4 _ (by omega) (by omega)).mono ?_
  rintro e t3 ⟨rfl, bl⟩
  rw [HEB.out]
  have HX3 : Hid (Bx3 w t3 #[.int .i64 b, .int .i64 q, .int .i64 s, .slice a1 n1 c1, .slice a2 n2 c2] #[.int .i64 b', .int .i64 q', .int .i64 s', .slice a3 n3 c3, .slice a4 n4 c4] #[.int .i64 bc, .int .i64 qc, .int .i64 sc, .slice a5 n5 c5, .slice a6 n6 c6]) := HX2.out.below bl
  have hSnew := (And.intro (cells5 HX3.out.b1) (And.intro (cells5 HX3.out.b2) (cells5 HX3.out.b3)))
  clear bl
  go_wp2_with fail
  refine hK.out _ _ hSnew (fun hHeld3 => ?_)
  clear hK K hSnew
  clear hHeld
  have hHeld := hHeld3
  clear hHeld3
  try simp only [Act.put, List.setIfInBounds_toArray, List.set_cons_zero, List.set_cons_succ]
  refine wpAnyH_ready (rs := [5]) (by kernel_rfl) (by simp) ?_
  refine AllReadyH.cons (o := { dst := some 28, op := Op.call { callee := Callee.value (Operand.func 10), args := #[Operand.tmp 27], argTypes := #[27] }, type := 29, pos := "outright.go:151", after := #[{ on := 4, ground := Ground.data }, { on := 3, ground := Ground.chain }], guard := none }) rfl (fun K hK => ?_) AllReadyH.nil
  go_simp
  go_at_call 10
  refine (check_any bc qc sc a5 a6 n5 c5 n6 c6 _ (by omega) (by omega)).mono ?_
  rintro e t4 ⟨rfl, bl⟩
  rw [HEC.out]
  have HX4 : Hid (Bx3 w t4 #[.int .i64 b, .int .i64 q, .int .i64 s, .slice a1 n1 c1, .slice a2 n2 c2] #[.int .i64 b', .int .i64 q', .int .i64 s', .slice a3 n3 c3, .slice a4 n4 c4] #[.int .i64 bc, .int .i64 qc, .int .i64 sc, .slice a5 n5 c5, .slice a6 n6 c6]) := HX3.out.below bl
  have hSnew := (And.intro (cells5 HX4.out.b1) (And.intro (cells5 HX4.out.b2) (cells5 HX4.out.b3)))
  clear bl
  go_wp2_with fail
  refine hK.out _ _ hSnew (fun hHeld5 => ?_)
  clear hK K hSnew
  clear hHeld
  have hHeld := hHeld5
  clear hHeld5
  try simp only [Act.put, List.setIfInBounds_toArray, List.set_cons_zero, List.set_cons_succ]
  refine wpAnyH_take (i := 6) (oi := { dst := some 7, op := Op.assign (Operand.tmp 24), type := 29, pos := "outright.go:151", after := #[{ on := 1, ground := Ground.data }, { on := 5, ground := Ground.chain }, { on := 0, ground := Ground.phase }, { on := 1, ground := Ground.phase }, { on := 2, ground := Ground.textOnly Departure.lateStores }, { on := 3, ground := Ground.textOnly Departure.lateStoresUnsure }, { on := 4, ground := Ground.textOnly Departure.lateStores }, { on := 5, ground := Ground.textOnly Departure.lateStoresUnsure }], guard := none }) (v := ?v6ra) rfl (by kernel_rfl) (by kernel_rfl) (by kernel_rfl) (fun _ _ _ h => h) (Or.inl ⟨by rfl, ?y6ra⟩) (by assumption) ?r6ra
  case y6ra => (intro x hx; (try dsimp only at hx); go_simp; try with_reducible rfl)
  try simp only [Act.put, List.setIfInBounds_toArray, List.set_cons_zero, List.set_cons_succ]
  refine wpAnyH_take (i := 7) (oi := { dst := some 8, op := Op.assign (Operand.tmp 26), type := 29, pos := "outright.go:151", after := #[{ on := 3, ground := Ground.data }, { on := 6, ground := Ground.chain }, { on := 0, ground := Ground.phase }, { on := 1, ground := Ground.phase }, { on := 2, ground := Ground.phase }, { on := 3, ground := Ground.phase }, { on := 4, ground := Ground.textOnly Departure.lateStores }, { on := 5, ground := Ground.textOnly Departure.lateStoresUnsure }, { on := 6, ground := Ground.phase }], guard := none }) (v := ?v7ra) rfl (by kernel_rfl) (by kernel_rfl) (by kernel_rfl) (fun _ _ _ h => h) (Or.inl ⟨by rfl, ?y7ra⟩) (by assumption) ?r7ra
  case y7ra => (intro x hx; (try dsimp only at hx); go_simp; try with_reducible rfl)
  try simp only [Act.put, List.setIfInBounds_toArray, List.set_cons_zero, List.set_cons_succ]
  refine wpAnyH_take (i := 8) (oi := { dst := some 9, op := Op.assign (Operand.tmp 28), type := 29, pos := "outright.go:151", after := #[{ on := 5, ground := Ground.data }, { on := 7, ground := Ground.chain }, { on := 0, ground := Ground.phase }, { on := 1, ground := Ground.phase }, { on := 2, ground := Ground.phase }, { on := 3, ground := Ground.phase }, { on := 4, ground := Ground.phase }, { on := 5, ground := Ground.phase }, { on := 6, ground := Ground.phase }, { on := 7, ground := Ground.phase }], guard := none }) (v := ?v8ra) rfl (by kernel_rfl) (by kernel_rfl) (by kernel_rfl) (fun _ _ _ h => h) (Or.inl ⟨by rfl, ?y8ra⟩) (by assumption) ?r8ra
  case y8ra => (intro x hx; (try dsimp only at hx); go_simp; try with_reducible rfl)
  try simp only [Act.put, List.setIfInBounds_toArray, List.set_cons_zero, List.set_cons_succ]
  refine wpAnyH_done (by kernel_rfl) ?_ _
  obtain ⟨x10, x11, x12, x13, x14⟩ := cells5 HX4.out.b1
  obtain ⟨x20, x21, x22, x23, x24⟩ := cells5 HX4.out.b2
  obtain ⟨x30, x31, x32, x33, x34⟩ := cells5 HX4.out.b3
  go_wp2_with (first
    | (go_at_call 18; have zz := T1; clear T1 zz; refine (diff_any b q s b' q' s' a1 a2 a3 a4 n1 c1 n2 c2 n3 c3 n4 c4 xs ys ms ns _ (by omega) (by omega) (by omega) (by omega) (HR1.out.below HX4.out.bel) (HR2.out.below HX4.out.bel) (HR3.out.below HX4.out.bel) (HR4.out.below HX4.out.bel) HKC.out.1 HKC.out.2.1).mono ?_; rintro e t5 ⟨vt5, rfl, ot5, bl⟩
       rw [HD1.out] at ot5 ⊢; rw [HL1.out] at ot5; obtain ⟨ra, ka, rfl⟩ := ownP_nil ot5; clear ot5
       have HX5 : Hid (Bx3 w t5 #[.int .i64 b, .int .i64 q, .int .i64 s, .slice a1 n1 c1, .slice a2 n2 c2] #[.int .i64 b', .int .i64 q', .int .i64 s', .slice a3 n3 c3, .slice a4 n4 c4] #[.int .i64 bc, .int .i64 qc, .int .i64 sc, .slice a5 n5 c5, .slice a6 n6 c6]) := HX4.out.below bl
       clear bl x10 x11 x12 x13 x14 x20 x21 x22 x23 x24 x30 x31 x32 x33 x34
       obtain ⟨x10, x11, x12, x13, x14⟩ := cells5 HX5.out.b1
       obtain ⟨x20, x21, x22, x23, x24⟩ := cells5 HX5.out.b2
       obtain ⟨x30, x31, x32, x33, x34⟩ := cells5 HX5.out.b3)
    | (go_at_call 18; have zz := T2; clear T2 zz; refine (diff_any b' q' s' b q s a3 a4 a1 a2 n3 c3 n4 c4 n1 c1 n2 c2 ys xs ns ms _ (by omega) (by omega) (by omega) (by omega) (HR3.out.below HX5.out.bel) (HR4.out.below HX5.out.bel) (HR1.out.below HX5.out.bel) (HR2.out.below HX5.out.bel) HKC.out.2.1 HKC.out.1).mono ?_; rintro e t6 ⟨vt6, rfl, ot6, bl⟩
       rw [HD2.out] at ot6 ⊢; rw [HL2.out] at ot6; obtain ⟨rb, kb, rfl⟩ := ownP_nil ot6; clear ot6
       have HX6 : Hid (Bx3 w t6 #[.int .i64 b, .int .i64 q, .int .i64 s, .slice a1 n1 c1, .slice a2 n2 c2] #[.int .i64 b', .int .i64 q', .int .i64 s', .slice a3 n3 c3, .slice a4 n4 c4] #[.int .i64 bc, .int .i64 qc, .int .i64 sc, .slice a5 n5 c5, .slice a6 n6 c6]) := HX5.out.below bl
       clear bl x10 x11 x12 x13 x14 x20 x21 x22 x23 x24 x30 x31 x32 x33 x34
       obtain ⟨x10, x11, x12, x13, x14⟩ := cells5 HX6.out.b1
       obtain ⟨x20, x21, x22, x23, x24⟩ := cells5 HX6.out.b2
       obtain ⟨x30, x31, x32, x33, x34⟩ := cells5 HX6.out.b3)
    | (go_at_call 12; refine (no_any _ _).mono ?_; rintro e u9 ⟨rfl, h9⟩; rw [h9]; clear h9))
  go_ret
  exact ⟨by simp, HX6.out.bel⟩

set_option maxHeartbeats 8000000 in
set_option maxRecDepth 100000 in
theorem apart_geo (b q s : Int) (a1 a2 : Option Addr) (n1 c1 n2 c2 : Nat) (xs : List Int) (ms : List Bool) (b' q' s' : Int) (a3 a4 : Option Addr) (n3 c3 n4 c4 : Nat) (ys : List Int) (ns : List Bool) (bc qc sc : Int) (a5 a6 : Option Addr) (n5 c5 n6 c6 : Nat) (zs : List Int) (ts : List Bool) (w : World) (h1 : n1 ≤ 140737488351232) (h2 : n2 ≤ 140737488351232) (r1 : Reads w a1 n1 xs) (r2 : ReadsB w a2 n2 ms) (k1 : n1 ≤ c1) (k2 : c1 ≤ 9223372036854775807) (h3 : n3 ≤ 140737488351232) (h4 : n4 ≤ 140737488351232) (r3 : Reads w a3 n3 ys) (r4 : ReadsB w a4 n4 ns) (k3 : n3 ≤ c3) (k4 : c3 ≤ 9223372036854775807) (h5 : n5 ≤ 140737488351232) (h6 : n6 ≤ 140737488351232) (r5 : Reads w a5 n5 zs) (r6 : ReadsB w a6 n6 ts) (k5 : n5 ≤ c5) (k6 : c5 ≤ 9223372036854775807) (ht : Tab w) (hEA : chkE b q s n1 n2 = 0) (hEB : chkE b' q' s' n3 n4 = 0) (hne : ¬ (b = b' ∧ q = q' ∧ s = s')) :
    Calls Tryd.prog 7 #[.agg #[.int .i64 b, .int .i64 q, .int .i64 s, .slice a1 n1 c1, .slice a2 n2 c2], .agg #[.int .i64 b', .int .i64 q', .int .i64 s', .slice a3 n3 c3, .slice a4 n4 c4], .agg #[.int .i64 bc, .int .i64 qc, .int .i64 sc, .slice a5 n5 c5, .slice a6 n6 c6]] w fun e w' => e = .returned (.bool true) ∧ Below w.heap.size w w' := by
  have HD1 : Hid (difE b q s b' q' s' (chkE b q s n1 n2) (chkE b' q' s' n3 n4) = 40) := by unfold Hid difE; rw [if_pos hEA, if_pos hEB, if_neg hne]
  have HD2 : Hid (difE b' q' s' b q s (chkE b' q' s' n3 n4) (chkE b q s n1 n2) = 40) := by unfold Hid difE; rw [if_pos hEB, if_pos hEA, if_neg (fun h => hne ⟨h.1.symm, h.2.1.symm, h.2.2.symm⟩)]
  have HL1 : Hid (difD b q s 40 xs ys ms ns = []) := by unfold Hid difD; rw [if_neg (by decide)]
  have HL2 : Hid (difD b' q' s' 40 ys xs ns ms = []) := by unfold Hid difD; rw [if_neg (by decide)]
  obtain ⟨EC, hC⟩ : ∃ EC, chkE bc qc sc n5 n6 = EC := ⟨_, rfl⟩
  have HEA : Hid (chkE b q s n1 n2 = 0) := hEA
  have HEB : Hid (chkE b' q' s' n3 n4 = 0) := hEB
  have HEC : Hid (chkE bc qc sc n5 n6 = EC) := hC
  have T1 : Hid True := trivial
  have T2 : Hid True := trivial
  clear hC hEA hEB
  have HTB : Hid (Tab w) := ht
  have HR1 : Hid (Reads w a1 n1 xs) := r1
  have HR2 : Hid (ReadsB w a2 n2 ms) := r2
  have HR3 : Hid (Reads w a3 n3 ys) := r3
  have HR4 : Hid (ReadsB w a4 n4 ns) := r4
  have HR5 : Hid (Reads w a5 n5 zs) := r5
  have HR6 : Hid (ReadsB w a6 n6 ts) := r6
  have HKC : Hid ((n1 ≤ c1 ∧ c1 ≤ 9223372036854775807) ∧ (n3 ≤ c3 ∧ c3 ≤ 9223372036854775807) ∧ (n5 ≤ c5 ∧ c5 ≤ 9223372036854775807)) := ⟨⟨k1, k2⟩, ⟨k3, k4⟩, ⟨k5, k6⟩⟩
  have HX0 : Hid (Bx3 w (((w.alloc (.cells #[.int .i64 b, .int .i64 q, .int .i64 s, .slice a1 n1 c1, .slice a2 n2 c2] 27)).alloc (.cells #[.int .i64 b', .int .i64 q', .int .i64 s', .slice a3 n3 c3, .slice a4 n4 c4] 27)).alloc (.cells #[.int .i64 bc, .int .i64 qc, .int .i64 sc, .slice a5 n5 c5, .slice a6 n6 c6] 27)) #[.int .i64 b, .int .i64 q, .int .i64 s, .slice a1 n1 c1, .slice a2 n2 c2] #[.int .i64 b', .int .i64 q', .int .i64 s', .slice a3 n3 c3, .slice a4 n4 c4] #[.int .i64 bc, .int .i64 qc, .int .i64 sc, .slice a5 n5 c5, .slice a6 n6 c6]) := Bx3.new w _ _ _
  obtain ⟨x10, x11, x12, x13, x14⟩ := cells5 HX0.out.b1
  obtain ⟨x20, x21, x22, x23, x24⟩ := cells5 HX0.out.b2
  obtain ⟨x30, x31, x32, x33, x34⟩ := cells5 HX0.out.b3
  clear r1 r2 r3 r4 r5 r6 ht k1 k2 k3 k4 k5 k6
  go_enter Tryd.func7, Tryd.ntmps7
  go_upto_region 3 with (first
    | (go_at_call 9; refine (heads_any _ (HTB.out.below HX0.out.bel)).mono ?_; rintro e t1 ⟨rfl, bl1⟩
       have HX1 : Hid (Bx3 w t1 #[.int .i64 b, .int .i64 q, .int .i64 s, .slice a1 n1 c1, .slice a2 n2 c2] #[.int .i64 b', .int .i64 q', .int .i64 s', .slice a3 n3 c3, .slice a4 n4 c4] #[.int .i64 bc, .int .i64 qc, .int .i64 sc, .slice a5 n5 c5, .slice a6 n6 c6]) := HX0.out.below bl1
       clear bl1 x10 x11 x12 x13 x14 x20 x21 x22 x23 x24 x30 x31 x32 x33 x34))
  have HXD : Hid (Bx3 w t1.drew #[.int .i64 b, .int .i64 q, .int .i64 s, .slice a1 n1 c1, .slice a2 n2 c2] #[.int .i64 b', .int .i64 q', .int .i64 s', .slice a3 n3 c3, .slice a4 n4 c4] #[.int .i64 bc, .int .i64 qc, .int .i64 sc, .slice a5 n5 c5, .slice a6 n6 c6]) := HX1.out.below (below_dr _)
  refine wp_region_held_drew (S := (fun y : World => (y.cell? ⟨w.heap.size, 0, none⟩ = some (.int .i64 b) ∧ y.cell? ⟨w.heap.size, 1, none⟩ = some (.int .i64 q) ∧ y.cell? ⟨w.heap.size, 2, none⟩ = some (.int .i64 s) ∧ y.cell? ⟨w.heap.size, 3, none⟩ = some (.slice a1 n1 c1) ∧ y.cell? ⟨w.heap.size, 4, none⟩ = some (.slice a2 n2 c2)) ∧ (y.cell? ⟨w.heap.size + 1, 0, none⟩ = some (.int .i64 b') ∧ y.cell? ⟨w.heap.size + 1, 1, none⟩ = some (.int .i64 q') ∧ y.cell? ⟨w.heap.size + 1, 2, none⟩ = some (.int .i64 s') ∧ y.cell? ⟨w.heap.size + 1, 3, none⟩ = some (.slice a3 n3 c3) ∧ y.cell? ⟨w.heap.size + 1, 4, none⟩ = some (.slice a4 n4 c4)) ∧ (y.cell? ⟨w.heap.size + 1 + 1, 0, none⟩ = some (.int .i64 bc) ∧ y.cell? ⟨w.heap.size + 1 + 1, 1, none⟩ = some (.int .i64 qc) ∧ y.cell? ⟨w.heap.size + 1 + 1, 2, none⟩ = some (.int .i64 sc) ∧ y.cell? ⟨w.heap.size + 1 + 1, 3, none⟩ = some (.slice a5 n5 c5) ∧ y.cell? ⟨w.heap.size + 1 + 1, 4, none⟩ = some (.slice a6 n6 c6)))) (by kernel_rfl) (⟨cells5 HXD.out.b1, cells5 HXD.out.b2, cells5 HXD.out.b3⟩) (fun hHeld => ?_)
  refine wpAnyH_take (i := 0) (oi := { dst := some 23, op := Op.load 27 (Operand.tmp 3), type := 27, pos := "outright.go:151", after := #[], guard := none }) (v := ?v0ra) rfl (by kernel_rfl) (by kernel_rfl) (by kernel_rfl) (fun _ _ _ h => h) (Or.inl ⟨by rfl, ?y0ra⟩) (by assumption) ?r0ra
  case y0ra => (intro x hx; (try dsimp only at hx); go_simp; try with_reducible rfl)
  try simp only [Act.put, List.setIfInBounds_toArray, List.set_cons_zero, List.set_cons_succ]
  refine wpAnyH_take (i := 2) (oi := { dst := some 25, op := Op.load 27 (Operand.tmp 4), type := 27, pos := "outright.go:151", after := #[], guard := none }) (v := ?v2ra) rfl (by kernel_rfl) (by kernel_rfl) (by kernel_rfl) (fun _ _ _ h => h) (Or.inl ⟨by rfl, ?y2ra⟩) (by assumption) ?r2ra
  case y2ra => (intro x hx; (try dsimp only at hx); go_simp; try with_reducible rfl)
  try simp only [Act.put, List.setIfInBounds_toArray, List.set_cons_zero, List.set_cons_succ]
  refine wpAnyH_take (i := 4) (oi := { dst := some 27, op := Op.load 27 (Operand.tmp 5), type := 27, pos := "outright.go:151", after := #[], guard := none }) (v := ?v4ra) rfl (by kernel_rfl) (by kernel_rfl) (by kernel_rfl) (fun _ _ _ h => h) (Or.inl ⟨by rfl, ?y4ra⟩) (by assumption) ?r4ra
  case y4ra => (intro x hx; (try dsimp only at hx); go_simp; try with_reducible rfl)
  try simp only [Act.put, List.setIfInBounds_toArray, List.set_cons_zero, List.set_cons_succ]
  refine wpAnyH_ready (rs := [1]) (by kernel_rfl) (by simp) ?_
  refine AllReadyH.cons (o := { dst := some 24, op := Op.call { callee := Callee.value (Operand.func 10), args := #[Operand.tmp 23], argTypes := #[27] }, type := 29, pos := "outright.go:151", after := #[{ on := 0, ground := Ground.data }], guard := none }) rfl (fun K hK => ?_) AllReadyH.nil
  go_simp
  go_at_call 10
  refine (check_any b q s a1 a2 n1 c1 n2 c2 _ (by omega) (by omega)).mono ?_
  rintro e t2 ⟨rfl, bl⟩
  rw [HEA.out]
  have HX2 : Hid (Bx3 w t2 #[.int .i64 b, .int .i64 q, .int .i64 s, .slice a1 n1 c1, .slice a2 n2 c2] #[.int .i64 b', .int .i64 q', .int .i64 s', .slice a3 n3 c3, .slice a4 n4 c4] #[.int .i64 bc, .int .i64 qc, .int .i64 sc, .slice a5 n5 c5, .slice a6 n6 c6]) := HXD.out.below bl
  have hSnew := (And.intro (cells5 HX2.out.b1) (And.intro (cells5 HX2.out.b2) (cells5 HX2.out.b3)))
  clear bl
  go_wp2_with fail
  refine hK.out _ _ hSnew (fun hHeld1 => ?_)
  clear hK K hSnew
  clear hHeld
  have hHeld := hHeld1
  clear hHeld1
  try simp only [Act.put, List.setIfInBounds_toArray, List.set_cons_zero, List.set_cons_succ]
  refine wpAnyH_ready (rs := [3]) (by kernel_rfl) (by simp) ?_
  refine AllReadyH.cons (o := { dst := some 26, op := Op.call { callee := Callee.value (Operand.func 10), args := #[Operand.tmp 25], argTypes := #[27] }, type := 29, pos := "outright.go:151", after := #[{ on := 2, ground := Ground.data }, { on := 1, ground := Ground.chain }], guard := none }) rfl (fun K hK => ?_) AllReadyH.nil
  go_simp
  go_at_call 10
  refine (check_any b' q' s' a3 a4 n3 c3 n4 c4 _ (by omega) (by omega)).mono ?_
  rintro e t3 ⟨rfl, bl⟩
  rw [HEB.out]
  have HX3 : Hid (Bx3 w t3 #[.int .i64 b, .int .i64 q, .int .i64 s, .slice a1 n1 c1, .slice a2 n2 c2] #[.int .i64 b', .int .i64 q', .int .i64 s', .slice a3 n3 c3, .slice a4 n4 c4] #[.int .i64 bc, .int .i64 qc, .int .i64 sc, .slice a5 n5 c5, .slice a6 n6 c6]) := HX2.out.below bl
  have hSnew := (And.intro (cells5 HX3.out.b1) (And.intro (cells5 HX3.out.b2) (cells5 HX3.out.b3)))
  clear bl
  go_wp2_with fail
  refine hK.out _ _ hSnew (fun hHeld3 => ?_)
  clear hK K hSnew
  clear hHeld
  have hHeld := hHeld3
  clear hHeld3
  try simp only [Act.put, List.setIfInBounds_toArray, List.set_cons_zero, List.set_cons_succ]
  refine wpAnyH_ready (rs := [5]) (by kernel_rfl) (by simp) ?_
  refine AllReadyH.cons (o := { dst := some 28, op := Op.call { callee := Callee.value (Operand.func 10), args := #[Operand.tmp 27], argTypes := #[27] }, type := 29, pos := "outright.go:151", after := #[{ on := 4, ground := Ground.data }, { on := 3, ground := Ground.chain }], guard := none }) rfl (fun K hK => ?_) AllReadyH.nil
  go_simp
  go_at_call 10
  refine (check_any bc qc sc a5 a6 n5 c5 n6 c6 _ (by omega) (by omega)).mono ?_
  rintro e t4 ⟨rfl, bl⟩
  rw [HEC.out]
  have HX4 : Hid (Bx3 w t4 #[.int .i64 b, .int .i64 q, .int .i64 s, .slice a1 n1 c1, .slice a2 n2 c2] #[.int .i64 b', .int .i64 q', .int .i64 s', .slice a3 n3 c3, .slice a4 n4 c4] #[.int .i64 bc, .int .i64 qc, .int .i64 sc, .slice a5 n5 c5, .slice a6 n6 c6]) := HX3.out.below bl
  have hSnew := (And.intro (cells5 HX4.out.b1) (And.intro (cells5 HX4.out.b2) (cells5 HX4.out.b3)))
  clear bl
  go_wp2_with fail
  refine hK.out _ _ hSnew (fun hHeld5 => ?_)
  clear hK K hSnew
  clear hHeld
  have hHeld := hHeld5
  clear hHeld5
  try simp only [Act.put, List.setIfInBounds_toArray, List.set_cons_zero, List.set_cons_succ]
  refine wpAnyH_take (i := 6) (oi := { dst := some 7, op := Op.assign (Operand.tmp 24), type := 29, pos := "outright.go:151", after := #[{ on := 1, ground := Ground.data }, { on := 5, ground := Ground.chain }, { on := 0, ground := Ground.phase }, { on := 1, ground := Ground.phase }, { on := 2, ground := Ground.textOnly Departure.lateStores }, { on := 3, ground := Ground.textOnly Departure.lateStoresUnsure }, { on := 4, ground := Ground.textOnly Departure.lateStores }, { on := 5, ground := Ground.textOnly Departure.lateStoresUnsure }], guard := none }) (v := ?v6ra) rfl (by kernel_rfl) (by kernel_rfl) (by kernel_rfl) (fun _ _ _ h => h) (Or.inl ⟨by rfl, ?y6ra⟩) (by assumption) ?r6ra
  case y6ra => (intro x hx; (try dsimp only at hx); go_simp; try with_reducible rfl)
  try simp only [Act.put, List.setIfInBounds_toArray, List.set_cons_zero, List.set_cons_succ]
  refine wpAnyH_take (i := 7) (oi := { dst := some 8, op := Op.assign (Operand.tmp 26), type := 29, pos := "outright.go:151", after := #[{ on := 3, ground := Ground.data }, { on := 6, ground := Ground.chain }, { on := 0, ground := Ground.phase }, { on := 1, ground := Ground.phase }, { on := 2, ground := Ground.phase }, { on := 3, ground := Ground.phase }, { on := 4, ground := Ground.textOnly Departure.lateStores }, { on := 5, ground := Ground.textOnly Departure.lateStoresUnsure }, { on := 6, ground := Ground.phase }], guard := none }) (v := ?v7ra) rfl (by kernel_rfl) (by kernel_rfl) (by kernel_rfl) (fun _ _ _ h => h) (Or.inl ⟨by rfl, ?y7ra⟩) (by assumption) ?r7ra
  case y7ra => (intro x hx; (try dsimp only at hx); go_simp; try with_reducible rfl)
  try simp only [Act.put, List.setIfInBounds_toArray, List.set_cons_zero, List.set_cons_succ]
  refine wpAnyH_take (i := 8) (oi := { dst := some 9, op := Op.assign (Operand.tmp 28), type := 29, pos := "outright.go:151", after := #[{ on := 5, ground := Ground.data }, { on := 7, ground := Ground.chain }, { on := 0, ground := Ground.phase }, { on := 1, ground := Ground.phase }, { on := 2, ground := Ground.phase }, { on := 3, ground := Ground.phase }, { on := 4, ground := Ground.phase }, { on := 5, ground := Ground.phase }, { on := 6, ground := Ground.phase }, { on := 7, ground := Ground.phase }], guard := none }) (v := ?v8ra) rfl (by kernel_rfl) (by kernel_rfl) (by kernel_rfl) (fun _ _ _ h => h) (Or.inl ⟨by rfl, ?y8ra⟩) (by assumption) ?r8ra
  case y8ra => (intro x hx; (try dsimp only at hx); go_simp; try with_reducible rfl)
  try simp only [Act.put, List.setIfInBounds_toArray, List.set_cons_zero, List.set_cons_succ]
  refine wpAnyH_done (by kernel_rfl) ?_ _
  obtain ⟨x10, x11, x12, x13, x14⟩ := cells5 HX4.out.b1
  obtain ⟨x20, x21, x22, x23, x24⟩ := cells5 HX4.out.b2
  obtain ⟨x30, x31, x32, x33, x34⟩ := cells5 HX4.out.b3
  go_wp2_with (first
    | (go_at_call 18; have zz := T1; clear T1 zz; refine (diff_any b q s b' q' s' a1 a2 a3 a4 n1 c1 n2 c2 n3 c3 n4 c4 xs ys ms ns _ (by omega) (by omega) (by omega) (by omega) (HR1.out.below HX4.out.bel) (HR2.out.below HX4.out.bel) (HR3.out.below HX4.out.bel) (HR4.out.below HX4.out.bel) HKC.out.1 HKC.out.2.1).mono ?_; rintro e t5 ⟨vt5, rfl, ot5, bl⟩
       rw [HD1.out] at ot5 ⊢; rw [HL1.out] at ot5; obtain ⟨ra, ka, rfl⟩ := ownP_nil ot5; clear ot5
       have HX5 : Hid (Bx3 w t5 #[.int .i64 b, .int .i64 q, .int .i64 s, .slice a1 n1 c1, .slice a2 n2 c2] #[.int .i64 b', .int .i64 q', .int .i64 s', .slice a3 n3 c3, .slice a4 n4 c4] #[.int .i64 bc, .int .i64 qc, .int .i64 sc, .slice a5 n5 c5, .slice a6 n6 c6]) := HX4.out.below bl
       clear bl x10 x11 x12 x13 x14 x20 x21 x22 x23 x24 x30 x31 x32 x33 x34
       obtain ⟨x10, x11, x12, x13, x14⟩ := cells5 HX5.out.b1
       obtain ⟨x20, x21, x22, x23, x24⟩ := cells5 HX5.out.b2
       obtain ⟨x30, x31, x32, x33, x34⟩ := cells5 HX5.out.b3)
    | (go_at_call 18; have zz := T2; clear T2 zz; refine (diff_any b' q' s' b q s a3 a4 a1 a2 n3 c3 n4 c4 n1 c1 n2 c2 ys xs ns ms _ (by omega) (by omega) (by omega) (by omega) (HR3.out.below HX5.out.bel) (HR4.out.below HX5.out.bel) (HR1.out.below HX5.out.bel) (HR2.out.below HX5.out.bel) HKC.out.2.1 HKC.out.1).mono ?_; rintro e t6 ⟨vt6, rfl, ot6, bl⟩
       rw [HD2.out] at ot6 ⊢; rw [HL2.out] at ot6; obtain ⟨rb, kb, rfl⟩ := ownP_nil ot6; clear ot6
       have HX6 : Hid (Bx3 w t6 #[.int .i64 b, .int .i64 q, .int .i64 s, .slice a1 n1 c1, .slice a2 n2 c2] #[.int .i64 b', .int .i64 q', .int .i64 s', .slice a3 n3 c3, .slice a4 n4 c4] #[.int .i64 bc, .int .i64 qc, .int .i64 sc, .slice a5 n5 c5, .slice a6 n6 c6]) := HX5.out.below bl
       clear bl x10 x11 x12 x13 x14 x20 x21 x22 x23 x24 x30 x31 x32 x33 x34
       obtain ⟨x10, x11, x12, x13, x14⟩ := cells5 HX6.out.b1
       obtain ⟨x20, x21, x22, x23, x24⟩ := cells5 HX6.out.b2
       obtain ⟨x30, x31, x32, x33, x34⟩ := cells5 HX6.out.b3)
    | (go_at_call 12; refine (no_any _ _).mono ?_; rintro e u9 ⟨rfl, h9⟩; rw [h9]; clear h9))
  all_goals
    go_ret
    exact ⟨rfl, HX6.out.bel⟩


end Go.Proofs.YtnopljjngbgpdabDoor
