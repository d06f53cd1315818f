/-
  SEAT YtnopljjngbgpdabDoor: Diff is empty of like images alone (like shapes).
-/
import Derived.Test.YtnopljjngbgpdabDoorAp
namespace Go.Proofs.YtnopljjngbgpdabDoor
open Go.RowKit
set_option linter.unusedVariables false

/-- What is known of the places where two images of one shape differ. -/
theorem same_facts {b q s : Int} {n m : Nat} {xs ys : List Int} {ms ns : List Bool} (hE : chkE b q s n m = 0) (hx : xs.length = n) (hy : ys.length = n) (hm : ms.length = m) (hn : ns.length = m) :
    (∀ p ∈ difD b q s 0 xs ys ms ns, 0 ≤ p.x ∧ p.x < b ∧ -1 ≤ p.y ∧ p.y < q) ∧ (difD b q s 0 xs ys ms ns).Pairwise Ahead ∧ (difD b q s 0 xs ys ms ns = [] ↔ xs = ys ∧ ms = ns) ∧ difD b q s 0 ys xs ns ms = difD b q s 0 xs ys ms ns := by
  obtain ⟨b, p, s, rfl, rfl, rfl, hf, h1, h2⟩ := chk_nat hE
  obtain ⟨q1, q2, q3, q4, q5, q6, q7⟩ := fits_nat hf
  unfold difD
  rw [if_pos rfl, if_pos rfl]
  simp only [Int.toNat_natCast]
  refine ⟨fun r hr => dfL_in (by omega) hr, dfL_sorted _ _ _ _ _ _ (by omega) _, dfL_nil (by omega) (by omega) (by rw [hx, h1]) (by rw [hy, h1]) (by rw [hm, h2]) (by rw [hn, h2]), dfL_swap _ _ _ _ _ _ _⟩
/-- The places where the first and the third differ. -/
theorem three_facts {b q s : Int} {xs ys zs : List Int} {ms ns ts : List Bool} : ∀ p ∈ difD b q s 0 xs zs ms ts, p ∈ difD b q s 0 xs ys ms ns ∨ p ∈ difD b q s 0 ys zs ns ts := by
  intro p hp
  unfold difD at hp ⊢
  rw [if_pos rfl] at hp ⊢
  rw [if_pos rfl]
  exact dfL_three hp
theorem has_or {ps qs rs : List Pl} {x y : Int} (h : ∀ p ∈ ps, p ∈ qs ∨ p ∈ rs) (hm : (⟨x, y⟩ : Pl) ∈ ps) : hasL qs x y = true ∨ (hasL qs x y = false ∧ hasL rs x y = true) := by
  by_cases h1 : (⟨x, y⟩ : Pl) ∈ qs
  · exact Or.inl (hasL_true h1)
  · exact Or.inr ⟨hasL_false h1, hasL_true ((h _ hm).resolve_left h1)⟩
theorem pl_at {ps : List Pl} {k : Nat} (hk : k < ps.length) : (⟨(ps.getD k Pl.zero).x, (ps.getD k Pl.zero).y⟩ : Pl) ∈ ps := by
  rw [List.getD_eq_getElem?_getD, List.getElem?_eq_getElem hk]
  exact List.getElem_mem hk
theorem pl_ahead {ps : List Pl} {k : Nat} (h : ps.Pairwise Ahead) (hk : k + 1 < ps.length) : Ahead (ps.getD k Pl.zero) (ps.getD (k + 1) Pl.zero) := by
  rw [List.getD_eq_getElem?_getD, List.getElem?_eq_getElem (show k < ps.length by omega), List.getD_eq_getElem?_getD, List.getElem?_eq_getElem hk]
  exact List.pairwise_iff_getElem.1 h k (k + 1) (by omega) hk (by omega)
theorem chk_same {b q s : Int} {n m n' m' : Nat} (h : chkE b q s n m = 0) (h' : chkE b q s n' m' = 0) : n = n' ∧ m = m' := by
  obtain ⟨b1, p1, s1, rfl, rfl, rfl, _, e1, e2⟩ := chk_nat h
  obtain ⟨b2, p2, s2, f1, f2, f3, _, e3, e4⟩ := chk_nat h'
  obtain rfl := Int.ofNat.inj f1
  obtain rfl := Int.ofNat.inj f2
  obtain rfl := Int.ofNat.inj f3
  exact ⟨e1.trans e3.symm, e2.trans e4.symm⟩
theorem blk_b {X Y : World} {i : Nat} {o : Obj} (h : X.heap[i]? = some o) (hb : Below X.heap.size X Y) : Y.heap[i]? = some o := (hb.block i (lt_of_b h)).trans h

set_option maxHeartbeats 8000000 in
set_option maxRecDepth 100000 in
theorem apart_same (b q s : Int) (n1 n2 : Nat) (a1 a2 : Option Addr) (c1 c2 : Nat) (xs : List Int) (ms : List Bool) (a3 a4 : Option Addr) (c3 c4 : Nat) (ys : List Int) (ns : List Bool) (bc qc sc : Int) (a5 a6 : Option Addr) (n5 c5 n6 c6 : Nat) (zs : List Int) (ts : List Bool) (w : World) (h1 : n1 ≤ 140737488351232) (h2 : n2 ≤ 140737488351232) (r1 : Reads w a1 n1 xs) (r2 : ReadsB w a2 n2 ms) (k1 : n1 ≤ c1) (k2 : c1 ≤ 9223372036854775807) (r3 : Reads w a3 n1 ys) (r4 : ReadsB w a4 n2 ns) (k3 : n1 ≤ c3) (k4 : c3 ≤ 9223372036854775807) (h5 : n5 ≤ 140737488351232) (h6 : n6 ≤ 140737488351232) (r5 : Reads w a5 n5 zs) (r6 : ReadsB w a6 n6 ts) (k5 : n5 ≤ c5) (k6 : c5 ≤ 9223372036854775807) (ht : Tab w) (hE : chkE b q s n1 n2 = 0) :
    Calls Tryd.prog 7 #[.agg #[.int .i64 b, .int .i64 q, .int .i64 s, .slice a1 n1 c1, .slice a2 n2 c2], .agg #[.int .i64 b, .int .i64 q, .int .i64 s, .slice a3 n1 c3, .slice a4 n2 c4], .agg #[.int .i64 bc, .int .i64 qc, .int .i64 sc, .slice a5 n5 c5, .slice a6 n6 c6]] w fun e w' => e = .returned (.bool true) ∧ Below w.heap.size w w' := by
  obtain ⟨f1, f2, f3, f4⟩ := same_facts hE r1.1 r3.1 r2.1 r4.1
  have hdl := difD_len (b := b) (q := q) (s := s) (b' := b) (q' := q) (s' := s) (n1 := n1) (n2 := n2) (n3 := n1) (n4 := n2) xs ys ms ns
  have hd0 : difE b q s b q s (chkE b q s n1 n2) (chkE b q s n1 n2) = 0 := by unfold difE; rw [if_pos hE, if_pos hE, if_pos ⟨rfl, rfl, rfl⟩]
  rw [hd0] at hdl
  have HD1 : Hid (difE b q s b q s (chkE b q s n1 n2) (chkE b q s n1 n2) = 0) := hd0
  have H3 : Hid (∀ p ∈ difD b q s 0 xs zs ms ts, p ∈ difD b q s 0 xs ys ms ns ∨ p ∈ difD b q s 0 ys zs ns ts) := three_facts
  obtain ⟨DL, hD⟩ : ∃ DL, difD b q s 0 xs ys ms ns = DL := ⟨_, rfl⟩
  have HDL1 : Hid (difD b q s 0 xs ys ms ns = DL) := hD
  have HDL2 : Hid (difD b q s 0 ys xs ns ms = DL) := f4.trans hD
  rw [hD] at f1 f2 f3 hdl
  obtain ⟨ND, hND⟩ : ∃ ND, DL.length = ND := ⟨_, rfl⟩
  have HND : Hid (DL.length = ND) := hND
  rw [hND] at hdl
  have HIN : Hid (∀ p ∈ DL, 0 ≤ p.x ∧ p.x < b ∧ -1 ≤ p.y ∧ p.y < q) := f1
  have HSO : Hid (DL.Pairwise Ahead) := f2
  have HDC : Hid (decide (xs = ys ∧ ms = ns) = ((ND : Int) == 0)) := by
    unfold Hid
    by_cases h9 : xs = ys ∧ ms = ns
    · have h8 := f3.2 h9
      rw [h8] at hND
      rw [decide_eq_true h9, ← hND]
      rfl
    · rw [decide_eq_false h9]
      have h8 : ND ≠ 0 := fun e => h9 (f3.1 (List.length_eq_zero_iff.1 (hND.trans e)))
      symm
      rw [beq_eq_false_iff_ne]
      omega
  obtain ⟨EC, hC⟩ : ∃ EC, chkE bc qc sc n5 n6 = EC := ⟨_, rfl⟩
  have HEA : Hid (chkE b q s n1 n2 = 0) := hE
  have HEC : Hid (chkE bc qc sc n5 n6 = EC) := hC
  have T1 : Hid True := trivial
  have T2 : Hid True := trivial
  clear hC hE hd0 hD hND f1 f2 f3 f4
  have HTB : Hid (Tab w) := ht
  have HR1 : Hid (Reads w a1 n1 xs) := r1
  have HR2 : Hid (ReadsB w a2 n2 ms) := r2
  have HR3 : Hid (Reads w a3 n1 ys) := r3
  have HR4 : Hid (ReadsB w a4 n2 ns) := r4
  have HR5 : Hid (Reads w a5 n5 zs) := r5
  have HR6 : Hid (ReadsB w a6 n6 ts) := r6
  have HKC : Hid ((n1 ≤ c1 ∧ c1 ≤ 9223372036854775807) ∧ (n1 ≤ c3 ∧ c3 ≤ 9223372036854775807) ∧ (n5 ≤ c5 ∧ c5 ≤ 9223372036854775807)) := ⟨⟨k1, k2⟩, ⟨k3, k4⟩, ⟨k5, k6⟩⟩
  have HX0 : Hid (Bx3 w (((w.alloc (.cells #[.int .i64 b, .int .i64 q, .int .i64 s, .slice a1 n1 c1, .slice a2 n2 c2] 27)).alloc (.cells #[.int .i64 b, .int .i64 q, .int .i64 s, .slice a3 n1 c3, .slice a4 n2 c4] 27)).alloc (.cells #[.int .i64 bc, .int .i64 qc, .int .i64 sc, .slice a5 n5 c5, .slice a6 n6 c6] 27)) #[.int .i64 b, .int .i64 q, .int .i64 s, .slice a1 n1 c1, .slice a2 n2 c2] #[.int .i64 b, .int .i64 q, .int .i64 s, .slice a3 n1 c3, .slice a4 n2 c4] #[.int .i64 bc, .int .i64 qc, .int .i64 sc, .slice a5 n5 c5, .slice a6 n6 c6]) := Bx3.new w _ _ _
  obtain ⟨x10, x11, x12, x13, x14⟩ := cells5 HX0.out.b1
  obtain ⟨x20, x21, x22, x23, x24⟩ := cells5 HX0.out.b2
  obtain ⟨x30, x31, x32, x33, x34⟩ := cells5 HX0.out.b3
  clear r1 r2 r3 r4 r5 r6 ht k1 k2 k3 k4 k5 k6
  go_enter Tryd.func7, Tryd.ntmps7
  go_upto_region 3 with (first
    | (go_at_call 9; refine (heads_any _ (HTB.out.below HX0.out.bel)).mono ?_; rintro e t1 ⟨rfl, bl1⟩
       have HX1 : Hid (Bx3 w t1 #[.int .i64 b, .int .i64 q, .int .i64 s, .slice a1 n1 c1, .slice a2 n2 c2] #[.int .i64 b, .int .i64 q, .int .i64 s, .slice a3 n1 c3, .slice a4 n2 c4] #[.int .i64 bc, .int .i64 qc, .int .i64 sc, .slice a5 n5 c5, .slice a6 n6 c6]) := HX0.out.below bl1
       clear bl1 x10 x11 x12 x13 x14 x20 x21 x22 x23 x24 x30 x31 x32 x33 x34))
  have HXD : Hid (Bx3 w t1.drew #[.int .i64 b, .int .i64 q, .int .i64 s, .slice a1 n1 c1, .slice a2 n2 c2] #[.int .i64 b, .int .i64 q, .int .i64 s, .slice a3 n1 c3, .slice a4 n2 c4] #[.int .i64 bc, .int .i64 qc, .int .i64 sc, .slice a5 n5 c5, .slice a6 n6 c6]) := HX1.out.below (below_dr _)
  refine wp_region_held_drew (S := (fun y : World => (y.cell? ⟨w.heap.size, 0, none⟩ = some (.int .i64 b) ∧ y.cell? ⟨w.heap.size, 1, none⟩ = some (.int .i64 q) ∧ y.cell? ⟨w.heap.size, 2, none⟩ = some (.int .i64 s) ∧ y.cell? ⟨w.heap.size, 3, none⟩ = some (.slice a1 n1 c1) ∧ y.cell? ⟨w.heap.size, 4, none⟩ = some (.slice a2 n2 c2)) ∧ (y.cell? ⟨w.heap.size + 1, 0, none⟩ = some (.int .i64 b) ∧ y.cell? ⟨w.heap.size + 1, 1, none⟩ = some (.int .i64 q) ∧ y.cell? ⟨w.heap.size + 1, 2, none⟩ = some (.int .i64 s) ∧ y.cell? ⟨w.heap.size + 1, 3, none⟩ = some (.slice a3 n1 c3) ∧ y.cell? ⟨w.heap.size + 1, 4, none⟩ = some (.slice a4 n2 c4)) ∧ (y.cell? ⟨w.heap.size + 1 + 1, 0, none⟩ = some (.int .i64 bc) ∧ y.cell? ⟨w.heap.size + 1 + 1, 1, none⟩ = some (.int .i64 qc) ∧ y.cell? ⟨w.heap.size + 1 + 1, 2, none⟩ = some (.int .i64 sc) ∧ y.cell? ⟨w.heap.size + 1 + 1, 3, none⟩ = some (.slice a5 n5 c5) ∧ y.cell? ⟨w.heap.size + 1 + 1, 4, none⟩ = some (.slice a6 n6 c6)))) (by kernel_rfl) (⟨cells5 HXD.out.b1, cells5 HXD.out.b2, cells5 HXD.out.b3⟩) (fun hHeld => ?_)
  refine wpAnyH_take (i := 0) (oi := { dst := some 23, op := Op.load 27 (Operand.tmp 3), type := 27, pos := "outright.go:151", after := #[], guard := none }) (v := ?v0ra) rfl (by kernel_rfl) (by kernel_rfl) (by kernel_rfl) (fun _ _ _ h => h) (Or.inl ⟨by rfl, ?y0ra⟩) (by assumption) ?r0ra
  case y0ra => (intro x hx; (try dsimp only at hx); go_simp; try with_reducible rfl)
  try simp only [Act.put, List.setIfInBounds_toArray, List.set_cons_zero, List.set_cons_succ]
  refine wpAnyH_take (i := 2) (oi := { dst := some 25, op := Op.load 27 (Operand.tmp 4), type := 27, pos := "outright.go:151", after := #[], guard := none }) (v := ?v2ra) rfl (by kernel_rfl) (by kernel_rfl) (by kernel_rfl) (fun _ _ _ h => h) (Or.inl ⟨by rfl, ?y2ra⟩) (by assumption) ?r2ra
  case y2ra => (intro x hx; (try dsimp only at hx); go_simp; try with_reducible rfl)
  try simp only [Act.put, List.setIfInBounds_toArray, List.set_cons_zero, List.set_cons_succ]
  refine wpAnyH_take (i := 4) (oi := { dst := some 27, op := Op.load 27 (Operand.tmp 5), type := 27, pos := "outright.go:151", after := #[], guard := none }) (v := ?v4ra) rfl (by kernel_rfl) (by kernel_rfl) (by kernel_rfl) (fun _ _ _ h => h) (Or.inl ⟨by rfl, ?y4ra⟩) (by assumption) ?r4ra
  case y4ra => (intro x hx; (try dsimp only at hx); go_simp; try with_reducible rfl)
  try simp only [Act.put, List.setIfInBounds_toArray, List.set_cons_zero, List.set_cons_succ]
  refine wpAnyH_ready (rs := [1]) (by kernel_rfl) (by simp) ?_
  refine AllReadyH.cons (o := { dst := some 24, op := Op.call { callee := Callee.value (Operand.func 10), args := #[Operand.tmp 23], argTypes := #[27] }, type := 29, pos := "outright.go:151", after := #[{ on := 0, ground := Ground.data }], guard := none }) rfl (fun K hK => ?_) AllReadyH.nil
  go_simp
  go_at_call 10
  refine (check_any b q s a1 a2 n1 c1 n2 c2 _ (by omega) (by omega)).mono ?_
  rintro e t2 ⟨rfl, bl⟩
  rw [HEA.out]
  have HX2 : Hid (Bx3 w t2 #[.int .i64 b, .int .i64 q, .int .i64 s, .slice a1 n1 c1, .slice a2 n2 c2] #[.int .i64 b, .int .i64 q, .int .i64 s, .slice a3 n1 c3, .slice a4 n2 c4] #[.int .i64 bc, .int .i64 qc, .int .i64 sc, .slice a5 n5 c5, .slice a6 n6 c6]) := HXD.out.below bl
  have hSnew := (And.intro (cells5 HX2.out.b1) (And.intro (cells5 HX2.out.b2) (cells5 HX2.out.b3)))
  clear bl
  go_wp2_with fail
  refine hK.out _ _ hSnew (fun hHeld1 => ?_)
  clear hK K hSnew
  clear hHeld
  have hHeld := hHeld1
  clear hHeld1
  try simp only [Act.put, List.setIfInBounds_toArray, List.set_cons_zero, List.set_cons_succ]
  refine wpAnyH_ready (rs := [3]) (by kernel_rfl) (by simp) ?_
  refine AllReadyH.cons (o := { dst := some 26, op := Op.call { callee := Callee.value (Operand.func 10), args := #[Operand.tmp 25], argTypes := #[27] }, type := 29, pos := "outright.go:151", after := #[{ on := 2, ground := Ground.data }, { on := 1, ground := Ground.chain }], guard := none }) rfl (fun K hK => ?_) AllReadyH.nil
  go_simp
  go_at_call 10
  refine (check_any b q s a3 a4 n1 c3 n2 c4 _ (by omega) (by omega)).mono ?_
  rintro e t3 ⟨rfl, bl⟩
  rw [HEA.out]
  have HX3 : Hid (Bx3 w t3 #[.int .i64 b, .int .i64 q, .int .i64 s, .slice a1 n1 c1, .slice a2 n2 c2] #[.int .i64 b, .int .i64 q, .int .i64 s, .slice a3 n1 c3, .slice a4 n2 c4] #[.int .i64 bc, .int .i64 qc, .int .i64 sc, .slice a5 n5 c5, .slice a6 n6 c6]) := HX2.out.below bl
  have hSnew := (And.intro (cells5 HX3.out.b1) (And.intro (cells5 HX3.out.b2) (cells5 HX3.out.b3)))
  clear bl
  go_wp2_with fail
  refine hK.out _ _ hSnew (fun hHeld3 => ?_)
  clear hK K hSnew
  clear hHeld
  have hHeld := hHeld3
  clear hHeld3
  try simp only [Act.put, List.setIfInBounds_toArray, List.set_cons_zero, List.set_cons_succ]
  refine wpAnyH_ready (rs := [5]) (by kernel_rfl) (by simp) ?_
  refine AllReadyH.cons (o := { dst := some 28, op := Op.call { callee := Callee.value (Operand.func 10), args := #[Operand.tmp 27], argTypes := #[27] }, type := 29, pos := "outright.go:151", after := #[{ on := 4, ground := Ground.data }, { on := 3, ground := Ground.chain }], guard := none }) rfl (fun K hK => ?_) AllReadyH.nil
  go_simp
  go_at_call 10
  refine (check_any bc qc sc a5 a6 n5 c5 n6 c6 _ (by omega) (by omega)).mono ?_
  rintro e t4 ⟨rfl, bl⟩
  rw [HEC.out]
  have HX4 : Hid (Bx3 w t4 #[.int .i64 b, .int .i64 q, .int .i64 s, .slice a1 n1 c1, .slice a2 n2 c2] #[.int .i64 b, .int .i64 q, .int .i64 s, .slice a3 n1 c3, .slice a4 n2 c4] #[.int .i64 bc, .int .i64 qc, .int .i64 sc, .slice a5 n5 c5, .slice a6 n6 c6]) := HX3.out.below bl
  have hSnew := (And.intro (cells5 HX4.out.b1) (And.intro (cells5 HX4.out.b2) (cells5 HX4.out.b3)))
  clear bl
  go_wp2_with fail
  refine hK.out _ _ hSnew (fun hHeld5 => ?_)
  clear hK K hSnew
  clear hHeld
  have hHeld := hHeld5
  clear hHeld5
  try simp only [Act.put, List.setIfInBounds_toArray, List.set_cons_zero, List.set_cons_succ]
  refine wpAnyH_take (i := 6) (oi := { dst := some 7, op := Op.assign (Operand.tmp 24), type := 29, pos := "outright.go:151", after := #[{ on := 1, ground := Ground.data }, { on := 5, ground := Ground.chain }, { on := 0, ground := Ground.phase }, { on := 1, ground := Ground.phase }, { on := 2, ground := Ground.textOnly Departure.lateStores }, { on := 3, ground := Ground.textOnly Departure.lateStoresUnsure }, { on := 4, ground := Ground.textOnly Departure.lateStores }, { on := 5, ground := Ground.textOnly Departure.lateStoresUnsure }], guard := none }) (v := ?v6ra) rfl (by kernel_rfl) (by kernel_rfl) (by kernel_rfl) (fun _ _ _ h => h) (Or.inl ⟨by rfl, ?y6ra⟩) (by assumption) ?r6ra
  case y6ra => (intro x hx; (try dsimp only at hx); go_simp; try with_reducible rfl)
  try simp only [Act.put, List.setIfInBounds_toArray, List.set_cons_zero, List.set_cons_succ]
  refine wpAnyH_take (i := 7) (oi := { dst := some 8, op := Op.assign (Operand.tmp 26), type := 29, pos := "outright.go:151", after := #[{ on := 3, ground := Ground.data }, { on := 6, ground := Ground.chain }, { on := 0, ground := Ground.phase }, { on := 1, ground := Ground.phase }, { on := 2, ground := Ground.phase }, { on := 3, ground := Ground.phase }, { on := 4, ground := Ground.textOnly Departure.lateStores }, { on := 5, ground := Ground.textOnly Departure.lateStoresUnsure }, { on := 6, ground := Ground.phase }], guard := none }) (v := ?v7ra) rfl (by kernel_rfl) (by kernel_rfl) (by kernel_rfl) (fun _ _ _ h => h) (Or.inl ⟨by rfl, ?y7ra⟩) (by assumption) ?r7ra
  case y7ra => (intro x hx; (try dsimp only at hx); go_simp; try with_reducible rfl)
  try simp only [Act.put, List.setIfInBounds_toArray, List.set_cons_zero, List.set_cons_succ]
  refine wpAnyH_take (i := 8) (oi := { dst := some 9, op := Op.assign (Operand.tmp 28), type := 29, pos := "outright.go:151", after := #[{ on := 5, ground := Ground.data }, { on := 7, ground := Ground.chain }, { on := 0, ground := Ground.phase }, { on := 1, ground := Ground.phase }, { on := 2, ground := Ground.phase }, { on := 3, ground := Ground.phase }, { on := 4, ground := Ground.phase }, { on := 5, ground := Ground.phase }, { on := 6, ground := Ground.phase }, { on := 7, ground := Ground.phase }], guard := none }) (v := ?v8ra) rfl (by kernel_rfl) (by kernel_rfl) (by kernel_rfl) (fun _ _ _ h => h) (Or.inl ⟨by rfl, ?y8ra⟩) (by assumption) ?r8ra
  case y8ra => (intro x hx; (try dsimp only at hx); go_simp; try with_reducible rfl)
  try simp only [Act.put, List.setIfInBounds_toArray, List.set_cons_zero, List.set_cons_succ]
  refine wpAnyH_done (by kernel_rfl) ?_ _
  obtain ⟨x10, x11, x12, x13, x14⟩ := cells5 HX4.out.b1
  obtain ⟨x20, x21, x22, x23, x24⟩ := cells5 HX4.out.b2
  obtain ⟨x30, x31, x32, x33, x34⟩ := cells5 HX4.out.b3
  go_upto_region 10 with (first
    | (go_at_call 18; have zz := T1; clear T1 zz; refine (diff_any b q s b q s a1 a2 a3 a4 n1 c1 n2 c2 n1 c3 n2 c4 xs ys ms ns _ (by omega) (by omega) (by omega) (by omega) (HR1.out.below HX4.out.bel) (HR2.out.below HX4.out.bel) (HR3.out.below HX4.out.bel) (HR4.out.below HX4.out.bel) HKC.out.1 HKC.out.2.1).mono ?_; rintro e t5 ⟨vt5, rfl, ot5, bl⟩
       rw [HD1.out] at ot5 ⊢; rw [HDL1.out, HND.out] at ot5; obtain ⟨ra, ka, rfl, rp1⟩ := ownP_reads ot5; clear ot5
       have HL0 : Hid (ReadsP t5 ra ND DL) := rp1
       clear rp1
       have HX5 : Hid (Bx3 w t5 #[.int .i64 b, .int .i64 q, .int .i64 s, .slice a1 n1 c1, .slice a2 n2 c2] #[.int .i64 b, .int .i64 q, .int .i64 s, .slice a3 n1 c3, .slice a4 n2 c4] #[.int .i64 bc, .int .i64 qc, .int .i64 sc, .slice a5 n5 c5, .slice a6 n6 c6]) := HX4.out.below bl
       clear bl x10 x11 x12 x13 x14 x20 x21 x22 x23 x24 x30 x31 x32 x33 x34
       obtain ⟨x10, x11, x12, x13, x14⟩ := cells5 HX5.out.b1
       obtain ⟨x20, x21, x22, x23, x24⟩ := cells5 HX5.out.b2
       obtain ⟨x30, x31, x32, x33, x34⟩ := cells5 HX5.out.b3)
    | (go_at_call 18; have zz := T2; clear T2 zz; refine (diff_any b q s b q s a3 a4 a1 a2 n1 c3 n2 c4 n1 c1 n2 c2 ys xs ns ms _ (by omega) (by omega) (by omega) (by omega) (HR3.out.below HX5.out.bel) (HR4.out.below HX5.out.bel) (HR1.out.below HX5.out.bel) (HR2.out.below HX5.out.bel) HKC.out.2.1 HKC.out.1).mono ?_; rintro e t6 ⟨vt6, rfl, ot6, bl⟩
       rw [HD1.out] at ot6 ⊢; rw [HDL2.out, HND.out] at ot6; obtain ⟨rb, kb, rfl, rp2⟩ := ownP_reads ot6; clear ot6
       have HL1 : Hid (ReadsP t6 ra ND DL) := HL0.out.below bl
       have HL2 : Hid (ReadsP t6 rb ND DL) := rp2
       clear rp2
       have HX6 : Hid (Bx3 w t6 #[.int .i64 b, .int .i64 q, .int .i64 s, .slice a1 n1 c1, .slice a2 n2 c2] #[.int .i64 b, .int .i64 q, .int .i64 s, .slice a3 n1 c3, .slice a4 n2 c4] #[.int .i64 bc, .int .i64 qc, .int .i64 sc, .slice a5 n5 c5, .slice a6 n6 c6]) := HX5.out.below bl
       clear bl x10 x11 x12 x13 x14 x20 x21 x22 x23 x24 x30 x31 x32 x33 x34
       obtain ⟨x10, x11, x12, x13, x14⟩ := cells5 HX6.out.b1
       obtain ⟨x20, x21, x22, x23, x24⟩ := cells5 HX6.out.b2
       obtain ⟨x30, x31, x32, x33, x34⟩ := cells5 HX6.out.b3)
    | (go_at_call 12; refine (no_any _ _).mono ?_; rintro e u9 ⟨rfl, h9⟩; rw [h9]; clear h9))
  go_upto_region 12 with (first
    | (go_at_call 12; refine (no_any _ _).mono ?_; rintro e u9 ⟨rfl, h9⟩; rw [h9]; clear h9)
    | (go_at_call 19; refine (samePl_eq ra rb ND ka kb DL _ HL1.out HL2.out (by omega)).mono ?_; rintro e u5 ⟨rfl, q5, h5⟩
       have bl5 : Below t6.heap.size t6 u5 := (by rw [h5]; exact ⟨rfl, rfl, rfl, Nat.le_refl _, fun _ _ => rfl⟩)
       have HY1 : Hid (Bx3 w u5 #[.int .i64 b, .int .i64 q, .int .i64 s, .slice a1 n1 c1, .slice a2 n2 c2] #[.int .i64 b, .int .i64 q, .int .i64 s, .slice a3 n1 c3, .slice a4 n2 c4] #[.int .i64 bc, .int .i64 qc, .int .i64 sc, .slice a5 n5 c5, .slice a6 n6 c6]) := HX6.out.below bl5
       have HL3 : Hid (ReadsP u5 ra ND DL) := HL1.out.below bl5
       clear h5 bl5 x10 x11 x12 x13 x14 x20 x21 x22 x23 x24 x30 x31 x32 x33 x34
       obtain ⟨x10, x11, x12, x13, x14⟩ := cells5 HY1.out.b1
       obtain ⟨x20, x21, x22, x23, x24⟩ := cells5 HY1.out.b2
       obtain ⟨x30, x31, x32, x33, x34⟩ := cells5 HY1.out.b3)
    | (go_at_call 14; refine (alike_dec b q s a1 a3 n1 c1 c3 xs ys a2 a4 n2 c2 c4 ms ns _ (HR1.out.below HY1.out.bel) (HR3.out.below HY1.out.bel) (HR2.out.below HY1.out.bel) (HR4.out.below HY1.out.bel) (by omega)).mono ?_; rintro e u6 ⟨rfl, bl6⟩
       rw [HDC.out]
       have HY2 : Hid (Bx3 w u6 #[.int .i64 b, .int .i64 q, .int .i64 s, .slice a1 n1 c1, .slice a2 n2 c2] #[.int .i64 b, .int .i64 q, .int .i64 s, .slice a3 n1 c3, .slice a4 n2 c4] #[.int .i64 bc, .int .i64 qc, .int .i64 sc, .slice a5 n5 c5, .slice a6 n6 c6]) := HY1.out.below bl6
       have HL4 : Hid (ReadsP u6 ra ND DL) := HL3.out.below bl6
       clear bl6 x10 x11 x12 x13 x14 x20 x21 x22 x23 x24 x30 x31 x32 x33 x34
       obtain ⟨x10, x11, x12, x13, x14⟩ := cells5 HY2.out.b1
       obtain ⟨x20, x21, x22, x23, x24⟩ := cells5 HY2.out.b2
       obtain ⟨x30, x31, x32, x33, x34⟩ := cells5 HY2.out.b3))
  go_wp2_with fail
  go_loopw [14] (fun s14 wr => ∃ k : Nat, k ≤ ND ∧ s14 = .int .i64 (k : Int) ∧ Hid (Bx3 w wr #[.int .i64 b, .int .i64 q, .int .i64 s, .slice a1 n1 c1, .slice a2 n2 c2] #[.int .i64 b, .int .i64 q, .int .i64 s, .slice a3 n1 c3, .slice a4 n2 c4] #[.int .i64 bc, .int .i64 qc, .int .i64 sc, .slice a5 n5 c5, .slice a6 n6 c6]) ∧ Hid (ReadsP wr ra ND DL)) (fun i _ => ND - (intOf i).toNat)
  case atStart => exact ⟨0, Nat.zero_le _, rfl, HY2.out, HL4.out⟩
  case round =>
    obtain ⟨k, hk, rfl, HZ, HP⟩ := hrel
    by_cases hlt : k < ND
    · have d1 : (k : Int) < (ND : Int) := by omega
      have wk : IntKind.i64.wrap ((k : Int) + 1) = (k : Int) + 1 := by rw [IntKind.wrap_i64]; omega
      obtain ⟨g1, o1, rfl, hg1, hc1⟩ := HP.out.pos (by omega)
      obtain ⟨e1, e2⟩ := hc1 k hlt
      have HBD : Hid (0 ≤ (DL.getD k Pl.zero).x ∧ (DL.getD k Pl.zero).x < b ∧ -1 ≤ (DL.getD k Pl.zero).y ∧ (DL.getD k Pl.zero).y < q) := HIN.out _ (pl_at (by rw [HND.out]; exact hlt))
      have HC1 : Hid (∀ i, i < ND → wr.cell? ⟨g1, o1 + i * 2, none⟩ = some (.int .i64 (DL.getD i Pl.zero).x) ∧ wr.cell? ⟨g1, o1 + i * 2 + 1, none⟩ = some (.int .i64 (DL.getD i Pl.zero).y)) := hc1
      clear hc1
      obtain ⟨X, hX⟩ : ∃ X, (DL.getD k Pl.zero).x = X := ⟨_, rfl⟩
      obtain ⟨Y, hY⟩ : ∃ Y, (DL.getD k Pl.zero).y = Y := ⟨_, rfl⟩
      have HXY : Hid ((DL.getD k Pl.zero).x = X ∧ (DL.getD k Pl.zero).y = Y) := ⟨hX, hY⟩
      rw [hX] at e1
      rw [hY] at e2
      obtain ⟨b1, b2, b3, b4⟩ := HBD.out
      rw [hX] at b1 b2
      rw [hY] at b3 b4
      have m1 : ¬ X < 0 := by omega
      have m2 : ¬ b ≤ X := by omega
      have m3 : ¬ Y < -1 := by omega
      have m4 : ¬ q ≤ Y := by omega
      clear hX hY b1 b2 b3 b4
      go_upto_region 16 with fail
      obtain ⟨V, hV⟩ : ∃ V, wr.alloc (.cells #[.int .i64 X, .int .i64 Y] 50) = V := ⟨_, rfl⟩
      have hbv : Below wr.heap.size wr V := by rw [← hV]; exact below_alloc _ _
      have hvb : V.heap[wr.heap.size]? = some (.cells #[.int .i64 X, .int .i64 Y] 50 (0, 0)) := by rw [← hV]; exact heap_alloc_new _ _
      rw [hV]
      clear hV e1 e2
      have v0 : V.cell? ⟨wr.heap.size, 0, none⟩ = some (.int .i64 X) := by simp [World.cell?, hvb]
      have v1 : V.cell? ⟨wr.heap.size, 1, none⟩ = some (.int .i64 Y) := by simp [World.cell?, hvb]
      have HZV : Hid (Bx3 w V #[.int .i64 b, .int .i64 q, .int .i64 s, .slice a1 n1 c1, .slice a2 n2 c2] #[.int .i64 b, .int .i64 q, .int .i64 s, .slice a3 n1 c3, .slice a4 n2 c4] #[.int .i64 bc, .int .i64 qc, .int .i64 sc, .slice a5 n5 c5, .slice a6 n6 c6]) := HZ.out.below hbv
      have HPV : Hid (ReadsP V (some ⟨g1, o1, none⟩) ND DL) := HP.out.below hbv
      have HVB : Hid (Below wr.heap.size wr V) := hbv
      clear hvb hbv
      obtain ⟨x10, x11, x12, x13, x14⟩ := cells5 HZV.out.b1
      clear x12 x13 x14
      rcases Nat.eq_zero_or_pos k with hk0 | hk0
      · subst hk0
        go_upto_region 18 with fail
        refine wp_region_held_drew (S := (fun y : World => y.cell? ⟨wr.heap.size, 0, none⟩ = some (.int .i64 X) ∧ y.cell? ⟨wr.heap.size, 1, none⟩ = some (.int .i64 Y))) (by kernel_rfl) (⟨v0, v1⟩) (fun hHeld => ?_)
        refine wpAnyH_take (i := 0) (oi := { dst := some 137, op := Op.move (Operand.tmp 14), type := 3, pos := "outright.go:168", after := #[], guard := none }) (v := ?v0sa) rfl (by kernel_rfl) (by kernel_rfl) (by kernel_rfl) (fun _ _ _ h => h) (Or.inl ⟨by rfl, ?y0sa⟩) (by assumption) ?r0sa
        case y0sa => (intro x hx; (try dsimp only at hx); go_simp; try with_reducible rfl)
        try simp only [Act.put, List.setIfInBounds_toArray, List.set_cons_zero, List.set_cons_succ]
        refine wpAnyH_take (i := 1) (oi := { dst := some 138, op := Op.binOp BinOp.gtr 3 (Operand.tmp 137) (Operand.const (Value.int IntKind.i64 0)) 3, type := 4, pos := "outright.go:168", after := #[{ on := 0, ground := Ground.data }], guard := none }) (v := ?v1sa) rfl (by kernel_rfl) (by kernel_rfl) (by kernel_rfl) (fun _ _ _ h => h) (Or.inl ⟨by rfl, ?y1sa⟩) (by assumption) ?r1sa
        case y1sa => (intro x hx; (try dsimp only at hx); go_simp; try with_reducible rfl)
        try simp only [Act.put, List.setIfInBounds_toArray, List.set_cons_zero, List.set_cons_succ]
        refine wpAnyH_take (i := 2) (oi := { dst := some 139, op := Op.move (Operand.tmp 138), type := 4, pos := "outright.go:168", after := #[{ on := 1, ground := Ground.data }], guard := none }) (v := ?v2sa) rfl (by kernel_rfl) (by kernel_rfl) (by kernel_rfl) (fun _ _ _ h => h) (Or.inl ⟨by rfl, ?y2sa⟩) (by assumption) ?r2sa
        case y2sa => (intro x hx; (try dsimp only at hx); go_simp; try with_reducible rfl)
        try simp only [Act.put, List.setIfInBounds_toArray, List.set_cons_zero, List.set_cons_succ]
        refine wpAnyH_take (i := 3) (oi := { dst := some 140, op := Op.move (Operand.tmp 10), type := 45, pos := "outright.go:168", after := #[{ on := 2, ground := Ground.guard }], guard := some (2, true) }) (v := undef) rfl (by kernel_rfl) (by kernel_rfl) (by kernel_rfl) (fun _ _ _ h => h) (Or.inr ⟨by rfl, rfl⟩) (by assumption) ?_
        try simp only [Act.put, List.setIfInBounds_toArray, List.set_cons_zero, List.set_cons_succ]
        refine wpAnyH_take (i := 4) (oi := { dst := some 141, op := Op.move (Operand.tmp 14), type := 3, pos := "outright.go:168", after := #[{ on := 2, ground := Ground.guard }], guard := some (2, true) }) (v := undef) rfl (by kernel_rfl) (by kernel_rfl) (by kernel_rfl) (fun _ _ _ h => h) (Or.inr ⟨by rfl, rfl⟩) (by assumption) ?_
        try simp only [Act.put, List.setIfInBounds_toArray, List.set_cons_zero, List.set_cons_succ]
        refine wpAnyH_take (i := 5) (oi := { dst := some 142, op := Op.binOp BinOp.sub 3 (Operand.tmp 141) (Operand.const (Value.int IntKind.i64 1)) 3, type := 3, pos := "outright.go:168", after := #[{ on := 4, ground := Ground.data }, { on := 2, ground := Ground.guard }], guard := some (2, true) }) (v := undef) rfl (by kernel_rfl) (by kernel_rfl) (by kernel_rfl) (fun _ _ _ h => h) (Or.inr ⟨by rfl, rfl⟩) (by assumption) ?_
        try simp only [Act.put, List.setIfInBounds_toArray, List.set_cons_zero, List.set_cons_succ]
        refine wpAnyH_take (i := 6) (oi := { dst := some 143, op := Op.indexAddr 45 (Operand.tmp 140) (Operand.tmp 142), type := 0, pos := "outright.go:168", after := #[{ on := 3, ground := Ground.data }, { on := 5, ground := Ground.data }, { on := 2, ground := Ground.guard }], guard := some (2, true) }) (v := undef) rfl (by kernel_rfl) (by kernel_rfl) (by kernel_rfl) (fun _ _ _ h => h) (Or.inr ⟨by rfl, rfl⟩) (by assumption) ?_
        try simp only [Act.put, List.setIfInBounds_toArray, List.set_cons_zero, List.set_cons_succ]
        refine wpAnyH_take (i := 7) (oi := { dst := some 144, op := Op.fieldAddr 50 (Operand.tmp 143) 0, type := 0, pos := "outright.go:168", after := #[{ on := 6, ground := Ground.data }, { on := 2, ground := Ground.guard }], guard := some (2, true) }) (v := undef) rfl (by kernel_rfl) (by kernel_rfl) (by kernel_rfl) (fun _ _ _ h => h) (Or.inr ⟨by rfl, rfl⟩) (by assumption) ?_
        try simp only [Act.put, List.setIfInBounds_toArray, List.set_cons_zero, List.set_cons_succ]
        refine wpAnyH_take (i := 8) (oi := { dst := some 145, op := Op.load 3 (Operand.tmp 144), type := 3, pos := "outright.go:168", after := #[{ on := 7, ground := Ground.data }, { on := 2, ground := Ground.guard }], guard := some (2, true) }) (v := undef) rfl (by kernel_rfl) (by kernel_rfl) (by kernel_rfl) (fun _ _ _ h => h) (Or.inr ⟨by rfl, rfl⟩) (by assumption) ?_
        try simp only [Act.put, List.setIfInBounds_toArray, List.set_cons_zero, List.set_cons_succ]
        refine wpAnyH_take (i := 9) (oi := { dst := some 146, op := Op.fieldAddr 50 (Operand.tmp 15) 0, type := 0, pos := "outright.go:168", after := #[{ on := 2, ground := Ground.guard }], guard := some (2, true) }) (v := undef) rfl (by kernel_rfl) (by kernel_rfl) (by kernel_rfl) (fun _ _ _ h => h) (Or.inr ⟨by rfl, rfl⟩) (by assumption) ?_
        try simp only [Act.put, List.setIfInBounds_toArray, List.set_cons_zero, List.set_cons_succ]
        refine wpAnyH_take (i := 10) (oi := { dst := some 147, op := Op.load 3 (Operand.tmp 146), type := 3, pos := "outright.go:168", after := #[{ on := 9, ground := Ground.data }, { on := 2, ground := Ground.guard }], guard := some (2, true) }) (v := undef) rfl (by kernel_rfl) (by kernel_rfl) (by kernel_rfl) (fun _ _ _ h => h) (Or.inr ⟨by rfl, rfl⟩) (by assumption) ?_
        try simp only [Act.put, List.setIfInBounds_toArray, List.set_cons_zero, List.set_cons_succ]
        refine wpAnyH_take (i := 11) (oi := { dst := some 148, op := Op.binOp BinOp.gtr 3 (Operand.tmp 145) (Operand.tmp 147) 3, type := 4, pos := "outright.go:168", after := #[{ on := 8, ground := Ground.data }, { on := 10, ground := Ground.data }, { on := 2, ground := Ground.guard }], guard := some (2, true) }) (v := undef) rfl (by kernel_rfl) (by kernel_rfl) (by kernel_rfl) (fun _ _ _ h => h) (Or.inr ⟨by rfl, rfl⟩) (by assumption) ?_
        try simp only [Act.put, List.setIfInBounds_toArray, List.set_cons_zero, List.set_cons_succ]
        refine wpAnyH_take (i := 12) (oi := { dst := some 149, op := Op.move (Operand.tmp 148), type := 4, pos := "outright.go:168", after := #[{ on := 11, ground := Ground.data }, { on := 2, ground := Ground.chain }, { on := 2, ground := Ground.guard }], guard := some (2, true) }) (v := undef) rfl (by kernel_rfl) (by kernel_rfl) (by kernel_rfl) (fun _ _ _ h => h) (Or.inr ⟨by rfl, rfl⟩) (by assumption) ?_
        try simp only [Act.put, List.setIfInBounds_toArray, List.set_cons_zero, List.set_cons_succ]
        refine wpAnyH_take (i := 13) (oi := { dst := some 150, op := Op.move (Operand.tmp 10), type := 45, pos := "outright.go:168", after := #[{ on := 12, ground := Ground.guard }], guard := some (12, false) }) (v := undef) rfl (by kernel_rfl) (by kernel_rfl) (by kernel_rfl) (fun _ _ _ h => h) (Or.inr ⟨by rfl, rfl⟩) (by assumption) ?_
        try simp only [Act.put, List.setIfInBounds_toArray, List.set_cons_zero, List.set_cons_succ]
        refine wpAnyH_take (i := 14) (oi := { dst := some 151, op := Op.move (Operand.tmp 14), type := 3, pos := "outright.go:168", after := #[{ on := 12, ground := Ground.guard }], guard := some (12, false) }) (v := undef) rfl (by kernel_rfl) (by kernel_rfl) (by kernel_rfl) (fun _ _ _ h => h) (Or.inr ⟨by rfl, rfl⟩) (by assumption) ?_
        try simp only [Act.put, List.setIfInBounds_toArray, List.set_cons_zero, List.set_cons_succ]
        refine wpAnyH_take (i := 15) (oi := { dst := some 152, op := Op.binOp BinOp.sub 3 (Operand.tmp 151) (Operand.const (Value.int IntKind.i64 1)) 3, type := 3, pos := "outright.go:168", after := #[{ on := 14, ground := Ground.data }, { on := 12, ground := Ground.guard }], guard := some (12, false) }) (v := undef) rfl (by kernel_rfl) (by kernel_rfl) (by kernel_rfl) (fun _ _ _ h => h) (Or.inr ⟨by rfl, rfl⟩) (by assumption) ?_
        try simp only [Act.put, List.setIfInBounds_toArray, List.set_cons_zero, List.set_cons_succ]
        refine wpAnyH_take (i := 16) (oi := { dst := some 153, op := Op.indexAddr 45 (Operand.tmp 150) (Operand.tmp 152), type := 0, pos := "outright.go:168", after := #[{ on := 13, ground := Ground.data }, { on := 15, ground := Ground.data }, { on := 12, ground := Ground.guard }], guard := some (12, false) }) (v := undef) rfl (by kernel_rfl) (by kernel_rfl) (by kernel_rfl) (fun _ _ _ h => h) (Or.inr ⟨by rfl, rfl⟩) (by assumption) ?_
        try simp only [Act.put, List.setIfInBounds_toArray, List.set_cons_zero, List.set_cons_succ]
        refine wpAnyH_take (i := 17) (oi := { dst := some 154, op := Op.fieldAddr 50 (Operand.tmp 153) 0, type := 0, pos := "outright.go:168", after := #[{ on := 16, ground := Ground.data }, { on := 12, ground := Ground.guard }], guard := some (12, false) }) (v := undef) rfl (by kernel_rfl) (by kernel_rfl) (by kernel_rfl) (fun _ _ _ h => h) (Or.inr ⟨by rfl, rfl⟩) (by assumption) ?_
        try simp only [Act.put, List.setIfInBounds_toArray, List.set_cons_zero, List.set_cons_succ]
        refine wpAnyH_take (i := 18) (oi := { dst := some 155, op := Op.load 3 (Operand.tmp 154), type := 3, pos := "outright.go:168", after := #[{ on := 17, ground := Ground.data }, { on := 12, ground := Ground.guard }], guard := some (12, false) }) (v := undef) rfl (by kernel_rfl) (by kernel_rfl) (by kernel_rfl) (fun _ _ _ h => h) (Or.inr ⟨by rfl, rfl⟩) (by assumption) ?_
        try simp only [Act.put, List.setIfInBounds_toArray, List.set_cons_zero, List.set_cons_succ]
        refine wpAnyH_take (i := 19) (oi := { dst := some 156, op := Op.fieldAddr 50 (Operand.tmp 15) 0, type := 0, pos := "outright.go:168", after := #[{ on := 12, ground := Ground.guard }], guard := some (12, false) }) (v := undef) rfl (by kernel_rfl) (by kernel_rfl) (by kernel_rfl) (fun _ _ _ h => h) (Or.inr ⟨by rfl, rfl⟩) (by assumption) ?_
        try simp only [Act.put, List.setIfInBounds_toArray, List.set_cons_zero, List.set_cons_succ]
        refine wpAnyH_take (i := 20) (oi := { dst := some 157, op := Op.load 3 (Operand.tmp 156), type := 3, pos := "outright.go:168", after := #[{ on := 19, ground := Ground.data }, { on := 12, ground := Ground.guard }], guard := some (12, false) }) (v := undef) rfl (by kernel_rfl) (by kernel_rfl) (by kernel_rfl) (fun _ _ _ h => h) (Or.inr ⟨by rfl, rfl⟩) (by assumption) ?_
        try simp only [Act.put, List.setIfInBounds_toArray, List.set_cons_zero, List.set_cons_succ]
        refine wpAnyH_take (i := 21) (oi := { dst := some 158, op := Op.binOp BinOp.eql 3 (Operand.tmp 155) (Operand.tmp 157) 3, type := 4, pos := "outright.go:168", after := #[{ on := 18, ground := Ground.data }, { on := 20, ground := Ground.data }, { on := 12, ground := Ground.guard }], guard := some (12, false) }) (v := undef) rfl (by kernel_rfl) (by kernel_rfl) (by kernel_rfl) (fun _ _ _ h => h) (Or.inr ⟨by rfl, rfl⟩) (by assumption) ?_
        try simp only [Act.put, List.setIfInBounds_toArray, List.set_cons_zero, List.set_cons_succ]
        refine wpAnyH_take (i := 22) (oi := { dst := some 159, op := Op.move (Operand.tmp 158), type := 4, pos := "outright.go:168", after := #[{ on := 21, ground := Ground.data }, { on := 12, ground := Ground.chain }, { on := 12, ground := Ground.guard }], guard := some (12, false) }) (v := undef) rfl (by kernel_rfl) (by kernel_rfl) (by kernel_rfl) (fun _ _ _ h => h) (Or.inr ⟨by rfl, rfl⟩) (by assumption) ?_
        try simp only [Act.put, List.setIfInBounds_toArray, List.set_cons_zero, List.set_cons_succ]
        refine wpAnyH_take (i := 23) (oi := { dst := some 160, op := Op.move (Operand.tmp 10), type := 45, pos := "outright.go:168", after := #[{ on := 22, ground := Ground.guard }], guard := some (22, true) }) (v := undef) rfl (by kernel_rfl) (by kernel_rfl) (by kernel_rfl) (fun _ _ _ h => h) (Or.inr ⟨by rfl, rfl⟩) (by assumption) ?_
        try simp only [Act.put, List.setIfInBounds_toArray, List.set_cons_zero, List.set_cons_succ]
        refine wpAnyH_take (i := 24) (oi := { dst := some 161, op := Op.move (Operand.tmp 14), type := 3, pos := "outright.go:168", after := #[{ on := 22, ground := Ground.guard }], guard := some (22, true) }) (v := undef) rfl (by kernel_rfl) (by kernel_rfl) (by kernel_rfl) (fun _ _ _ h => h) (Or.inr ⟨by rfl, rfl⟩) (by assumption) ?_
        try simp only [Act.put, List.setIfInBounds_toArray, List.set_cons_zero, List.set_cons_succ]
        refine wpAnyH_take (i := 25) (oi := { dst := some 162, op := Op.binOp BinOp.sub 3 (Operand.tmp 161) (Operand.const (Value.int IntKind.i64 1)) 3, type := 3, pos := "outright.go:168", after := #[{ on := 24, ground := Ground.data }, { on := 22, ground := Ground.guard }], guard := some (22, true) }) (v := undef) rfl (by kernel_rfl) (by kernel_rfl) (by kernel_rfl) (fun _ _ _ h => h) (Or.inr ⟨by rfl, rfl⟩) (by assumption) ?_
        try simp only [Act.put, List.setIfInBounds_toArray, List.set_cons_zero, List.set_cons_succ]
        refine wpAnyH_take (i := 26) (oi := { dst := some 163, op := Op.indexAddr 45 (Operand.tmp 160) (Operand.tmp 162), type := 0, pos := "outright.go:168", after := #[{ on := 23, ground := Ground.data }, { on := 25, ground := Ground.data }, { on := 22, ground := Ground.guard }], guard := some (22, true) }) (v := undef) rfl (by kernel_rfl) (by kernel_rfl) (by kernel_rfl) (fun _ _ _ h => h) (Or.inr ⟨by rfl, rfl⟩) (by assumption) ?_
        try simp only [Act.put, List.setIfInBounds_toArray, List.set_cons_zero, List.set_cons_succ]
        refine wpAnyH_take (i := 27) (oi := { dst := some 164, op := Op.fieldAddr 50 (Operand.tmp 163) 1, type := 0, pos := "outright.go:168", after := #[{ on := 26, ground := Ground.data }, { on := 22, ground := Ground.guard }], guard := some (22, true) }) (v := undef) rfl (by kernel_rfl) (by kernel_rfl) (by kernel_rfl) (fun _ _ _ h => h) (Or.inr ⟨by rfl, rfl⟩) (by assumption) ?_
        try simp only [Act.put, List.setIfInBounds_toArray, List.set_cons_zero, List.set_cons_succ]
        refine wpAnyH_take (i := 28) (oi := { dst := some 165, op := Op.load 3 (Operand.tmp 164), type := 3, pos := "outright.go:168", after := #[{ on := 27, ground := Ground.data }, { on := 22, ground := Ground.guard }], guard := some (22, true) }) (v := undef) rfl (by kernel_rfl) (by kernel_rfl) (by kernel_rfl) (fun _ _ _ h => h) (Or.inr ⟨by rfl, rfl⟩) (by assumption) ?_
        try simp only [Act.put, List.setIfInBounds_toArray, List.set_cons_zero, List.set_cons_succ]
        refine wpAnyH_take (i := 29) (oi := { dst := some 166, op := Op.fieldAddr 50 (Operand.tmp 15) 1, type := 0, pos := "outright.go:168", after := #[{ on := 22, ground := Ground.guard }], guard := some (22, true) }) (v := undef) rfl (by kernel_rfl) (by kernel_rfl) (by kernel_rfl) (fun _ _ _ h => h) (Or.inr ⟨by rfl, rfl⟩) (by assumption) ?_
        try simp only [Act.put, List.setIfInBounds_toArray, List.set_cons_zero, List.set_cons_succ]
        refine wpAnyH_take (i := 30) (oi := { dst := some 167, op := Op.load 3 (Operand.tmp 166), type := 3, pos := "outright.go:168", after := #[{ on := 29, ground := Ground.data }, { on := 22, ground := Ground.guard }], guard := some (22, true) }) (v := undef) rfl (by kernel_rfl) (by kernel_rfl) (by kernel_rfl) (fun _ _ _ h => h) (Or.inr ⟨by rfl, rfl⟩) (by assumption) ?_
        try simp only [Act.put, List.setIfInBounds_toArray, List.set_cons_zero, List.set_cons_succ]
        refine wpAnyH_take (i := 31) (oi := { dst := some 168, op := Op.binOp BinOp.geq 3 (Operand.tmp 165) (Operand.tmp 167) 3, type := 4, pos := "outright.go:168", after := #[{ on := 28, ground := Ground.data }, { on := 30, ground := Ground.data }, { on := 22, ground := Ground.guard }], guard := some (22, true) }) (v := undef) rfl (by kernel_rfl) (by kernel_rfl) (by kernel_rfl) (fun _ _ _ h => h) (Or.inr ⟨by rfl, rfl⟩) (by assumption) ?_
        try simp only [Act.put, List.setIfInBounds_toArray, List.set_cons_zero, List.set_cons_succ]
        refine wpAnyH_take (i := 32) (oi := { dst := some 169, op := Op.pick (Operand.tmp 159) (Operand.tmp 168) (Operand.const (Value.bool false)), type := 4, pos := "outright.go:168", after := #[{ on := 22, ground := Ground.data }, { on := 31, ground := Ground.data }, { on := 12, ground := Ground.guard }], guard := some (12, false) }) (v := undef) rfl (by kernel_rfl) (by kernel_rfl) (by kernel_rfl) (fun _ _ _ h => h) (Or.inr ⟨by rfl, rfl⟩) (by assumption) ?_
        try simp only [Act.put, List.setIfInBounds_toArray, List.set_cons_zero, List.set_cons_succ]
        refine wpAnyH_take (i := 33) (oi := { dst := some 170, op := Op.pick (Operand.tmp 149) (Operand.const (Value.bool true)) (Operand.tmp 169), type := 4, pos := "outright.go:168", after := #[{ on := 12, ground := Ground.data }, { on := 32, ground := Ground.data }, { on := 2, ground := Ground.guard }], guard := some (2, true) }) (v := undef) rfl (by kernel_rfl) (by kernel_rfl) (by kernel_rfl) (fun _ _ _ h => h) (Or.inr ⟨by rfl, rfl⟩) (by assumption) ?_
        try simp only [Act.put, List.setIfInBounds_toArray, List.set_cons_zero, List.set_cons_succ]
        refine wpAnyH_take (i := 34) (oi := { dst := some 171, op := Op.pick (Operand.tmp 139) (Operand.tmp 170) (Operand.const (Value.bool false)), type := 4, pos := "outright.go:168", after := #[{ on := 2, ground := Ground.data }, { on := 33, ground := Ground.data }], guard := none }) (v := ?v34sa) rfl (by kernel_rfl) (by kernel_rfl) (by kernel_rfl) (fun _ _ _ h => h) (Or.inl ⟨by rfl, ?y34sa⟩) (by assumption) ?r34sa
        case y34sa => (intro x hx; (try dsimp only at hx); go_simp; try with_reducible rfl)
        try simp only [Act.put, List.setIfInBounds_toArray, List.set_cons_zero, List.set_cons_succ]
        refine wpAnyH_done (by kernel_rfl) ?_ _
        go_wp2_with  fail
        go_roundw
        case rel => exact ⟨1, by omega, by go_num, HZV.out.below (below_dr _), HPV.out.below (below_dr _)⟩
        case measure => simp [intOf]; omega
      · obtain ⟨j, rfl⟩ : ∃ j, k = j + 1 := ⟨k - 1, by omega⟩
        have HAH : Hid (Ahead (DL.getD j Pl.zero) (DL.getD (j + 1) Pl.zero)) := pl_ahead HSO.out (by rw [HND.out]; exact hlt)
        obtain ⟨e1, e2⟩ := HC1.out j (by omega)
        replace e1 := (HVB.out.cell (p := ⟨g1, o1 + j * 2, none⟩) hg1).trans e1
        replace e2 := (HVB.out.cell (p := ⟨g1, o1 + j * 2 + 1, none⟩) hg1).trans e2
        obtain ⟨X', hX⟩ : ∃ X', (DL.getD j Pl.zero).x = X' := ⟨_, rfl⟩
        obtain ⟨Y', hY⟩ : ∃ Y', (DL.getD j Pl.zero).y = Y' := ⟨_, rfl⟩
        rw [hX] at e1
        rw [hY] at e2
        have hah := HAH.out
        unfold Ahead at hah
        rw [hX, hY, HXY.out.1, HXY.out.2] at hah
        clear hX hY
        have w1 : IntKind.i64.wrap (((j + 1 : Nat) : Int) - 1) = (j : Int) := by rw [IntKind.wrap_i64]; omega
        have w2 : IntKind.i64.wrap ((j : Int)) = (j : Int) := by rw [IntKind.wrap_i64]; omega
        have p1 : (0 : Int) < ((j + 1 : Nat) : Int) := by omega
        have p2 : (j : Int) < (ND : Int) := by omega
        rcases hah with hah | ⟨hah, hah2⟩
        · have u1 : ¬ X < X' := by omega
          have u2 : (X' == X) = false := by rw [beq_eq_false_iff_ne]; omega
          go_upto_region 18 with fail
          refine wp_region_held_drew (S := (fun y : World => (y.cell? ⟨wr.heap.size, 0, none⟩ = some (.int .i64 X) ∧ y.cell? ⟨wr.heap.size, 1, none⟩ = some (.int .i64 Y)) ∧ y.cell? ⟨g1, o1 + j * 2, none⟩ = some (.int .i64 X') ∧ y.cell? ⟨g1, o1 + j * 2 + 1, none⟩ = some (.int .i64 Y'))) (by kernel_rfl) (⟨⟨v0, v1⟩, e1, e2⟩) (fun hHeld => ?_)
          refine wpAnyH_take (i := 0) (oi := { dst := some 137, op := Op.move (Operand.tmp 14), type := 3, pos := "outright.go:168", after := #[], guard := none }) (v := ?v0sb) rfl (by kernel_rfl) (by kernel_rfl) (by kernel_rfl) (fun _ _ _ h => h) (Or.inl ⟨by rfl, ?y0sb⟩) (by assumption) ?r0sb
          case y0sb => (intro x hx; (try dsimp only at hx); go_simp; try with_reducible rfl)
          try simp only [Act.put, List.setIfInBounds_toArray, List.set_cons_zero, List.set_cons_succ]
          refine wpAnyH_take (i := 1) (oi := { dst := some 138, op := Op.binOp BinOp.gtr 3 (Operand.tmp 137) (Operand.const (Value.int IntKind.i64 0)) 3, type := 4, pos := "outright.go:168", after := #[{ on := 0, ground := Ground.data }], guard := none }) (v := ?v1sb) rfl (by kernel_rfl) (by kernel_rfl) (by kernel_rfl) (fun _ _ _ h => h) (Or.inl ⟨by rfl, ?y1sb⟩) (by assumption) ?r1sb
          case y1sb => (intro x hx; (try dsimp only at hx); go_simp; try with_reducible rfl)
          try simp only [Act.put, List.setIfInBounds_toArray, List.set_cons_zero, List.set_cons_succ]
          refine wpAnyH_take (i := 2) (oi := { dst := some 139, op := Op.move (Operand.tmp 138), type := 4, pos := "outright.go:168", after := #[{ on := 1, ground := Ground.data }], guard := none }) (v := ?v2sb) rfl (by kernel_rfl) (by kernel_rfl) (by kernel_rfl) (fun _ _ _ h => h) (Or.inl ⟨by rfl, ?y2sb⟩) (by assumption) ?r2sb
          case y2sb => (intro x hx; (try dsimp only at hx); go_simp; try with_reducible rfl)
          try simp only [Act.put, List.setIfInBounds_toArray, List.set_cons_zero, List.set_cons_succ]
          refine wpAnyH_take (i := 3) (oi := { dst := some 140, op := Op.move (Operand.tmp 10), type := 45, pos := "outright.go:168", after := #[{ on := 2, ground := Ground.guard }], guard := some (2, true) }) (v := ?v3sb) rfl (by kernel_rfl) (by kernel_rfl) (by kernel_rfl) (fun _ _ _ h => h) (Or.inl ⟨by rfl, ?y3sb⟩) (by assumption) ?r3sb
          case y3sb => (intro x hx; (try dsimp only at hx); go_simp; try with_reducible rfl)
          try simp only [Act.put, List.setIfInBounds_toArray, List.set_cons_zero, List.set_cons_succ]
          refine wpAnyH_take (i := 4) (oi := { dst := some 141, op := Op.move (Operand.tmp 14), type := 3, pos := "outright.go:168", after := #[{ on := 2, ground := Ground.guard }], guard := some (2, true) }) (v := ?v4sb) rfl (by kernel_rfl) (by kernel_rfl) (by kernel_rfl) (fun _ _ _ h => h) (Or.inl ⟨by rfl, ?y4sb⟩) (by assumption) ?r4sb
          case y4sb => (intro x hx; (try dsimp only at hx); go_simp; try with_reducible rfl)
          try simp only [Act.put, List.setIfInBounds_toArray, List.set_cons_zero, List.set_cons_succ]
          refine wpAnyH_take (i := 5) (oi := { dst := some 142, op := Op.binOp BinOp.sub 3 (Operand.tmp 141) (Operand.const (Value.int IntKind.i64 1)) 3, type := 3, pos := "outright.go:168", after := #[{ on := 4, ground := Ground.data }, { on := 2, ground := Ground.guard }], guard := some (2, true) }) (v := ?v5sb) rfl (by kernel_rfl) (by kernel_rfl) (by kernel_rfl) (fun _ _ _ h => h) (Or.inl ⟨by rfl, ?y5sb⟩) (by assumption) ?r5sb
          case y5sb => (intro x hx; (try dsimp only at hx); go_simp; try with_reducible rfl)
          try simp only [Act.put, List.setIfInBounds_toArray, List.set_cons_zero, List.set_cons_succ]
          refine wpAnyH_take (i := 6) (oi := { dst := some 143, op := Op.indexAddr 45 (Operand.tmp 140) (Operand.tmp 142), type := 0, pos := "outright.go:168", after := #[{ on := 3, ground := Ground.data }, { on := 5, ground := Ground.data }, { on := 2, ground := Ground.guard }], guard := some (2, true) }) (v := ?v6sb) rfl (by kernel_rfl) (by kernel_rfl) (by kernel_rfl) (fun _ _ _ h => h) (Or.inl ⟨by rfl, ?y6sb⟩) (by assumption) ?r6sb
          case y6sb => (intro x hx; (try dsimp only at hx); go_simp; try with_reducible rfl)
          try simp only [Act.put, List.setIfInBounds_toArray, List.set_cons_zero, List.set_cons_succ]
          refine wpAnyH_take (i := 7) (oi := { dst := some 144, op := Op.fieldAddr 50 (Operand.tmp 143) 0, type := 0, pos := "outright.go:168", after := #[{ on := 6, ground := Ground.data }, { on := 2, ground := Ground.guard }], guard := some (2, true) }) (v := ?v7sb) rfl (by kernel_rfl) (by kernel_rfl) (by kernel_rfl) (fun _ _ _ h => h) (Or.inl ⟨by rfl, ?y7sb⟩) (by assumption) ?r7sb
          case y7sb => (intro x hx; (try dsimp only at hx); go_simp; try with_reducible rfl)
          try simp only [Act.put, List.setIfInBounds_toArray, List.set_cons_zero, List.set_cons_succ]
          refine wpAnyH_take (i := 8) (oi := { dst := some 145, op := Op.load 3 (Operand.tmp 144), type := 3, pos := "outright.go:168", after := #[{ on := 7, ground := Ground.data }, { on := 2, ground := Ground.guard }], guard := some (2, true) }) (v := ?v8sb) rfl (by kernel_rfl) (by kernel_rfl) (by kernel_rfl) (fun _ _ _ h => h) (Or.inl ⟨by rfl, ?y8sb⟩) (by assumption) ?r8sb
          case y8sb => (intro x hx; (try dsimp only at hx); go_simp; try with_reducible rfl)
          try simp only [Act.put, List.setIfInBounds_toArray, List.set_cons_zero, List.set_cons_succ]
          refine wpAnyH_take (i := 9) (oi := { dst := some 146, op := Op.fieldAddr 50 (Operand.tmp 15) 0, type := 0, pos := "outright.go:168", after := #[{ on := 2, ground := Ground.guard }], guard := some (2, true) }) (v := ?v9sb) rfl (by kernel_rfl) (by kernel_rfl) (by kernel_rfl) (fun _ _ _ h => h) (Or.inl ⟨by rfl, ?y9sb⟩) (by assumption) ?r9sb
          case y9sb => (intro x hx; (try dsimp only at hx); go_simp; try with_reducible rfl)
          try simp only [Act.put, List.setIfInBounds_toArray, List.set_cons_zero, List.set_cons_succ]
          refine wpAnyH_take (i := 10) (oi := { dst := some 147, op := Op.load 3 (Operand.tmp 146), type := 3, pos := "outright.go:168", after := #[{ on := 9, ground := Ground.data }, { on := 2, ground := Ground.guard }], guard := some (2, true) }) (v := ?v10sb) rfl (by kernel_rfl) (by kernel_rfl) (by kernel_rfl) (fun _ _ _ h => h) (Or.inl ⟨by rfl, ?y10sb⟩) (by assumption) ?r10sb
          case y10sb => (intro x hx; (try dsimp only at hx); go_simp; try with_reducible rfl)
          try simp only [Act.put, List.setIfInBounds_toArray, List.set_cons_zero, List.set_cons_succ]
          refine wpAnyH_take (i := 11) (oi := { dst := some 148, op := Op.binOp BinOp.gtr 3 (Operand.tmp 145) (Operand.tmp 147) 3, type := 4, pos := "outright.go:168", after := #[{ on := 8, ground := Ground.data }, { on := 10, ground := Ground.data }, { on := 2, ground := Ground.guard }], guard := some (2, true) }) (v := ?v11sb) rfl (by kernel_rfl) (by kernel_rfl) (by kernel_rfl) (fun _ _ _ h => h) (Or.inl ⟨by rfl, ?y11sb⟩) (by assumption) ?r11sb
          case y11sb => (intro x hx; (try dsimp only at hx); go_simp; try with_reducible rfl)
          try simp only [Act.put, List.setIfInBounds_toArray, List.set_cons_zero, List.set_cons_succ]
          refine wpAnyH_take (i := 12) (oi := { dst := some 149, op := Op.move (Operand.tmp 148), type := 4, pos := "outright.go:168", after := #[{ on := 11, ground := Ground.data }, { on := 2, ground := Ground.chain }, { on := 2, ground := Ground.guard }], guard := some (2, true) }) (v := ?v12sb) rfl (by kernel_rfl) (by kernel_rfl) (by kernel_rfl) (fun _ _ _ h => h) (Or.inl ⟨by rfl, ?y12sb⟩) (by assumption) ?r12sb
          case y12sb => (intro x hx; (try dsimp only at hx); go_simp; try with_reducible rfl)
          try simp only [Act.put, List.setIfInBounds_toArray, List.set_cons_zero, List.set_cons_succ]
          refine wpAnyH_take (i := 13) (oi := { dst := some 150, op := Op.move (Operand.tmp 10), type := 45, pos := "outright.go:168", after := #[{ on := 12, ground := Ground.guard }], guard := some (12, false) }) (v := ?v13sb) rfl (by kernel_rfl) (by kernel_rfl) (by kernel_rfl) (fun _ _ _ h => h) (Or.inl ⟨by rfl, ?y13sb⟩) (by assumption) ?r13sb
          case y13sb => (intro x hx; (try dsimp only at hx); go_simp; try with_reducible rfl)
          try simp only [Act.put, List.setIfInBounds_toArray, List.set_cons_zero, List.set_cons_succ]
          refine wpAnyH_take (i := 14) (oi := { dst := some 151, op := Op.move (Operand.tmp 14), type := 3, pos := "outright.go:168", after := #[{ on := 12, ground := Ground.guard }], guard := some (12, false) }) (v := ?v14sb) rfl (by kernel_rfl) (by kernel_rfl) (by kernel_rfl) (fun _ _ _ h => h) (Or.inl ⟨by rfl, ?y14sb⟩) (by assumption) ?r14sb
          case y14sb => (intro x hx; (try dsimp only at hx); go_simp; try with_reducible rfl)
          try simp only [Act.put, List.setIfInBounds_toArray, List.set_cons_zero, List.set_cons_succ]
          refine wpAnyH_take (i := 15) (oi := { dst := some 152, op := Op.binOp BinOp.sub 3 (Operand.tmp 151) (Operand.const (Value.int IntKind.i64 1)) 3, type := 3, pos := "outright.go:168", after := #[{ on := 14, ground := Ground.data }, { on := 12, ground := Ground.guard }], guard := some (12, false) }) (v := ?v15sb) rfl (by kernel_rfl) (by kernel_rfl) (by kernel_rfl) (fun _ _ _ h => h) (Or.inl ⟨by rfl, ?y15sb⟩) (by assumption) ?r15sb
          case y15sb => (intro x hx; (try dsimp only at hx); go_simp; try with_reducible rfl)
          try simp only [Act.put, List.setIfInBounds_toArray, List.set_cons_zero, List.set_cons_succ]
          refine wpAnyH_take (i := 16) (oi := { dst := some 153, op := Op.indexAddr 45 (Operand.tmp 150) (Operand.tmp 152), type := 0, pos := "outright.go:168", after := #[{ on := 13, ground := Ground.data }, { on := 15, ground := Ground.data }, { on := 12, ground := Ground.guard }], guard := some (12, false) }) (v := ?v16sb) rfl (by kernel_rfl) (by kernel_rfl) (by kernel_rfl) (fun _ _ _ h => h) (Or.inl ⟨by rfl, ?y16sb⟩) (by assumption) ?r16sb
          case y16sb => (intro x hx; (try dsimp only at hx); go_simp; try with_reducible rfl)
          try simp only [Act.put, List.setIfInBounds_toArray, List.set_cons_zero, List.set_cons_succ]
          refine wpAnyH_take (i := 17) (oi := { dst := some 154, op := Op.fieldAddr 50 (Operand.tmp 153) 0, type := 0, pos := "outright.go:168", after := #[{ on := 16, ground := Ground.data }, { on := 12, ground := Ground.guard }], guard := some (12, false) }) (v := ?v17sb) rfl (by kernel_rfl) (by kernel_rfl) (by kernel_rfl) (fun _ _ _ h => h) (Or.inl ⟨by rfl, ?y17sb⟩) (by assumption) ?r17sb
          case y17sb => (intro x hx; (try dsimp only at hx); go_simp; try with_reducible rfl)
          try simp only [Act.put, List.setIfInBounds_toArray, List.set_cons_zero, List.set_cons_succ]
          refine wpAnyH_take (i := 18) (oi := { dst := some 155, op := Op.load 3 (Operand.tmp 154), type := 3, pos := "outright.go:168", after := #[{ on := 17, ground := Ground.data }, { on := 12, ground := Ground.guard }], guard := some (12, false) }) (v := ?v18sb) rfl (by kernel_rfl) (by kernel_rfl) (by kernel_rfl) (fun _ _ _ h => h) (Or.inl ⟨by rfl, ?y18sb⟩) (by assumption) ?r18sb
          case y18sb => (intro x hx; (try dsimp only at hx); go_simp; try with_reducible rfl)
          try simp only [Act.put, List.setIfInBounds_toArray, List.set_cons_zero, List.set_cons_succ]
          refine wpAnyH_take (i := 19) (oi := { dst := some 156, op := Op.fieldAddr 50 (Operand.tmp 15) 0, type := 0, pos := "outright.go:168", after := #[{ on := 12, ground := Ground.guard }], guard := some (12, false) }) (v := ?v19sb) rfl (by kernel_rfl) (by kernel_rfl) (by kernel_rfl) (fun _ _ _ h => h) (Or.inl ⟨by rfl, ?y19sb⟩) (by assumption) ?r19sb
          case y19sb => (intro x hx; (try dsimp only at hx); go_simp; try with_reducible rfl)
          try simp only [Act.put, List.setIfInBounds_toArray, List.set_cons_zero, List.set_cons_succ]
          refine wpAnyH_take (i := 20) (oi := { dst := some 157, op := Op.load 3 (Operand.tmp 156), type := 3, pos := "outright.go:168", after := #[{ on := 19, ground := Ground.data }, { on := 12, ground := Ground.guard }], guard := some (12, false) }) (v := ?v20sb) rfl (by kernel_rfl) (by kernel_rfl) (by kernel_rfl) (fun _ _ _ h => h) (Or.inl ⟨by rfl, ?y20sb⟩) (by assumption) ?r20sb
          case y20sb => (intro x hx; (try dsimp only at hx); go_simp; try with_reducible rfl)
          try simp only [Act.put, List.setIfInBounds_toArray, List.set_cons_zero, List.set_cons_succ]
          refine wpAnyH_take (i := 21) (oi := { dst := some 158, op := Op.binOp BinOp.eql 3 (Operand.tmp 155) (Operand.tmp 157) 3, type := 4, pos := "outright.go:168", after := #[{ on := 18, ground := Ground.data }, { on := 20, ground := Ground.data }, { on := 12, ground := Ground.guard }], guard := some (12, false) }) (v := ?v21sb) rfl (by kernel_rfl) (by kernel_rfl) (by kernel_rfl) (fun _ _ _ h => h) (Or.inl ⟨by rfl, ?y21sb⟩) (by assumption) ?r21sb
          case y21sb => (intro x hx; (try dsimp only at hx); go_simp; try with_reducible rfl)
          try simp only [Act.put, List.setIfInBounds_toArray, List.set_cons_zero, List.set_cons_succ]
          refine wpAnyH_take (i := 22) (oi := { dst := some 159, op := Op.move (Operand.tmp 158), type := 4, pos := "outright.go:168", after := #[{ on := 21, ground := Ground.data }, { on := 12, ground := Ground.chain }, { on := 12, ground := Ground.guard }], guard := some (12, false) }) (v := ?v22sb) rfl (by kernel_rfl) (by kernel_rfl) (by kernel_rfl) (fun _ _ _ h => h) (Or.inl ⟨by rfl, ?y22sb⟩) (by assumption) ?r22sb
          case y22sb => (intro x hx; (try dsimp only at hx); go_simp; try with_reducible rfl)
          try simp only [Act.put, List.setIfInBounds_toArray, List.set_cons_zero, List.set_cons_succ]
          refine wpAnyH_take (i := 23) (oi := { dst := some 160, op := Op.move (Operand.tmp 10), type := 45, pos := "outright.go:168", after := #[{ on := 22, ground := Ground.guard }], guard := some (22, true) }) (v := undef) rfl (by kernel_rfl) (by kernel_rfl) (by kernel_rfl) (fun _ _ _ h => h) (Or.inr ⟨by rfl, rfl⟩) (by assumption) ?_
          try simp only [Act.put, List.setIfInBounds_toArray, List.set_cons_zero, List.set_cons_succ]
          refine wpAnyH_take (i := 24) (oi := { dst := some 161, op := Op.move (Operand.tmp 14), type := 3, pos := "outright.go:168", after := #[{ on := 22, ground := Ground.guard }], guard := some (22, true) }) (v := undef) rfl (by kernel_rfl) (by kernel_rfl) (by kernel_rfl) (fun _ _ _ h => h) (Or.inr ⟨by rfl, rfl⟩) (by assumption) ?_
          try simp only [Act.put, List.setIfInBounds_toArray, List.set_cons_zero, List.set_cons_succ]
          refine wpAnyH_take (i := 25) (oi := { dst := some 162, op := Op.binOp BinOp.sub 3 (Operand.tmp 161) (Operand.const (Value.int IntKind.i64 1)) 3, type := 3, pos := "outright.go:168", after := #[{ on := 24, ground := Ground.data }, { on := 22, ground := Ground.guard }], guard := some (22, true) }) (v := undef) rfl (by kernel_rfl) (by kernel_rfl) (by kernel_rfl) (fun _ _ _ h => h) (Or.inr ⟨by rfl, rfl⟩) (by assumption) ?_
          try simp only [Act.put, List.setIfInBounds_toArray, List.set_cons_zero, List.set_cons_succ]
          refine wpAnyH_take (i := 26) (oi := { dst := some 163, op := Op.indexAddr 45 (Operand.tmp 160) (Operand.tmp 162), type := 0, pos := "outright.go:168", after := #[{ on := 23, ground := Ground.data }, { on := 25, ground := Ground.data }, { on := 22, ground := Ground.guard }], guard := some (22, true) }) (v := undef) rfl (by kernel_rfl) (by kernel_rfl) (by kernel_rfl) (fun _ _ _ h => h) (Or.inr ⟨by rfl, rfl⟩) (by assumption) ?_
          try simp only [Act.put, List.setIfInBounds_toArray, List.set_cons_zero, List.set_cons_succ]
          refine wpAnyH_take (i := 27) (oi := { dst := some 164, op := Op.fieldAddr 50 (Operand.tmp 163) 1, type := 0, pos := "outright.go:168", after := #[{ on := 26, ground := Ground.data }, { on := 22, ground := Ground.guard }], guard := some (22, true) }) (v := undef) rfl (by kernel_rfl) (by kernel_rfl) (by kernel_rfl) (fun _ _ _ h => h) (Or.inr ⟨by rfl, rfl⟩) (by assumption) ?_
          try simp only [Act.put, List.setIfInBounds_toArray, List.set_cons_zero, List.set_cons_succ]
          refine wpAnyH_take (i := 28) (oi := { dst := some 165, op := Op.load 3 (Operand.tmp 164), type := 3, pos := "outright.go:168", after := #[{ on := 27, ground := Ground.data }, { on := 22, ground := Ground.guard }], guard := some (22, true) }) (v := undef) rfl (by kernel_rfl) (by kernel_rfl) (by kernel_rfl) (fun _ _ _ h => h) (Or.inr ⟨by rfl, rfl⟩) (by assumption) ?_
          try simp only [Act.put, List.setIfInBounds_toArray, List.set_cons_zero, List.set_cons_succ]
          refine wpAnyH_take (i := 29) (oi := { dst := some 166, op := Op.fieldAddr 50 (Operand.tmp 15) 1, type := 0, pos := "outright.go:168", after := #[{ on := 22, ground := Ground.guard }], guard := some (22, true) }) (v := undef) rfl (by kernel_rfl) (by kernel_rfl) (by kernel_rfl) (fun _ _ _ h => h) (Or.inr ⟨by rfl, rfl⟩) (by assumption) ?_
          try simp only [Act.put, List.setIfInBounds_toArray, List.set_cons_zero, List.set_cons_succ]
          refine wpAnyH_take (i := 30) (oi := { dst := some 167, op := Op.load 3 (Operand.tmp 166), type := 3, pos := "outright.go:168", after := #[{ on := 29, ground := Ground.data }, { on := 22, ground := Ground.guard }], guard := some (22, true) }) (v := undef) rfl (by kernel_rfl) (by kernel_rfl) (by kernel_rfl) (fun _ _ _ h => h) (Or.inr ⟨by rfl, rfl⟩) (by assumption) ?_
          try simp only [Act.put, List.setIfInBounds_toArray, List.set_cons_zero, List.set_cons_succ]
          refine wpAnyH_take (i := 31) (oi := { dst := some 168, op := Op.binOp BinOp.geq 3 (Operand.tmp 165) (Operand.tmp 167) 3, type := 4, pos := "outright.go:168", after := #[{ on := 28, ground := Ground.data }, { on := 30, ground := Ground.data }, { on := 22, ground := Ground.guard }], guard := some (22, true) }) (v := undef) rfl (by kernel_rfl) (by kernel_rfl) (by kernel_rfl) (fun _ _ _ h => h) (Or.inr ⟨by rfl, rfl⟩) (by assumption) ?_
          try simp only [Act.put, List.setIfInBounds_toArray, List.set_cons_zero, List.set_cons_succ]
          refine wpAnyH_take (i := 32) (oi := { dst := some 169, op := Op.pick (Operand.tmp 159) (Operand.tmp 168) (Operand.const (Value.bool false)), type := 4, pos := "outright.go:168", after := #[{ on := 22, ground := Ground.data }, { on := 31, ground := Ground.data }, { on := 12, ground := Ground.guard }], guard := some (12, false) }) (v := ?v32sb) rfl (by kernel_rfl) (by kernel_rfl) (by kernel_rfl) (fun _ _ _ h => h) (Or.inl ⟨by rfl, ?y32sb⟩) (by assumption) ?r32sb
          case y32sb => (intro x hx; (try dsimp only at hx); go_simp; try with_reducible rfl)
          try simp only [Act.put, List.setIfInBounds_toArray, List.set_cons_zero, List.set_cons_succ]
          refine wpAnyH_take (i := 33) (oi := { dst := some 170, op := Op.pick (Operand.tmp 149) (Operand.const (Value.bool true)) (Operand.tmp 169), type := 4, pos := "outright.go:168", after := #[{ on := 12, ground := Ground.data }, { on := 32, ground := Ground.data }, { on := 2, ground := Ground.guard }], guard := some (2, true) }) (v := ?v33sb) rfl (by kernel_rfl) (by kernel_rfl) (by kernel_rfl) (fun _ _ _ h => h) (Or.inl ⟨by rfl, ?y33sb⟩) (by assumption) ?r33sb
          case y33sb => (intro x hx; (try dsimp only at hx); go_simp; try with_reducible rfl)
          try simp only [Act.put, List.setIfInBounds_toArray, List.set_cons_zero, List.set_cons_succ]
          refine wpAnyH_take (i := 34) (oi := { dst := some 171, op := Op.pick (Operand.tmp 139) (Operand.tmp 170) (Operand.const (Value.bool false)), type := 4, pos := "outright.go:168", after := #[{ on := 2, ground := Ground.data }, { on := 33, ground := Ground.data }], guard := none }) (v := ?v34sb) rfl (by kernel_rfl) (by kernel_rfl) (by kernel_rfl) (fun _ _ _ h => h) (Or.inl ⟨by rfl, ?y34sb⟩) (by assumption) ?r34sb
          case y34sb => (intro x hx; (try dsimp only at hx); go_simp; try with_reducible rfl)
          try simp only [Act.put, List.setIfInBounds_toArray, List.set_cons_zero, List.set_cons_succ]
          refine wpAnyH_done (by kernel_rfl) ?_ _
          go_wp2_with  fail
          go_roundw
          case rel => exact ⟨j + 1 + 1, by omega, by go_num, HZV.out.below (below_dr _), HPV.out.below (below_dr _)⟩
          case measure => simp [intOf]; omega
        · rw [hah] at e1
          clear hah
          have u1 : ¬ X < X := by omega
          have u2 : ¬ Y ≤ Y' := by omega
          go_upto_region 18 with fail
          refine wp_region_held_drew (S := (fun y : World => (y.cell? ⟨wr.heap.size, 0, none⟩ = some (.int .i64 X) ∧ y.cell? ⟨wr.heap.size, 1, none⟩ = some (.int .i64 Y)) ∧ y.cell? ⟨g1, o1 + j * 2, none⟩ = some (.int .i64 X) ∧ y.cell? ⟨g1, o1 + j * 2 + 1, none⟩ = some (.int .i64 Y'))) (by kernel_rfl) (⟨⟨v0, v1⟩, e1, e2⟩) (fun hHeld => ?_)
          refine wpAnyH_take (i := 0) (oi := { dst := some 137, op := Op.move (Operand.tmp 14), type := 3, pos := "outright.go:168", after := #[], guard := none }) (v := ?v0sc) rfl (by kernel_rfl) (by kernel_rfl) (by kernel_rfl) (fun _ _ _ h => h) (Or.inl ⟨by rfl, ?y0sc⟩) (by assumption) ?r0sc
          case y0sc => (intro x hx; (try dsimp only at hx); go_simp; try with_reducible rfl)
          try simp only [Act.put, List.setIfInBounds_toArray, List.set_cons_zero, List.set_cons_succ]
          refine wpAnyH_take (i := 1) (oi := { dst := some 138, op := Op.binOp BinOp.gtr 3 (Operand.tmp 137) (Operand.const (Value.int IntKind.i64 0)) 3, type := 4, pos := "outright.go:168", after := #[{ on := 0, ground := Ground.data }], guard := none }) (v := ?v1sc) rfl (by kernel_rfl) (by kernel_rfl) (by kernel_rfl) (fun _ _ _ h => h) (Or.inl ⟨by rfl, ?y1sc⟩) (by assumption) ?r1sc
          case y1sc => (intro x hx; (try dsimp only at hx); go_simp; try with_reducible rfl)
          try simp only [Act.put, List.setIfInBounds_toArray, List.set_cons_zero, List.set_cons_succ]
          refine wpAnyH_take (i := 2) (oi := { dst := some 139, op := Op.move (Operand.tmp 138), type := 4, pos := "outright.go:168", after := #[{ on := 1, ground := Ground.data }], guard := none }) (v := ?v2sc) rfl (by kernel_rfl) (by kernel_rfl) (by kernel_rfl) (fun _ _ _ h => h) (Or.inl ⟨by rfl, ?y2sc⟩) (by assumption) ?r2sc
          case y2sc => (intro x hx; (try dsimp only at hx); go_simp; try with_reducible rfl)
          try simp only [Act.put, List.setIfInBounds_toArray, List.set_cons_zero, List.set_cons_succ]
          refine wpAnyH_take (i := 3) (oi := { dst := some 140, op := Op.move (Operand.tmp 10), type := 45, pos := "outright.go:168", after := #[{ on := 2, ground := Ground.guard }], guard := some (2, true) }) (v := ?v3sc) rfl (by kernel_rfl) (by kernel_rfl) (by kernel_rfl) (fun _ _ _ h => h) (Or.inl ⟨by rfl, ?y3sc⟩) (by assumption) ?r3sc
          case y3sc => (intro x hx; (try dsimp only at hx); go_simp; try with_reducible rfl)
          try simp only [Act.put, List.setIfInBounds_toArray, List.set_cons_zero, List.set_cons_succ]
          refine wpAnyH_take (i := 4) (oi := { dst := some 141, op := Op.move (Operand.tmp 14), type := 3, pos := "outright.go:168", after := #[{ on := 2, ground := Ground.guard }], guard := some (2, true) }) (v := ?v4sc) rfl (by kernel_rfl) (by kernel_rfl) (by kernel_rfl) (fun _ _ _ h => h) (Or.inl ⟨by rfl, ?y4sc⟩) (by assumption) ?r4sc
          case y4sc => (intro x hx; (try dsimp only at hx); go_simp; try with_reducible rfl)
          try simp only [Act.put, List.setIfInBounds_toArray, List.set_cons_zero, List.set_cons_succ]
          refine wpAnyH_take (i := 5) (oi := { dst := some 142, op := Op.binOp BinOp.sub 3 (Operand.tmp 141) (Operand.const (Value.int IntKind.i64 1)) 3, type := 3, pos := "outright.go:168", after := #[{ on := 4, ground := Ground.data }, { on := 2, ground := Ground.guard }], guard := some (2, true) }) (v := ?v5sc) rfl (by kernel_rfl) (by kernel_rfl) (by kernel_rfl) (fun _ _ _ h => h) (Or.inl ⟨by rfl, ?y5sc⟩) (by assumption) ?r5sc
          case y5sc => (intro x hx; (try dsimp only at hx); go_simp; try with_reducible rfl)
          try simp only [Act.put, List.setIfInBounds_toArray, List.set_cons_zero, List.set_cons_succ]
          refine wpAnyH_take (i := 6) (oi := { dst := some 143, op := Op.indexAddr 45 (Operand.tmp 140) (Operand.tmp 142), type := 0, pos := "outright.go:168", after := #[{ on := 3, ground := Ground.data }, { on := 5, ground := Ground.data }, { on := 2, ground := Ground.guard }], guard := some (2, true) }) (v := ?v6sc) rfl (by kernel_rfl) (by kernel_rfl) (by kernel_rfl) (fun _ _ _ h => h) (Or.inl ⟨by rfl, ?y6sc⟩) (by assumption) ?r6sc
          case y6sc => (intro x hx; (try dsimp only at hx); go_simp; try with_reducible rfl)
          try simp only [Act.put, List.setIfInBounds_toArray, List.set_cons_zero, List.set_cons_succ]
          refine wpAnyH_take (i := 7) (oi := { dst := some 144, op := Op.fieldAddr 50 (Operand.tmp 143) 0, type := 0, pos := "outright.go:168", after := #[{ on := 6, ground := Ground.data }, { on := 2, ground := Ground.guard }], guard := some (2, true) }) (v := ?v7sc) rfl (by kernel_rfl) (by kernel_rfl) (by kernel_rfl) (fun _ _ _ h => h) (Or.inl ⟨by rfl, ?y7sc⟩) (by assumption) ?r7sc
          case y7sc => (intro x hx; (try dsimp only at hx); go_simp; try with_reducible rfl)
          try simp only [Act.put, List.setIfInBounds_toArray, List.set_cons_zero, List.set_cons_succ]
          refine wpAnyH_take (i := 8) (oi := { dst := some 145, op := Op.load 3 (Operand.tmp 144), type := 3, pos := "outright.go:168", after := #[{ on := 7, ground := Ground.data }, { on := 2, ground := Ground.guard }], guard := some (2, true) }) (v := ?v8sc) rfl (by kernel_rfl) (by kernel_rfl) (by kernel_rfl) (fun _ _ _ h => h) (Or.inl ⟨by rfl, ?y8sc⟩) (by assumption) ?r8sc
          case y8sc => (intro x hx; (try dsimp only at hx); go_simp; try with_reducible rfl)
          try simp only [Act.put, List.setIfInBounds_toArray, List.set_cons_zero, List.set_cons_succ]
          refine wpAnyH_take (i := 9) (oi := { dst := some 146, op := Op.fieldAddr 50 (Operand.tmp 15) 0, type := 0, pos := "outright.go:168", after := #[{ on := 2, ground := Ground.guard }], guard := some (2, true) }) (v := ?v9sc) rfl (by kernel_rfl) (by kernel_rfl) (by kernel_rfl) (fun _ _ _ h => h) (Or.inl ⟨by rfl, ?y9sc⟩) (by assumption) ?r9sc
          case y9sc => (intro x hx; (try dsimp only at hx); go_simp; try with_reducible rfl)
          try simp only [Act.put, List.setIfInBounds_toArray, List.set_cons_zero, List.set_cons_succ]
          refine wpAnyH_take (i := 10) (oi := { dst := some 147, op := Op.load 3 (Operand.tmp 146), type := 3, pos := "outright.go:168", after := #[{ on := 9, ground := Ground.data }, { on := 2, ground := Ground.guard }], guard := some (2, true) }) (v := ?v10sc) rfl (by kernel_rfl) (by kernel_rfl) (by kernel_rfl) (fun _ _ _ h => h) (Or.inl ⟨by rfl, ?y10sc⟩) (by assumption) ?r10sc
          case y10sc => (intro x hx; (try dsimp only at hx); go_simp; try with_reducible rfl)
          try simp only [Act.put, List.setIfInBounds_toArray, List.set_cons_zero, List.set_cons_succ]
          refine wpAnyH_take (i := 11) (oi := { dst := some 148, op := Op.binOp BinOp.gtr 3 (Operand.tmp 145) (Operand.tmp 147) 3, type := 4, pos := "outright.go:168", after := #[{ on := 8, ground := Ground.data }, { on := 10, ground := Ground.data }, { on := 2, ground := Ground.guard }], guard := some (2, true) }) (v := ?v11sc) rfl (by kernel_rfl) (by kernel_rfl) (by kernel_rfl) (fun _ _ _ h => h) (Or.inl ⟨by rfl, ?y11sc⟩) (by assumption) ?r11sc
          case y11sc => (intro x hx; (try dsimp only at hx); go_simp; try with_reducible rfl)
          try simp only [Act.put, List.setIfInBounds_toArray, List.set_cons_zero, List.set_cons_succ]
          refine wpAnyH_take (i := 12) (oi := { dst := some 149, op := Op.move (Operand.tmp 148), type := 4, pos := "outright.go:168", after := #[{ on := 11, ground := Ground.data }, { on := 2, ground := Ground.chain }, { on := 2, ground := Ground.guard }], guard := some (2, true) }) (v := ?v12sc) rfl (by kernel_rfl) (by kernel_rfl) (by kernel_rfl) (fun _ _ _ h => h) (Or.inl ⟨by rfl, ?y12sc⟩) (by assumption) ?r12sc
          case y12sc => (intro x hx; (try dsimp only at hx); go_simp; try with_reducible rfl)
          try simp only [Act.put, List.setIfInBounds_toArray, List.set_cons_zero, List.set_cons_succ]
          refine wpAnyH_take (i := 13) (oi := { dst := some 150, op := Op.move (Operand.tmp 10), type := 45, pos := "outright.go:168", after := #[{ on := 12, ground := Ground.guard }], guard := some (12, false) }) (v := ?v13sc) rfl (by kernel_rfl) (by kernel_rfl) (by kernel_rfl) (fun _ _ _ h => h) (Or.inl ⟨by rfl, ?y13sc⟩) (by assumption) ?r13sc
          case y13sc => (intro x hx; (try dsimp only at hx); go_simp; try with_reducible rfl)
          try simp only [Act.put, List.setIfInBounds_toArray, List.set_cons_zero, List.set_cons_succ]
          refine wpAnyH_take (i := 14) (oi := { dst := some 151, op := Op.move (Operand.tmp 14), type := 3, pos := "outright.go:168", after := #[{ on := 12, ground := Ground.guard }], guard := some (12, false) }) (v := ?v14sc) rfl (by kernel_rfl) (by kernel_rfl) (by kernel_rfl) (fun _ _ _ h => h) (Or.inl ⟨by rfl, ?y14sc⟩) (by assumption) ?r14sc
          case y14sc => (intro x hx; (try dsimp only at hx); go_simp; try with_reducible rfl)
          try simp only [Act.put, List.setIfInBounds_toArray, List.set_cons_zero, List.set_cons_succ]
          refine wpAnyH_take (i := 15) (oi := { dst := some 152, op := Op.binOp BinOp.sub 3 (Operand.tmp 151) (Operand.const (Value.int IntKind.i64 1)) 3, type := 3, pos := "outright.go:168", after := #[{ on := 14, ground := Ground.data }, { on := 12, ground := Ground.guard }], guard := some (12, false) }) (v := ?v15sc) rfl (by kernel_rfl) (by kernel_rfl) (by kernel_rfl) (fun _ _ _ h => h) (Or.inl ⟨by rfl, ?y15sc⟩) (by assumption) ?r15sc
          case y15sc => (intro x hx; (try dsimp only at hx); go_simp; try with_reducible rfl)
          try simp only [Act.put, List.setIfInBounds_toArray, List.set_cons_zero, List.set_cons_succ]
          refine wpAnyH_take (i := 16) (oi := { dst := some 153, op := Op.indexAddr 45 (Operand.tmp 150) (Operand.tmp 152), type := 0, pos := "outright.go:168", after := #[{ on := 13, ground := Ground.data }, { on := 15, ground := Ground.data }, { on := 12, ground := Ground.guard }], guard := some (12, false) }) (v := ?v16sc) rfl (by kernel_rfl) (by kernel_rfl) (by kernel_rfl) (fun _ _ _ h => h) (Or.inl ⟨by rfl, ?y16sc⟩) (by assumption) ?r16sc
          case y16sc => (intro x hx; (try dsimp only at hx); go_simp; try with_reducible rfl)
          try simp only [Act.put, List.setIfInBounds_toArray, List.set_cons_zero, List.set_cons_succ]
          refine wpAnyH_take (i := 17) (oi := { dst := some 154, op := Op.fieldAddr 50 (Operand.tmp 153) 0, type := 0, pos := "outright.go:168", after := #[{ on := 16, ground := Ground.data }, { on := 12, ground := Ground.guard }], guard := some (12, false) }) (v := ?v17sc) rfl (by kernel_rfl) (by kernel_rfl) (by kernel_rfl) (fun _ _ _ h => h) (Or.inl ⟨by rfl, ?y17sc⟩) (by assumption) ?r17sc
          case y17sc => (intro x hx; (try dsimp only at hx); go_simp; try with_reducible rfl)
          try simp only [Act.put, List.setIfInBounds_toArray, List.set_cons_zero, List.set_cons_succ]
          refine wpAnyH_take (i := 18) (oi := { dst := some 155, op := Op.load 3 (Operand.tmp 154), type := 3, pos := "outright.go:168", after := #[{ on := 17, ground := Ground.data }, { on := 12, ground := Ground.guard }], guard := some (12, false) }) (v := ?v18sc) rfl (by kernel_rfl) (by kernel_rfl) (by kernel_rfl) (fun _ _ _ h => h) (Or.inl ⟨by rfl, ?y18sc⟩) (by assumption) ?r18sc
          case y18sc => (intro x hx; (try dsimp only at hx); go_simp; try with_reducible rfl)
          try simp only [Act.put, List.setIfInBounds_toArray, List.set_cons_zero, List.set_cons_succ]
          refine wpAnyH_take (i := 19) (oi := { dst := some 156, op := Op.fieldAddr 50 (Operand.tmp 15) 0, type := 0, pos := "outright.go:168", after := #[{ on := 12, ground := Ground.guard }], guard := some (12, false) }) (v := ?v19sc) rfl (by kernel_rfl) (by kernel_rfl) (by kernel_rfl) (fun _ _ _ h => h) (Or.inl ⟨by rfl, ?y19sc⟩) (by assumption) ?r19sc
          case y19sc => (intro x hx; (try dsimp only at hx); go_simp; try with_reducible rfl)
          try simp only [Act.put, List.setIfInBounds_toArray, List.set_cons_zero, List.set_cons_succ]
          refine wpAnyH_take (i := 20) (oi := { dst := some 157, op := Op.load 3 (Operand.tmp 156), type := 3, pos := "outright.go:168", after := #[{ on := 19, ground := Ground.data }, { on := 12, ground := Ground.guard }], guard := some (12, false) }) (v := ?v20sc) rfl (by kernel_rfl) (by kernel_rfl) (by kernel_rfl) (fun _ _ _ h => h) (Or.inl ⟨by rfl, ?y20sc⟩) (by assumption) ?r20sc
          case y20sc => (intro x hx; (try dsimp only at hx); go_simp; try with_reducible rfl)
          try simp only [Act.put, List.setIfInBounds_toArray, List.set_cons_zero, List.set_cons_succ]
          refine wpAnyH_take (i := 21) (oi := { dst := some 158, op := Op.binOp BinOp.eql 3 (Operand.tmp 155) (Operand.tmp 157) 3, type := 4, pos := "outright.go:168", after := #[{ on := 18, ground := Ground.data }, { on := 20, ground := Ground.data }, { on := 12, ground := Ground.guard }], guard := some (12, false) }) (v := ?v21sc) rfl (by kernel_rfl) (by kernel_rfl) (by kernel_rfl) (fun _ _ _ h => h) (Or.inl ⟨by rfl, ?y21sc⟩) (by assumption) ?r21sc
          case y21sc => (intro x hx; (try dsimp only at hx); go_simp; try with_reducible rfl)
          try simp only [Act.put, List.setIfInBounds_toArray, List.set_cons_zero, List.set_cons_succ]
          refine wpAnyH_take (i := 22) (oi := { dst := some 159, op := Op.move (Operand.tmp 158), type := 4, pos := "outright.go:168", after := #[{ on := 21, ground := Ground.data }, { on := 12, ground := Ground.chain }, { on := 12, ground := Ground.guard }], guard := some (12, false) }) (v := ?v22sc) rfl (by kernel_rfl) (by kernel_rfl) (by kernel_rfl) (fun _ _ _ h => h) (Or.inl ⟨by rfl, ?y22sc⟩) (by assumption) ?r22sc
          case y22sc => (intro x hx; (try dsimp only at hx); go_simp; try with_reducible rfl)
          try simp only [Act.put, List.setIfInBounds_toArray, List.set_cons_zero, List.set_cons_succ]
          refine wpAnyH_take (i := 23) (oi := { dst := some 160, op := Op.move (Operand.tmp 10), type := 45, pos := "outright.go:168", after := #[{ on := 22, ground := Ground.guard }], guard := some (22, true) }) (v := ?v23sc) rfl (by kernel_rfl) (by kernel_rfl) (by kernel_rfl) (fun _ _ _ h => h) (Or.inl ⟨by rfl, ?y23sc⟩) (by assumption) ?r23sc
          case y23sc => (intro x hx; (try dsimp only at hx); go_simp; try with_reducible rfl)
          try simp only [Act.put, List.setIfInBounds_toArray, List.set_cons_zero, List.set_cons_succ]
          refine wpAnyH_take (i := 24) (oi := { dst := some 161, op := Op.move (Operand.tmp 14), type := 3, pos := "outright.go:168", after := #[{ on := 22, ground := Ground.guard }], guard := some (22, true) }) (v := ?v24sc) rfl (by kernel_rfl) (by kernel_rfl) (by kernel_rfl) (fun _ _ _ h => h) (Or.inl ⟨by rfl, ?y24sc⟩) (by assumption) ?r24sc
          case y24sc => (intro x hx; (try dsimp only at hx); go_simp; try with_reducible rfl)
          try simp only [Act.put, List.setIfInBounds_toArray, List.set_cons_zero, List.set_cons_succ]
          refine wpAnyH_take (i := 25) (oi := { dst := some 162, op := Op.binOp BinOp.sub 3 (Operand.tmp 161) (Operand.const (Value.int IntKind.i64 1)) 3, type := 3, pos := "outright.go:168", after := #[{ on := 24, ground := Ground.data }, { on := 22, ground := Ground.guard }], guard := some (22, true) }) (v := ?v25sc) rfl (by kernel_rfl) (by kernel_rfl) (by kernel_rfl) (fun _ _ _ h => h) (Or.inl ⟨by rfl, ?y25sc⟩) (by assumption) ?r25sc
          case y25sc => (intro x hx; (try dsimp only at hx); go_simp; try with_reducible rfl)
          try simp only [Act.put, List.setIfInBounds_toArray, List.set_cons_zero, List.set_cons_succ]
          refine wpAnyH_take (i := 26) (oi := { dst := some 163, op := Op.indexAddr 45 (Operand.tmp 160) (Operand.tmp 162), type := 0, pos := "outright.go:168", after := #[{ on := 23, ground := Ground.data }, { on := 25, ground := Ground.data }, { on := 22, ground := Ground.guard }], guard := some (22, true) }) (v := ?v26sc) rfl (by kernel_rfl) (by kernel_rfl) (by kernel_rfl) (fun _ _ _ h => h) (Or.inl ⟨by rfl, ?y26sc⟩) (by assumption) ?r26sc
          case y26sc => (intro x hx; (try dsimp only at hx); go_simp; try with_reducible rfl)
          try simp only [Act.put, List.setIfInBounds_toArray, List.set_cons_zero, List.set_cons_succ]
          refine wpAnyH_take (i := 27) (oi := { dst := some 164, op := Op.fieldAddr 50 (Operand.tmp 163) 1, type := 0, pos := "outright.go:168", after := #[{ on := 26, ground := Ground.data }, { on := 22, ground := Ground.guard }], guard := some (22, true) }) (v := ?v27sc) rfl (by kernel_rfl) (by kernel_rfl) (by kernel_rfl) (fun _ _ _ h => h) (Or.inl ⟨by rfl, ?y27sc⟩) (by assumption) ?r27sc
          case y27sc => (intro x hx; (try dsimp only at hx); go_simp; try with_reducible rfl)
          try simp only [Act.put, List.setIfInBounds_toArray, List.set_cons_zero, List.set_cons_succ]
          refine wpAnyH_take (i := 28) (oi := { dst := some 165, op := Op.load 3 (Operand.tmp 164), type := 3, pos := "outright.go:168", after := #[{ on := 27, ground := Ground.data }, { on := 22, ground := Ground.guard }], guard := some (22, true) }) (v := ?v28sc) rfl (by kernel_rfl) (by kernel_rfl) (by kernel_rfl) (fun _ _ _ h => h) (Or.inl ⟨by rfl, ?y28sc⟩) (by assumption) ?r28sc
          case y28sc => (intro x hx; (try dsimp only at hx); go_simp; try with_reducible rfl)
          try simp only [Act.put, List.setIfInBounds_toArray, List.set_cons_zero, List.set_cons_succ]
          refine wpAnyH_take (i := 29) (oi := { dst := some 166, op := Op.fieldAddr 50 (Operand.tmp 15) 1, type := 0, pos := "outright.go:168", after := #[{ on := 22, ground := Ground.guard }], guard := some (22, true) }) (v := ?v29sc) rfl (by kernel_rfl) (by kernel_rfl) (by kernel_rfl) (fun _ _ _ h => h) (Or.inl ⟨by rfl, ?y29sc⟩) (by assumption) ?r29sc
          case y29sc => (intro x hx; (try dsimp only at hx); go_simp; try with_reducible rfl)
          try simp only [Act.put, List.setIfInBounds_toArray, List.set_cons_zero, List.set_cons_succ]
          refine wpAnyH_take (i := 30) (oi := { dst := some 167, op := Op.load 3 (Operand.tmp 166), type := 3, pos := "outright.go:168", after := #[{ on := 29, ground := Ground.data }, { on := 22, ground := Ground.guard }], guard := some (22, true) }) (v := ?v30sc) rfl (by kernel_rfl) (by kernel_rfl) (by kernel_rfl) (fun _ _ _ h => h) (Or.inl ⟨by rfl, ?y30sc⟩) (by assumption) ?r30sc
          case y30sc => (intro x hx; (try dsimp only at hx); go_simp; try with_reducible rfl)
          try simp only [Act.put, List.setIfInBounds_toArray, List.set_cons_zero, List.set_cons_succ]
          refine wpAnyH_take (i := 31) (oi := { dst := some 168, op := Op.binOp BinOp.geq 3 (Operand.tmp 165) (Operand.tmp 167) 3, type := 4, pos := "outright.go:168", after := #[{ on := 28, ground := Ground.data }, { on := 30, ground := Ground.data }, { on := 22, ground := Ground.guard }], guard := some (22, true) }) (v := ?v31sc) rfl (by kernel_rfl) (by kernel_rfl) (by kernel_rfl) (fun _ _ _ h => h) (Or.inl ⟨by rfl, ?y31sc⟩) (by assumption) ?r31sc
          case y31sc => (intro x hx; (try dsimp only at hx); go_simp; try with_reducible rfl)
          try simp only [Act.put, List.setIfInBounds_toArray, List.set_cons_zero, List.set_cons_succ]
          refine wpAnyH_take (i := 32) (oi := { dst := some 169, op := Op.pick (Operand.tmp 159) (Operand.tmp 168) (Operand.const (Value.bool false)), type := 4, pos := "outright.go:168", after := #[{ on := 22, ground := Ground.data }, { on := 31, ground := Ground.data }, { on := 12, ground := Ground.guard }], guard := some (12, false) }) (v := ?v32sc) rfl (by kernel_rfl) (by kernel_rfl) (by kernel_rfl) (fun _ _ _ h => h) (Or.inl ⟨by rfl, ?y32sc⟩) (by assumption) ?r32sc
          case y32sc => (intro x hx; (try dsimp only at hx); go_simp; try with_reducible rfl)
          try simp only [Act.put, List.setIfInBounds_toArray, List.set_cons_zero, List.set_cons_succ]
          refine wpAnyH_take (i := 33) (oi := { dst := some 170, op := Op.pick (Operand.tmp 149) (Operand.const (Value.bool true)) (Operand.tmp 169), type := 4, pos := "outright.go:168", after := #[{ on := 12, ground := Ground.data }, { on := 32, ground := Ground.data }, { on := 2, ground := Ground.guard }], guard := some (2, true) }) (v := ?v33sc) rfl (by kernel_rfl) (by kernel_rfl) (by kernel_rfl) (fun _ _ _ h => h) (Or.inl ⟨by rfl, ?y33sc⟩) (by assumption) ?r33sc
          case y33sc => (intro x hx; (try dsimp only at hx); go_simp; try with_reducible rfl)
          try simp only [Act.put, List.setIfInBounds_toArray, List.set_cons_zero, List.set_cons_succ]
          refine wpAnyH_take (i := 34) (oi := { dst := some 171, op := Op.pick (Operand.tmp 139) (Operand.tmp 170) (Operand.const (Value.bool false)), type := 4, pos := "outright.go:168", after := #[{ on := 2, ground := Ground.data }, { on := 33, ground := Ground.data }], guard := none }) (v := ?v34sc) rfl (by kernel_rfl) (by kernel_rfl) (by kernel_rfl) (fun _ _ _ h => h) (Or.inl ⟨by rfl, ?y34sc⟩) (by assumption) ?r34sc
          case y34sc => (intro x hx; (try dsimp only at hx); go_simp; try with_reducible rfl)
          try simp only [Act.put, List.setIfInBounds_toArray, List.set_cons_zero, List.set_cons_succ]
          refine wpAnyH_done (by kernel_rfl) ?_ _
          go_wp2_with  fail
          go_roundw
          case rel => exact ⟨j + 1 + 1, by omega, by go_num, HZV.out.below (below_dr _), HPV.out.below (below_dr _)⟩
          case measure => simp [intOf]; omega
    · have dk : ¬ (k : Int) < (ND : Int) := by omega
      obtain ⟨x10, x11, x12, x13, x14⟩ := cells5 HZ.out.b1
      obtain ⟨x20, x21, x22, x23, x24⟩ := cells5 HZ.out.b2
      obtain ⟨x30, x31, x32, x33, x34⟩ := cells5 HZ.out.b3
      by_cases hc0 : EC = 0
      · subst hc0
        by_cases hgc : b = bc ∧ q = qc ∧ s = sc
        · obtain ⟨hg1, hg2, hg3⟩ := hgc
          subst hg1 hg2 hg3
          obtain ⟨hn1, hn2⟩ : n1 = n5 ∧ n2 = n6 := chk_same HEA.out HEC.out
          subst hn1 hn2
          obtain ⟨UL, hU⟩ : ∃ UL, difD b q s 0 xs zs ms ts = UL := ⟨_, rfl⟩
          obtain ⟨VL, hV⟩ : ∃ VL, difD b q s 0 ys zs ns ts = VL := ⟨_, rfl⟩
          have hul := difD_len (b := b) (q := q) (s := s) (b' := b) (q' := q) (s' := s) (n1 := n1) (n2 := n2) (n3 := n1) (n4 := n2) xs zs ms ts
          have hvl := difD_len (b := b) (q := q) (s := s) (b' := b) (q' := q) (s' := s) (n1 := n1) (n2 := n2) (n3 := n1) (n4 := n2) ys zs ns ts
          rw [HD1.out, hU] at hul
          rw [HD1.out, hV] at hvl
          have HUL : Hid (difD b q s 0 xs zs ms ts = UL) := hU
          have HVL : Hid (difD b q s 0 ys zs ns ts = VL) := hV
          have H4 : Hid (∀ p ∈ UL, p ∈ DL ∨ p ∈ VL) := by
            have h9 := H3.out
            rw [hU, hV, HDL1.out] at h9
            exact h9
          obtain ⟨NU, hNU⟩ : ∃ NU, UL.length = NU := ⟨_, rfl⟩
          obtain ⟨NV, hNV⟩ : ∃ NV, VL.length = NV := ⟨_, rfl⟩
          have HNU : Hid (UL.length = NU) := hNU
          have HNV : Hid (VL.length = NV) := hNV
          rw [hNU] at hul
          rw [hNV] at hvl
          have T3 : Hid True := trivial
          have T4 : Hid True := trivial
          clear hU hV hNU hNV
          go_upto_region 24 with (first
            | (go_at_call 12; refine (no_any _ _).mono ?_; rintro e u9 ⟨rfl, h9⟩; rw [h9]; clear h9)
            | (go_at_call 18; have zz := T3; clear T3 zz; refine (diff_any b q s b q s a1 a2 a5 a6 n1 c1 n2 c2 n1 c5 n2 c6 xs zs ms ts _ (by omega) (by omega) (by omega) (by omega) (HR1.out.below HZ.out.bel) (HR2.out.below HZ.out.bel) (HR5.out.below HZ.out.bel) (HR6.out.below HZ.out.bel) HKC.out.1 HKC.out.2.2).mono ?_; rintro e t7 ⟨vt7, rfl, ot7, bl⟩
               rw [HD1.out] at ot7 ⊢; rw [HUL.out, HNU.out] at ot7; obtain ⟨ru, ku, rfl, rp7⟩ := ownP_reads ot7; clear ot7
               have HP1 : Hid (ReadsP t7 ra ND DL) := HP.out.below bl
               have HU1 : Hid (ReadsP t7 ru NU UL) := rp7
               clear rp7
               have HZ1 : Hid (Bx3 w t7 #[.int .i64 b, .int .i64 q, .int .i64 s, .slice a1 n1 c1, .slice a2 n2 c2] #[.int .i64 b, .int .i64 q, .int .i64 s, .slice a3 n1 c3, .slice a4 n2 c4] #[.int .i64 b, .int .i64 q, .int .i64 s, .slice a5 n1 c5, .slice a6 n2 c6]) := HZ.out.below bl
               clear bl x10 x11 x12 x13 x14 x20 x21 x22 x23 x24 x30 x31 x32 x33 x34
               obtain ⟨x10, x11, x12, x13, x14⟩ := cells5 HZ1.out.b1
               obtain ⟨x20, x21, x22, x23, x24⟩ := cells5 HZ1.out.b2
               obtain ⟨x30, x31, x32, x33, x34⟩ := cells5 HZ1.out.b3)
            | (go_at_call 18; have zz := T4; clear T4 zz; refine (diff_any b q s b q s a3 a4 a5 a6 n1 c3 n2 c4 n1 c5 n2 c6 ys zs ns ts _ (by omega) (by omega) (by omega) (by omega) (HR3.out.below HZ1.out.bel) (HR4.out.below HZ1.out.bel) (HR5.out.below HZ1.out.bel) (HR6.out.below HZ1.out.bel) HKC.out.2.1 HKC.out.2.2).mono ?_; rintro e t8 ⟨vt8, rfl, ot8, bl⟩
               rw [HD1.out] at ot8 ⊢; rw [HVL.out, HNV.out] at ot8; obtain ⟨rv, kv, rfl, rp8⟩ := ownP_reads ot8; clear ot8
               have HP2 : Hid (ReadsP t8 ra ND DL) := HP1.out.below bl
               have HU2 : Hid (ReadsP t8 ru NU UL) := HU1.out.below bl
               have HV2 : Hid (ReadsP t8 rv NV VL) := rp8
               clear rp8
               have HZ2 : Hid (Bx3 w t8 #[.int .i64 b, .int .i64 q, .int .i64 s, .slice a1 n1 c1, .slice a2 n2 c2] #[.int .i64 b, .int .i64 q, .int .i64 s, .slice a3 n1 c3, .slice a4 n2 c4] #[.int .i64 b, .int .i64 q, .int .i64 s, .slice a5 n1 c5, .slice a6 n2 c6]) := HZ1.out.below bl
               clear bl x10 x11 x12 x13 x14 x20 x21 x22 x23 x24 x30 x31 x32 x33 x34
               obtain ⟨x10, x11, x12, x13, x14⟩ := cells5 HZ2.out.b1
               obtain ⟨x20, x21, x22, x23, x24⟩ := cells5 HZ2.out.b2
               obtain ⟨x30, x31, x32, x33, x34⟩ := cells5 HZ2.out.b3))
          clear x10 x11 x12 x13 x14 x20 x21 x22 x23 x24 x30 x31 x32 x33 x34
          go_wp2_with fail
          go_loopw [20] (fun s20 wr => ∃ l : Nat, l ≤ NU ∧ s20 = .int .i64 (l : Int) ∧ Hid (Below w.heap.size w wr) ∧ Hid (ReadsP wr ra ND DL) ∧ Hid (ReadsP wr ru NU UL) ∧ Hid (ReadsP wr rv NV VL)) (fun i _ => NU - (intOf i).toNat)
          case atStart => exact ⟨0, Nat.zero_le _, rfl, HZ2.out.bel, HP2.out, HU2.out, HV2.out⟩
          case round =>
            obtain ⟨l, hl, rfl, HB3, HP3, HU3, HV3⟩ := hrel
            by_cases hlu : l < NU
            · have d2 : (l : Int) < (NU : Int) := by omega
              have wl : IntKind.i64.wrap ((l : Int) + 1) = (l : Int) + 1 := by rw [IntKind.wrap_i64]; omega
              obtain ⟨g2, o2, rfl, hg2, hc2⟩ := HU3.out.pos (by omega)
              obtain ⟨e1, e2⟩ := hc2 l hlu
              have HM : Hid ((⟨(UL.getD l Pl.zero).x, (UL.getD l Pl.zero).y⟩ : Pl) ∈ UL) := pl_at (by rw [HNU.out]; exact hlu)
              clear hc2
              obtain ⟨X, hX⟩ : ∃ X, (UL.getD l Pl.zero).x = X := ⟨_, rfl⟩
              obtain ⟨Y, hY⟩ : ∃ Y, (UL.getD l Pl.zero).y = Y := ⟨_, rfl⟩
              have HM2 : Hid ((⟨X, Y⟩ : Pl) ∈ UL) := by
                have h9 := HM.out
                rw [hX, hY] at h9
                exact h9
              rw [hX] at e1
              rw [hY] at e2
              have HG2 : Hid (g2 < wr.heap.size) := hg2
              clear hX hY
              rcases has_or H4.out HM2.out with hh | ⟨hh, hh2⟩
              · have HH : Hid (hasL DL X Y = true) := hh
                clear hh
                go_wp2_with (first
                  | (go_at_call 20; refine (has_any ra ND ka DL X Y _ HP3.out (by omega)).mono ?_; rintro e u7 ⟨rfl, bl7⟩; rw [HH.out]
                     have HBL : Hid (Below wr.heap.size wr u7) := bl7
                     clear bl7 e1 e2))
                go_roundw
                case rel => exact ⟨l + 1, by omega, by go_num, below_trans HB3.out HBL.out, HP3.out.below HBL.out, HU3.out.below HBL.out, HV3.out.below HBL.out⟩
                case measure => simp [intOf]; omega
              · have HH : Hid (hasL DL X Y = false) := hh
                have HH2 : Hid (hasL VL X Y = true) := hh2
                have T5 : Hid True := trivial
                clear hh hh2
                go_wp2_with (first
                  | (go_at_call 20; have zz := T5; clear T5 zz; refine (has_any ra ND ka DL X Y _ HP3.out (by omega)).mono ?_; rintro e u7 ⟨rfl, bl7⟩; rw [HH.out]
                     have HBL : Hid (Below wr.heap.size wr u7) := bl7
                     replace e1 := (bl7.cell (p := ⟨g2, o2 + l * 2, none⟩) HG2.out).trans e1
                     replace e2 := (bl7.cell (p := ⟨g2, o2 + l * 2 + 1, none⟩) HG2.out).trans e2
                     clear bl7)
                  | (go_at_call 20; refine (has_any rv NV kv VL X Y _ (HV3.out.below HBL.out) (by omega)).mono ?_; rintro e u8 ⟨rfl, bl8⟩; rw [HH2.out]
                     have HBM : Hid (Below wr.heap.size wr u8) := below_trans HBL.out bl8
                     clear bl8 e1 e2))
                go_roundw
                case rel => exact ⟨l + 1, by omega, by go_num, below_trans HB3.out HBM.out, HP3.out.below HBM.out, HU3.out.below HBM.out, HV3.out.below HBM.out⟩
                case measure => simp [intOf]; omega
            · have d2 : ¬ (l : Int) < (NU : Int) := by omega
              go_wp2_with fail
              go_ret
              exact ⟨rfl, HB3.out⟩
        · go_wp2_with (first
            | (go_at_call 12; refine (no_any _ _).mono ?_; rintro e u9 ⟨rfl, h9⟩; rw [h9]; clear h9))
          all_goals
            go_ret
            exact ⟨rfl, HZ.out.bel⟩
      · have p0 : (EC != 0) = true := by simpa using hc0
        go_wp2_with (first
          | (go_at_call 12; refine (no_any _ _).mono ?_; rintro e u9 ⟨rfl, h9⟩; rw [h9]; clear h9))
        go_ret
        exact ⟨rfl, HZ.out.bel⟩

end Go.Proofs.YtnopljjngbgpdabDoor
