/-
  SEAT Ytjginocbbnmgaaa: TnodePlays, its walk.
-/
import Derived.Test.YtjginocbbnmgaaaTpS
import Derived.Test.YtjginocbbnmgaaaOpenP
namespace Go.Proofs.Ytjginocbbnmgaaa
open Go.RowKit Go.Shelf
set_option linter.unusedVariables false

theorem all_M0 : allOf M0 = [] := items_void _ (fun _ _ => rfl)
theorem ref_new (W : World) (gr : Nat) (h : W.heap[gr]? = some (.cells #[.slice none 0 0] 61 (0, 0))) : RefOn W gr (.slice none 0 0) (allOf M0) := by
  rw [all_M0]
  exact ⟨h, ⟨rfl, Or.inl ⟨rfl, rfl⟩⟩, by simp⟩
/-- A call as it stands in the row. -/
theorem ReadsO.at {w W : World} {a : Option Addr} {len : Nat} {os : List Opn} (h : ReadsO w a len os) (hb : Below w.heap.size w W) {i : Nat} (hi : i < len) :
    ∃ b off q k x, a = some ⟨b, off, none⟩ ∧ (-9223372036854775808 ≤ k ∧ k < 9223372036854775808) ∧ ∀ X, Below w.heap.size w X → X.cell? ⟨b, off + i * 3, none⟩ = some (.int .i64 q) ∧ X.cell? ⟨b, off + i * 3 + 1, none⟩ = some (.int .i64 k) ∧ X.cell? ⟨b, off + i * 3 + 2, none⟩ = some (.int .i64 x) := by
  obtain ⟨b, off, ha, hlt, hc⟩ := h.pos (by omega)
  obtain ⟨c0, c1, c2⟩ := hc i hi
  refine ⟨b, off, _, _, _, ha, ?_, fun X hX => ⟨(hX.cell (p := ⟨b, off + i * 3, none⟩) hlt).trans c0, (hX.cell (p := ⟨b, off + i * 3 + 1, none⟩) hlt).trans c1, (hX.cell (p := ⟨b, off + i * 3 + 2, none⟩) hlt).trans c2⟩⟩
  have := (okAtO h.2.1 i (by rw [h.1]; exact hi)).k
  unfold Wf at this
  omega

set_option maxHeartbeats 16000000 in
set_option maxRecDepth 100000 in
theorem plays_walk (a : Option Addr) (len cap : Nat) (os : List Opn) (a2 : Option Addr) (len2 cap2 : Nat) (os2 : List Opn) (w : World) (hr : ReadsO w a len os) (hs : len * 24 ≤ 140737488351232) (hr2 : ReadsO w a2 len2 os2) (hs2 : len2 * 24 ≤ 140737488351232) :
    Calls Try.prog 8 #[.slice a len cap, .slice a2 len2 cap2] w fun e w' => e = .returned (.bool true) ∧ Below w.heap.size w w' := by
  have HR : Hid (ReadsO w a len os) := hr
  have HR2 : Hid (ReadsO w a2 len2 os2) := hr2
  have hlen : len ≤ 140737488351232 := by omega
  have hlen2 : len2 ≤ 140737488351232 := by omega
  have T1 : Hid True := trivial
  clear hr hr2 hs hs2
  go_enter Try.func8, Try.ntmps8
  go_upto_region 3 with (first
    | (go_at_call 15; have zz := T1; clear T1 zz; refine (new_t _).mono ?_; rintro e u1 ⟨rfl, t1, b1⟩
       have HT1 : Hid (Tree u1 w.heap.size 0 M0) := t1
       have HB1 : Hid (Below w.heap.size w u1) := b1
       clear t1 b1)
    | (go_at_call 15; refine (new_t _).mono ?_; rintro e u2 ⟨rfl, t2, b2⟩
       have HT2 : Hid (Tree u2 u1.heap.size 0 M0) := t2
       have HT3 : Hid (Tree u2 w.heap.size 0 M0) := HT1.out.below b2
       have HB2 : Hid (Below w.heap.size w u2) := HB1.out.trans (b2.mono HB1.out.size)
       clear t2 b2))
  go_wp2_with fail
  have HQ : Hid (Quad w ((u2.alloc (.cells #[.slice none 0 0] 61)).alloc (.cells #[.slice none 0 0] 61)) w.heap.size u2.heap.size u1.heap.size (u2.heap.size + 1) M0 M0 (.slice none 0 0) (.slice none 0 0) 0 0) := by
    have hb3 : Below u2.heap.size u2 ((u2.alloc (.cells #[.slice none 0 0] 61)).alloc (.cells #[.slice none 0 0] 61)) := ((Below.refl _ u2).alloc (Nat.le_refl _) _).alloc (by simp) _
    have q1 : ((u2.alloc (.cells #[.slice none 0 0] 61)).alloc (.cells #[.slice none 0 0] 61)).heap[u2.heap.size]? = some (.cells #[.slice none 0 0] 61 (0, 0)) := (below_alloc (u2.alloc (.cells #[.slice none 0 0] 61)) _).block _ (by simp) |>.trans (heap_alloc_new _ _)
    have q2 : ((u2.alloc (.cells #[.slice none 0 0] 61)).alloc (.cells #[.slice none 0 0] 61)).heap[u2.heap.size + 1]? = some (.cells #[.slice none 0 0] 61 (0, 0)) := by
      have h9 := heap_alloc_new (u2.alloc (.cells #[.slice none 0 0] 61)) (.cells #[.slice none 0 0] 61)
      rw [World.size_alloc] at h9
      exact h9
    have l1 := lt_of_block HT2.out.box.choose_spec.choose_spec.choose_spec
    have l2 := HB1.out.size
    have l3 := HB2.out.size
    have l4 := lt_of_block HT1.out.box.choose_spec.choose_spec.choose_spec
    exact ⟨⟨HT3.out.below hb3, ref_new _ _ q1⟩, ⟨HT2.out.below hb3, ref_new _ _ q2⟩, HB2.out.trans (hb3.mono HB2.out.size), Nat.le_refl _, l3, l2, by omega, by omega, by omega, (fun q hq => by cases hq), (fun q hq => by cases hq), (fun q hq => by cases hq)⟩
  obtain ⟨gt, hgt⟩ : ∃ gt, w.heap.size = gt := ⟨_, rfl⟩
  obtain ⟨gu, hgu⟩ : ∃ gu, u1.heap.size = gu := ⟨_, rfl⟩
  obtain ⟨gr, hgr⟩ : ∃ gr, u2.heap.size = gr := ⟨_, rfl⟩
  obtain ⟨gs, hgs⟩ : ∃ gs, u2.heap.size + 1 = gs := ⟨_, rfl⟩
  obtain ⟨W0, hW0⟩ : ∃ W0, ((u2.alloc (.cells #[.slice none 0 0] 61)).alloc (.cells #[.slice none 0 0] 61)) = W0 := ⟨_, rfl⟩
  rw [hW0] at HQ
  have HQ9 : Hid (Quad w W0 gt gr gu gs M0 M0 (.slice none 0 0) (.slice none 0 0) 0 0) := by unfold Hid; rw [← hgt, ← hgu, ← hgs, ← hgr]; exact HQ.out
  rw [hW0, hgs, hgr, hgu, hgt]
  clear hW0 hgs hgr hgu HQ HT1 HT2 HT3 HB1 HB2
  go_loopw [9] (fun s9 wr => ∃ i : Nat, i ≤ len ∧ s9 = .int .i64 (i : Int) ∧ Hid (∃ M M' v v' h h', Quad w wr gt gr gu gs M M' v v' h h')) (fun i _ => len - (intOf i).toNat)
  case atStart => exact ⟨0, by omega, rfl, _, _, _, _, _, _, HQ9.out⟩
  case round =>
    obtain ⟨i, hi, rfl, HQR⟩ := hrel
    obtain ⟨M, M', v, v', h, h', hq⟩ := HQR.out
    have HQD : Hid (Quad w wr.drew gt gr gu gs M M' v v' h h') := hq.below (below_drew _)
    clear HQR hq
    by_cases hc : i < len
    · have dc : (i : Int) < (len : Int) := by omega
      have wi : IntKind.i64.wrap ((i : Int) + 1) = (i : Int) + 1 := by rw [IntKind.wrap_i64]; omega
      obtain ⟨b, off, qq, kq, xq, rfl, hkq, hop⟩ := HR.out.at HQD.out.bel hc
      have HOP : Hid (∀ X, Below w.heap.size w X → X.cell? ⟨b, off + i * 3, none⟩ = some (.int .i64 qq) ∧ X.cell? ⟨b, off + i * 3 + 1, none⟩ = some (.int .i64 kq) ∧ X.cell? ⟨b, off + i * 3 + 2, none⟩ = some (.int .i64 xq)) := hop
      clear hop
      go_upto_region 10 with fail
      refine wp_region_held_drew (S := (fun y : World => y.cell? ⟨b, off + i * 3, none⟩ = some (.int .i64 qq) ∧ y.cell? ⟨b, off + i * 3 + 1, none⟩ = some (.int .i64 kq) ∧ y.cell? ⟨b, off + i * 3 + 2, none⟩ = some (.int .i64 xq))) (by kernel_rfl) (HOP.out _ HQD.out.bel) (fun hHeld => ?_)
      refine wpAnyH_take (i := 0) (oi := { dst := some 28, op := Op.move (Operand.tmp 5), type := 24, pos := "law.go:124", after := #[], guard := none }) (v := ?v0ra) rfl (by kernel_rfl) (by kernel_rfl) (by kernel_rfl) (fun _ _ _ h => h) (Or.inl ⟨by rfl, ?y0ra⟩) (by assumption) ?r0ra
      case y0ra => (intro x hx; (try dsimp only at hx); go_simp; try with_reducible rfl)
      try simp only [Act.put, List.setIfInBounds_toArray, List.set_cons_zero, List.set_cons_succ]
      refine wpAnyH_take (i := 1) (oi := { dst := some 29, op := Op.move (Operand.tmp 7), type := 59, pos := "law.go:124", after := #[], guard := none }) (v := ?v1ra) rfl (by kernel_rfl) (by kernel_rfl) (by kernel_rfl) (fun _ _ _ h => h) (Or.inl ⟨by rfl, ?y1ra⟩) (by assumption) ?r1ra
      case y1ra => (intro x hx; (try dsimp only at hx); go_simp; try with_reducible rfl)
      try simp only [Act.put, List.setIfInBounds_toArray, List.set_cons_zero, List.set_cons_succ]
      refine wpAnyH_take (i := 2) (oi := { dst := some 30, op := Op.move (Operand.tmp 0), type := 58, pos := "law.go:124", after := #[], guard := none }) (v := ?v2ra) rfl (by kernel_rfl) (by kernel_rfl) (by kernel_rfl) (fun _ _ _ h => h) (Or.inl ⟨by rfl, ?y2ra⟩) (by assumption) ?r2ra
      case y2ra => (intro x hx; (try dsimp only at hx); go_simp; try with_reducible rfl)
      try simp only [Act.put, List.setIfInBounds_toArray, List.set_cons_zero, List.set_cons_succ]
      refine wpAnyH_take (i := 3) (oi := { dst := some 31, op := Op.move (Operand.tmp 9), type := 3, pos := "law.go:124", after := #[], guard := none }) (v := ?v3ra) rfl (by kernel_rfl) (by kernel_rfl) (by kernel_rfl) (fun _ _ _ h => h) (Or.inl ⟨by rfl, ?y3ra⟩) (by assumption) ?r3ra
      case y3ra => (intro x hx; (try dsimp only at hx); go_simp; try with_reducible rfl)
      try simp only [Act.put, List.setIfInBounds_toArray, List.set_cons_zero, List.set_cons_succ]
      refine wpAnyH_take (i := 4) (oi := { dst := some 32, op := Op.indexAddr 58 (Operand.tmp 30) (Operand.tmp 31), type := 0, pos := "law.go:124", after := #[{ on := 2, ground := Ground.data }, { on := 3, ground := Ground.data }], guard := none }) (v := ?v4ra) rfl (by kernel_rfl) (by kernel_rfl) (by kernel_rfl) (fun _ _ _ h => h) (Or.inl ⟨by rfl, ?y4ra⟩) (by assumption) ?r4ra
      case y4ra => (intro x hx; (try dsimp only at hx); go_simp; try with_reducible rfl)
      try simp only [Act.put, List.setIfInBounds_toArray, List.set_cons_zero, List.set_cons_succ]
      refine wpAnyH_take (i := 5) (oi := { dst := some 33, op := Op.load 64 (Operand.tmp 32), type := 64, pos := "law.go:124", after := #[{ on := 4, ground := Ground.data }], guard := none }) (v := ?v5ra) rfl (by kernel_rfl) (by kernel_rfl) (by kernel_rfl) (fun _ _ _ h => h) (Or.inl ⟨by rfl, ?y5ra⟩) (by assumption) ?r5ra
      case y5ra => (intro x hx; (try dsimp only at hx); go_simp; try with_reducible rfl)
      try simp only [Act.put, List.setIfInBounds_toArray, List.set_cons_zero, List.set_cons_succ]
      refine wpAnyH_ready (rs := [6]) (by kernel_rfl) (by simp) ?_
      refine AllReadyH.cons (o := { dst := some 34, op := Op.call { callee := Callee.value (Operand.func 32), args := #[Operand.tmp 28, Operand.tmp 29, Operand.tmp 33], argTypes := #[24, 59, 64] }, type := 4, pos := "law.go:124", after := #[{ on := 0, ground := Ground.data }, { on := 1, ground := Ground.data }, { on := 5, ground := Ground.data }], guard := none }) rfl (fun K hK => ?_) AllReadyH.nil
      go_simp
      go_at_call 32
      refine (plays_any gt gr h qq kq xq M v _ HQD.out.a hkq).mono ?_
      rintro e u1 ⟨rfl, h1, M1, v1, d1, ch1⟩
      have HQ0 : Hid (Quad w u1 gt gr gu gs M1 M' v1 v' h1 h') := HQD.out.left d1 ch1
      obtain ⟨a1, cap1, rfl, hcl1, _⟩ := ref_form HQ0.out.a.ref
      obtain ⟨N1, hN1⟩ : ∃ N1, (allOf M1).length = N1 := ⟨_, rfl⟩
      rw [hN1] at HQ0 hcl1
      have HN1 : Hid (num M1 = N1) := (by unfold Hid; rw [← all_count]; exact hN1)
      have HQ1 : Hid (Quad w u1 gt gr gu gs M1 M' (.slice a1 N1 cap1) v' h1 h') := HQ0.out
      have hSnew := HOP.out u1 HQ1.out.bel
      clear d1 ch1 HQ0 hN1
      go_wp2_with fail
      refine hK.out _ _ hSnew (fun hHeld6 => ?_)
      clear hK K hSnew
      clear hHeld
      have hHeld := hHeld6
      clear hHeld6
      try simp only [Act.put, List.setIfInBounds_toArray, List.set_cons_zero, List.set_cons_succ]
      refine wpAnyH_stronger (S' := (fun y : World => (y.cell? ⟨b, off + i * 3, none⟩ = some (.int .i64 qq) ∧ y.cell? ⟨b, off + i * 3 + 1, none⟩ = some (.int .i64 kq) ∧ y.cell? ⟨b, off + i * 3 + 2, none⟩ = some (.int .i64 xq)) ∧ y.cell? ⟨gr, 0, none⟩ = some (.slice a1 N1 cap1))) (fun _ h => h.1) _ _ _ _ ?_
      have hHeld2 := And.intro hHeld hcl1
      clear hHeld
      have hHeld := hHeld2
      clear hHeld2
      refine wpAnyH_take (i := 7) (oi := { dst := some 35, op := Op.unOp UnOp.not 4 (Operand.tmp 34), type := 4, pos := "law.go:124", after := #[{ on := 6, ground := Ground.data }], guard := none }) (v := ?v7ra) rfl (by kernel_rfl) (by kernel_rfl) (by kernel_rfl) (fun _ _ _ h => h) (Or.inl ⟨by rfl, ?y7ra⟩) (by assumption) ?r7ra
      case y7ra => (intro x hx; (try dsimp only at hx); go_simp; try with_reducible rfl)
      try simp only [Act.put, List.setIfInBounds_toArray, List.set_cons_zero, List.set_cons_succ]
      refine wpAnyH_take (i := 8) (oi := { dst := some 36, op := Op.move (Operand.tmp 35), type := 4, pos := "law.go:124", after := #[{ on := 7, ground := Ground.data }, { on := 6, ground := Ground.chain }], guard := none }) (v := ?v8ra) rfl (by kernel_rfl) (by kernel_rfl) (by kernel_rfl) (fun _ _ _ h => h) (Or.inl ⟨by rfl, ?y8ra⟩) (by assumption) ?r8ra
      case y8ra => (intro x hx; (try dsimp only at hx); go_simp; try with_reducible rfl)
      try simp only [Act.put, List.setIfInBounds_toArray, List.set_cons_zero, List.set_cons_succ]
      refine wpAnyH_take (i := 9) (oi := { dst := some 37, op := Op.move (Operand.tmp 5), type := 24, pos := "law.go:124", after := #[{ on := 8, ground := Ground.guard }], guard := some (8, false) }) (v := ?v9ra) rfl (by kernel_rfl) (by kernel_rfl) (by kernel_rfl) (fun _ _ _ h => h) (Or.inl ⟨by rfl, ?y9ra⟩) (by assumption) ?r9ra
      case y9ra => (intro x hx; (try dsimp only at hx); go_simp; try with_reducible rfl)
      try simp only [Act.put, List.setIfInBounds_toArray, List.set_cons_zero, List.set_cons_succ]
      refine wpAnyH_take (i := 11) (oi := { dst := some 39, op := Op.move (Operand.tmp 7), type := 59, pos := "law.go:124", after := #[{ on := 8, ground := Ground.guard }], guard := some (8, false) }) (v := ?v11ra) rfl (by kernel_rfl) (by kernel_rfl) (by kernel_rfl) (fun _ _ _ h => h) (Or.inl ⟨by rfl, ?y11ra⟩) (by assumption) ?r11ra
      case y11ra => (intro x hx; (try dsimp only at hx); go_simp; try with_reducible rfl)
      try simp only [Act.put, List.setIfInBounds_toArray, List.set_cons_zero, List.set_cons_succ]
      refine wpAnyH_take (i := 12) (oi := { dst := some 40, op := Op.nilCheck (Operand.tmp 39), type := 0, pos := "law.go:124", after := #[{ on := 11, ground := Ground.data }, { on := 8, ground := Ground.guard }], guard := some (8, false) }) (v := ?v12ra) rfl (by kernel_rfl) (by kernel_rfl) (by kernel_rfl) (fun _ _ _ h => h) (Or.inl ⟨by rfl, ?y12ra⟩) (by assumption) ?r12ra
      case y12ra => (intro x hx; (try dsimp only at hx); go_simp; try with_reducible rfl)
      try simp only [Act.put, List.setIfInBounds_toArray, List.set_cons_zero, List.set_cons_succ]
      refine wpAnyH_take (i := 13) (oi := { dst := some 41, op := Op.fieldAddr 61 (Operand.tmp 40) 0, type := 0, pos := "law.go:124", after := #[{ on := 12, ground := Ground.data }, { on := 8, ground := Ground.guard }], guard := some (8, false) }) (v := ?v13ra) rfl (by kernel_rfl) (by kernel_rfl) (by kernel_rfl) (fun _ _ _ h => h) (Or.inl ⟨by rfl, ?y13ra⟩) (by assumption) ?r13ra
      case y13ra => (intro x hx; (try dsimp only at hx); go_simp; try with_reducible rfl)
      try simp only [Act.put, List.setIfInBounds_toArray, List.set_cons_zero, List.set_cons_succ]
      refine wpAnyH_take (i := 14) (oi := { dst := some 42, op := Op.load 28 (Operand.tmp 41), type := 28, pos := "law.go:124", after := #[{ on := 13, ground := Ground.data }, { on := 8, ground := Ground.guard }], guard := some (8, false) }) (v := ?v14ra) rfl (by kernel_rfl) (by kernel_rfl) (by kernel_rfl) (fun _ _ _ h => h) (Or.inl ⟨by rfl, ?y14ra⟩) (by assumption) ?r14ra
      case y14ra => (intro x hx; (try dsimp only at hx); go_simp; try with_reducible rfl)
      try simp only [Act.put, List.setIfInBounds_toArray, List.set_cons_zero, List.set_cons_succ]
      refine wpAnyH_take (i := 15) (oi := { dst := some 43, op := Op.call { callee := Callee.builtin Builtin.len, args := #[Operand.tmp 42], argTypes := #[28] }, type := 3, pos := "law.go:124", after := #[{ on := 14, ground := Ground.data }, { on := 8, ground := Ground.guard }], guard := some (8, false) }) (v := ?v15ra) rfl (by kernel_rfl) (by kernel_rfl) (by kernel_rfl) (fun _ _ _ h => h) (Or.inl ⟨by rfl, ?y15ra⟩) (by assumption) ?r15ra
      case y15ra => (intro x hx; (try dsimp only at hx); go_simp; try with_reducible rfl)
      try simp only [Act.put, List.setIfInBounds_toArray, List.set_cons_zero, List.set_cons_succ]
      refine wpAnyH_ready (rs := [10]) (by kernel_rfl) (by simp) ?_
      refine AllReadyH.cons (o := { dst := some 38, op := Op.call { callee := Callee.value (Operand.func 14), args := #[Operand.tmp 37], argTypes := #[24] }, type := 3, pos := "law.go:124", after := #[{ on := 9, ground := Ground.data }, { on := 8, ground := Ground.chain }, { on := 8, ground := Ground.guard }], guard := some (8, false) }) rfl (fun K hK => ?_) AllReadyH.nil
      go_simp
      go_at_call 14
      refine (len_t gt h1 M1 _ HQ1.out.a.tree).mono ?_
      rintro e u9 ⟨rfl, hu9⟩
      rw [← hu9, HN1.out]
      clear hu9
      have hSnew := And.intro (HOP.out u1 HQ1.out.bel) hcl1
      go_wp2_with fail
      refine hK.out _ _ hSnew (fun hHeld10 => ?_)
      clear hK K hSnew
      clear hHeld
      have hHeld := hHeld10
      clear hHeld10
      try simp only [Act.put, List.setIfInBounds_toArray, List.set_cons_zero, List.set_cons_succ]
      refine wpAnyH_take (i := 16) (oi := { dst := some 44, op := Op.binOp BinOp.neq 3 (Operand.tmp 38) (Operand.tmp 43) 3, type := 4, pos := "law.go:124", after := #[{ on := 10, ground := Ground.data }, { on := 15, ground := Ground.data }, { on := 8, ground := Ground.guard }], guard := some (8, false) }) (v := ?v16ra) rfl (by kernel_rfl) (by kernel_rfl) (by kernel_rfl) (fun _ _ _ h => h) (Or.inl ⟨by rfl, ?y16ra⟩) (by assumption) ?r16ra
      case y16ra => (intro x hx; (try dsimp only at hx); go_simp; try with_reducible rfl)
      try simp only [Act.put, List.setIfInBounds_toArray, List.set_cons_zero, List.set_cons_succ]
      refine wpAnyH_take (i := 17) (oi := { dst := some 45, op := Op.pick (Operand.tmp 36) (Operand.const (Value.bool true)) (Operand.tmp 44), type := 4, pos := "law.go:124", after := #[{ on := 8, ground := Ground.data }, { on := 16, ground := Ground.data }], guard := none }) (v := ?v17ra) rfl (by kernel_rfl) (by kernel_rfl) (by kernel_rfl) (fun _ _ _ h => h) (Or.inl ⟨by rfl, ?y17ra⟩) (by assumption) ?r17ra
      case y17ra => (intro x hx; (try dsimp only at hx); go_simp; try with_reducible rfl)
      try simp only [Act.put, List.setIfInBounds_toArray, List.set_cons_zero, List.set_cons_succ]
      refine wpAnyH_take (i := 18) (oi := { dst := some 46, op := Op.move (Operand.tmp 45), type := 4, pos := "law.go:124", after := #[{ on := 17, ground := Ground.data }, { on := 10, ground := Ground.chain }], guard := none }) (v := ?v18ra) rfl (by kernel_rfl) (by kernel_rfl) (by kernel_rfl) (fun _ _ _ h => h) (Or.inl ⟨by rfl, ?y18ra⟩) (by assumption) ?r18ra
      case y18ra => (intro x hx; (try dsimp only at hx); go_simp; try with_reducible rfl)
      try simp only [Act.put, List.setIfInBounds_toArray, List.set_cons_zero, List.set_cons_succ]
      refine wpAnyH_take (i := 19) (oi := { dst := some 47, op := Op.move (Operand.tmp 5), type := 24, pos := "law.go:124", after := #[{ on := 18, ground := Ground.guard }], guard := some (18, false) }) (v := ?v19ra) rfl (by kernel_rfl) (by kernel_rfl) (by kernel_rfl) (fun _ _ _ h => h) (Or.inl ⟨by rfl, ?y19ra⟩) (by assumption) ?r19ra
      case y19ra => (intro x hx; (try dsimp only at hx); go_simp; try with_reducible rfl)
      try simp only [Act.put, List.setIfInBounds_toArray, List.set_cons_zero, List.set_cons_succ]
      refine wpAnyH_take (i := 21) (oi := { dst := some 49, op := Op.move (Operand.tmp 7), type := 59, pos := "law.go:124", after := #[{ on := 18, ground := Ground.guard }], guard := some (18, false) }) (v := ?v21ra) rfl (by kernel_rfl) (by kernel_rfl) (by kernel_rfl) (fun _ _ _ h => h) (Or.inl ⟨by rfl, ?y21ra⟩) (by assumption) ?r21ra
      case y21ra => (intro x hx; (try dsimp only at hx); go_simp; try with_reducible rfl)
      try simp only [Act.put, List.setIfInBounds_toArray, List.set_cons_zero, List.set_cons_succ]
      refine wpAnyH_ready (rs := [20]) (by kernel_rfl) (by simp) ?_
      refine AllReadyH.cons (o := { dst := some 48, op := Op.call { callee := Callee.value (Operand.func 13), args := #[Operand.tmp 47], argTypes := #[24] }, type := 3, pos := "law.go:124", after := #[{ on := 19, ground := Ground.data }, { on := 18, ground := Ground.chain }, { on := 18, ground := Ground.guard }], guard := some (18, false) }) rfl (fun K hK => ?_) AllReadyH.nil
      go_simp
      go_at_call 13
      refine (height_t gt h1 M1 _ HQ1.out.a.tree).mono ?_
      rintro e u9 ⟨rfl, hu9⟩
      rw [← hu9]
      clear hu9
      have hSnew := And.intro (HOP.out u1 HQ1.out.bel) hcl1
      go_wp2_with fail
      refine hK.out _ _ hSnew (fun hHeld20 => ?_)
      clear hK K hSnew
      clear hHeld
      have hHeld := hHeld20
      clear hHeld20
      try simp only [Act.put, List.setIfInBounds_toArray, List.set_cons_zero, List.set_cons_succ]
      refine wpAnyH_ready (rs := [22]) (by kernel_rfl) (by simp) ?_
      refine AllReadyH.cons (o := { dst := some 50, op := Op.call { callee := Callee.value (Operand.func 33), args := #[Operand.tmp 49], argTypes := #[59] }, type := 3, pos := "law.go:124", after := #[{ on := 21, ground := Ground.data }, { on := 20, ground := Ground.chain }, { on := 18, ground := Ground.guard }], guard := some (18, false) }) rfl (fun K hK => ?_) AllReadyH.nil
      go_simp
      go_at_call 33
      refine (rheight_m gt gr h1 M1 _ _ HQ1.out.a).mono ?_
      rintro e u2 ⟨rfl, b2⟩
      have HQ2 : Hid (Quad w u2 gt gr gu gs M1 M' (.slice a1 N1 cap1) v' h1 h') := HQ1.out.below b2
      have hSnew := And.intro (HOP.out u2 HQ2.out.bel) (show u2.cell? ⟨gr, 0, none⟩ = some (.slice a1 N1 cap1) from (by obtain ⟨_, _, _, hcc, _⟩ := ref_form HQ2.out.a.ref; exact hcc))
      clear b2
      go_wp2_with fail
      refine hK.out _ _ hSnew (fun hHeld22 => ?_)
      clear hK K hSnew
      clear hHeld
      have hHeld := hHeld22
      clear hHeld22
      try simp only [Act.put, List.setIfInBounds_toArray, List.set_cons_zero, List.set_cons_succ]
      refine wpAnyH_take (i := 23) (oi := { dst := some 51, op := Op.binOp BinOp.neq 3 (Operand.tmp 48) (Operand.tmp 50) 3, type := 4, pos := "law.go:124", after := #[{ on := 20, ground := Ground.data }, { on := 22, ground := Ground.data }, { on := 18, ground := Ground.guard }], guard := some (18, false) }) (v := ?v23ra) rfl (by kernel_rfl) (by kernel_rfl) (by kernel_rfl) (fun _ _ _ h => h) (Or.inl ⟨by rfl, ?y23ra⟩) (by assumption) ?r23ra
      case y23ra => (intro x hx; (try dsimp only at hx); go_simp; try with_reducible rfl)
      try simp only [Act.put, List.setIfInBounds_toArray, List.set_cons_zero, List.set_cons_succ]
      refine wpAnyH_take (i := 24) (oi := { dst := some 52, op := Op.pick (Operand.tmp 46) (Operand.const (Value.bool true)) (Operand.tmp 51), type := 4, pos := "law.go:124", after := #[{ on := 18, ground := Ground.data }, { on := 23, ground := Ground.data }], guard := none }) (v := ?v24ra) rfl (by kernel_rfl) (by kernel_rfl) (by kernel_rfl) (fun _ _ _ h => h) (Or.inl ⟨by rfl, ?y24ra⟩) (by assumption) ?r24ra
      case y24ra => (intro x hx; (try dsimp only at hx); go_simp; try with_reducible rfl)
      try simp only [Act.put, List.setIfInBounds_toArray, List.set_cons_zero, List.set_cons_succ]
      refine wpAnyH_done (by kernel_rfl) ?_ _
      go_upto_region 12 with fail
      clear HOP hkq
      have HQE : Hid (Quad w u2.drew gt gr gu gs M1 M' (.slice a1 N1 cap1) v' h1 h') := HQ2.out.below (below_drew _)
      clear HQD HQ1 HQ2 hcl1 HN1
      obtain ⟨v9, hv9⟩ : ∃ v9, v9 = Value.slice a1 N1 cap1 := ⟨_, rfl⟩
      rw [← hv9] at HQE
      clear hv9
      have HQD : Hid (Quad w u2.drew gt gr gu gs M1 M' v9 v' h1 h') := HQE.out
      clear HQE
      by_cases hc2 : i < len2
      · have dc2 : (i : Int) < (len2 : Int) := by omega
        obtain ⟨b', off', qq, kq, xq, rfl, hkq, hop⟩ := HR2.out.at HQD.out.bel hc2
        have HOP : Hid (∀ X, Below w.heap.size w X → X.cell? ⟨b', off' + i * 3, none⟩ = some (.int .i64 qq) ∧ X.cell? ⟨b', off' + i * 3 + 1, none⟩ = some (.int .i64 kq) ∧ X.cell? ⟨b', off' + i * 3 + 2, none⟩ = some (.int .i64 xq)) := hop
        clear hop
        refine wp_region_held_drew (S := (fun y : World => y.cell? ⟨b', off' + i * 3, none⟩ = some (.int .i64 qq) ∧ y.cell? ⟨b', off' + i * 3 + 1, none⟩ = some (.int .i64 kq) ∧ y.cell? ⟨b', off' + i * 3 + 2, none⟩ = some (.int .i64 xq))) (by kernel_rfl) (HOP.out _ HQD.out.bel) (fun hHeld => ?_)
        refine wpAnyH_take (i := 0) (oi := { dst := some 53, op := Op.move (Operand.tmp 9), type := 3, pos := "law.go:127", after := #[], guard := none }) (v := ?v0rb) rfl (by kernel_rfl) (by kernel_rfl) (by kernel_rfl) (fun _ _ _ h => h) (Or.inl ⟨by rfl, ?y0rb⟩) (by assumption) ?r0rb
        case y0rb => (intro x hx; (try dsimp only at hx); go_simp; try with_reducible rfl)
        try simp only [Act.put, List.setIfInBounds_toArray, List.set_cons_zero, List.set_cons_succ]
        refine wpAnyH_take (i := 1) (oi := { dst := some 54, op := Op.move (Operand.tmp 1), type := 58, pos := "law.go:127", after := #[], guard := none }) (v := ?v1rb) rfl (by kernel_rfl) (by kernel_rfl) (by kernel_rfl) (fun _ _ _ h => h) (Or.inl ⟨by rfl, ?y1rb⟩) (by assumption) ?r1rb
        case y1rb => (intro x hx; (try dsimp only at hx); go_simp; try with_reducible rfl)
        try simp only [Act.put, List.setIfInBounds_toArray, List.set_cons_zero, List.set_cons_succ]
        refine wpAnyH_take (i := 2) (oi := { dst := some 55, op := Op.call { callee := Callee.builtin Builtin.len, args := #[Operand.tmp 54], argTypes := #[58] }, type := 3, pos := "law.go:127", after := #[{ on := 1, ground := Ground.data }], guard := none }) (v := ?v2rb) rfl (by kernel_rfl) (by kernel_rfl) (by kernel_rfl) (fun _ _ _ h => h) (Or.inl ⟨by rfl, ?y2rb⟩) (by assumption) ?r2rb
        case y2rb => (intro x hx; (try dsimp only at hx); go_simp; try with_reducible rfl)
        try simp only [Act.put, List.setIfInBounds_toArray, List.set_cons_zero, List.set_cons_succ]
        refine wpAnyH_take (i := 3) (oi := { dst := some 56, op := Op.binOp BinOp.lss 3 (Operand.tmp 53) (Operand.tmp 55) 3, type := 4, pos := "law.go:127", after := #[{ on := 0, ground := Ground.data }, { on := 2, ground := Ground.data }], guard := none }) (v := ?v3rb) rfl (by kernel_rfl) (by kernel_rfl) (by kernel_rfl) (fun _ _ _ h => h) (Or.inl ⟨by rfl, ?y3rb⟩) (by assumption) ?r3rb
        case y3rb => (intro x hx; (try dsimp only at hx); go_simp; try with_reducible rfl)
        try simp only [Act.put, List.setIfInBounds_toArray, List.set_cons_zero, List.set_cons_succ]
        refine wpAnyH_take (i := 4) (oi := { dst := some 57, op := Op.move (Operand.tmp 56), type := 4, pos := "law.go:127", after := #[{ on := 3, ground := Ground.data }], guard := none }) (v := ?v4rb) rfl (by kernel_rfl) (by kernel_rfl) (by kernel_rfl) (fun _ _ _ h => h) (Or.inl ⟨by rfl, ?y4rb⟩) (by assumption) ?r4rb
        case y4rb => (intro x hx; (try dsimp only at hx); go_simp; try with_reducible rfl)
        try simp only [Act.put, List.setIfInBounds_toArray, List.set_cons_zero, List.set_cons_succ]
        refine wpAnyH_take (i := 5) (oi := { dst := some 58, op := Op.move (Operand.tmp 6), type := 24, pos := "law.go:127", after := #[{ on := 4, ground := Ground.guard }], guard := some (4, true) }) (v := ?v5rb) rfl (by kernel_rfl) (by kernel_rfl) (by kernel_rfl) (fun _ _ _ h => h) (Or.inl ⟨by rfl, ?y5rb⟩) (by assumption) ?r5rb
        case y5rb => (intro x hx; (try dsimp only at hx); go_simp; try with_reducible rfl)
        try simp only [Act.put, List.setIfInBounds_toArray, List.set_cons_zero, List.set_cons_succ]
        refine wpAnyH_take (i := 6) (oi := { dst := some 59, op := Op.move (Operand.tmp 8), type := 59, pos := "law.go:127", after := #[{ on := 4, ground := Ground.guard }], guard := some (4, true) }) (v := ?v6rb) rfl (by kernel_rfl) (by kernel_rfl) (by kernel_rfl) (fun _ _ _ h => h) (Or.inl ⟨by rfl, ?y6rb⟩) (by assumption) ?r6rb
        case y6rb => (intro x hx; (try dsimp only at hx); go_simp; try with_reducible rfl)
        try simp only [Act.put, List.setIfInBounds_toArray, List.set_cons_zero, List.set_cons_succ]
        refine wpAnyH_take (i := 7) (oi := { dst := some 60, op := Op.move (Operand.tmp 1), type := 58, pos := "law.go:127", after := #[{ on := 4, ground := Ground.guard }], guard := some (4, true) }) (v := ?v7rb) rfl (by kernel_rfl) (by kernel_rfl) (by kernel_rfl) (fun _ _ _ h => h) (Or.inl ⟨by rfl, ?y7rb⟩) (by assumption) ?r7rb
        case y7rb => (intro x hx; (try dsimp only at hx); go_simp; try with_reducible rfl)
        try simp only [Act.put, List.setIfInBounds_toArray, List.set_cons_zero, List.set_cons_succ]
        refine wpAnyH_take (i := 8) (oi := { dst := some 61, op := Op.move (Operand.tmp 9), type := 3, pos := "law.go:127", after := #[{ on := 4, ground := Ground.guard }], guard := some (4, true) }) (v := ?v8rb) rfl (by kernel_rfl) (by kernel_rfl) (by kernel_rfl) (fun _ _ _ h => h) (Or.inl ⟨by rfl, ?y8rb⟩) (by assumption) ?r8rb
        case y8rb => (intro x hx; (try dsimp only at hx); go_simp; try with_reducible rfl)
        try simp only [Act.put, List.setIfInBounds_toArray, List.set_cons_zero, List.set_cons_succ]
        refine wpAnyH_take (i := 9) (oi := { dst := some 62, op := Op.indexAddr 58 (Operand.tmp 60) (Operand.tmp 61), type := 0, pos := "law.go:127", after := #[{ on := 7, ground := Ground.data }, { on := 8, ground := Ground.data }, { on := 4, ground := Ground.guard }], guard := some (4, true) }) (v := ?v9rb) rfl (by kernel_rfl) (by kernel_rfl) (by kernel_rfl) (fun _ _ _ h => h) (Or.inl ⟨by rfl, ?y9rb⟩) (by assumption) ?r9rb
        case y9rb => (intro x hx; (try dsimp only at hx); go_simp; try with_reducible rfl)
        try simp only [Act.put, List.setIfInBounds_toArray, List.set_cons_zero, List.set_cons_succ]
        refine wpAnyH_take (i := 10) (oi := { dst := some 63, op := Op.load 64 (Operand.tmp 62), type := 64, pos := "law.go:127", after := #[{ on := 9, ground := Ground.data }, { on := 4, ground := Ground.guard }], guard := some (4, true) }) (v := ?v10rb) rfl (by kernel_rfl) (by kernel_rfl) (by kernel_rfl) (fun _ _ _ h => h) (Or.inl ⟨by rfl, ?y10rb⟩) (by assumption) ?r10rb
        case y10rb => (intro x hx; (try dsimp only at hx); go_simp; try with_reducible rfl)
        try simp only [Act.put, List.setIfInBounds_toArray, List.set_cons_zero, List.set_cons_succ]
        refine wpAnyH_ready (rs := [11]) (by kernel_rfl) (by simp) ?_
        refine AllReadyH.cons (o := { dst := some 64, op := Op.call { callee := Callee.value (Operand.func 32), args := #[Operand.tmp 58, Operand.tmp 59, Operand.tmp 63], argTypes := #[24, 59, 64] }, type := 4, pos := "law.go:127", after := #[{ on := 5, ground := Ground.data }, { on := 6, ground := Ground.data }, { on := 10, ground := Ground.data }, { on := 4, ground := Ground.chain }, { on := 4, ground := Ground.guard }], guard := some (4, true) }) rfl (fun K hK => ?_) AllReadyH.nil
        go_simp
        go_at_call 32
        refine (plays_any gu gs h' qq kq xq M' v' _ HQD.out.b hkq).mono ?_
        rintro e u4 ⟨rfl, h3, M3, v3, d1, ch1⟩
        have HQ5 : Hid (Quad w u4 gt gr gu gs M1 M3 v9 v3 h1 h3) := HQD.out.right d1 ch1
        obtain ⟨a3, cap3, rfl, hcl3, _⟩ := ref_form HQ5.out.b.ref
        obtain ⟨N3, hN3⟩ : ∃ N3, (allOf M3).length = N3 := ⟨_, rfl⟩
        rw [hN3] at HQ5 hcl3
        have HN3 : Hid (num M3 = N3) := (by unfold Hid; rw [← all_count]; exact hN3)
        have HQ4 : Hid (Quad w u4 gt gr gu gs M1 M3 v9 (.slice a3 N3 cap3) h1 h3) := HQ5.out
        have hSnew := HOP.out u4 HQ4.out.bel
        clear d1 ch1 HQ5 hN3
        go_wp2_with fail
        refine hK.out _ _ hSnew (fun hHeld11 => ?_)
        clear hK K hSnew
        clear hHeld
        have hHeld := hHeld11
        clear hHeld11
        try simp only [Act.put, List.setIfInBounds_toArray, List.set_cons_zero, List.set_cons_succ]
        refine wpAnyH_stronger (S' := (fun y : World => (y.cell? ⟨b', off' + i * 3, none⟩ = some (.int .i64 qq) ∧ y.cell? ⟨b', off' + i * 3 + 1, none⟩ = some (.int .i64 kq) ∧ y.cell? ⟨b', off' + i * 3 + 2, none⟩ = some (.int .i64 xq)) ∧ y.cell? ⟨gs, 0, none⟩ = some (.slice a3 N3 cap3))) (fun _ h => h.1) _ _ _ _ ?_
        have hHeld2 := And.intro hHeld hcl3
        clear hHeld
        have hHeld := hHeld2
        clear hHeld2
        refine wpAnyH_take (i := 12) (oi := { dst := some 65, op := Op.unOp UnOp.not 4 (Operand.tmp 64), type := 4, pos := "law.go:127", after := #[{ on := 11, ground := Ground.data }, { on := 4, ground := Ground.guard }], guard := some (4, true) }) (v := ?v12rb) rfl (by kernel_rfl) (by kernel_rfl) (by kernel_rfl) (fun _ _ _ h => h) (Or.inl ⟨by rfl, ?y12rb⟩) (by assumption) ?r12rb
        case y12rb => (intro x hx; (try dsimp only at hx); go_simp; try with_reducible rfl)
        try simp only [Act.put, List.setIfInBounds_toArray, List.set_cons_zero, List.set_cons_succ]
        refine wpAnyH_take (i := 13) (oi := { dst := some 66, op := Op.move (Operand.tmp 65), type := 4, pos := "law.go:127", after := #[{ on := 12, ground := Ground.data }, { on := 11, ground := Ground.chain }, { on := 4, ground := Ground.guard }], guard := some (4, true) }) (v := ?v13rb) rfl (by kernel_rfl) (by kernel_rfl) (by kernel_rfl) (fun _ _ _ h => h) (Or.inl ⟨by rfl, ?y13rb⟩) (by assumption) ?r13rb
        case y13rb => (intro x hx; (try dsimp only at hx); go_simp; try with_reducible rfl)
        try simp only [Act.put, List.setIfInBounds_toArray, List.set_cons_zero, List.set_cons_succ]
        refine wpAnyH_take (i := 14) (oi := { dst := some 67, op := Op.move (Operand.tmp 6), type := 24, pos := "law.go:127", after := #[{ on := 13, ground := Ground.guard }], guard := some (13, false) }) (v := ?v14rb) rfl (by kernel_rfl) (by kernel_rfl) (by kernel_rfl) (fun _ _ _ h => h) (Or.inl ⟨by rfl, ?y14rb⟩) (by assumption) ?r14rb
        case y14rb => (intro x hx; (try dsimp only at hx); go_simp; try with_reducible rfl)
        try simp only [Act.put, List.setIfInBounds_toArray, List.set_cons_zero, List.set_cons_succ]
        refine wpAnyH_take (i := 16) (oi := { dst := some 69, op := Op.move (Operand.tmp 8), type := 59, pos := "law.go:127", after := #[{ on := 13, ground := Ground.guard }], guard := some (13, false) }) (v := ?v16rb) rfl (by kernel_rfl) (by kernel_rfl) (by kernel_rfl) (fun _ _ _ h => h) (Or.inl ⟨by rfl, ?y16rb⟩) (by assumption) ?r16rb
        case y16rb => (intro x hx; (try dsimp only at hx); go_simp; try with_reducible rfl)
        try simp only [Act.put, List.setIfInBounds_toArray, List.set_cons_zero, List.set_cons_succ]
        refine wpAnyH_take (i := 17) (oi := { dst := some 70, op := Op.nilCheck (Operand.tmp 69), type := 0, pos := "law.go:127", after := #[{ on := 16, ground := Ground.data }, { on := 13, ground := Ground.guard }], guard := some (13, false) }) (v := ?v17rb) rfl (by kernel_rfl) (by kernel_rfl) (by kernel_rfl) (fun _ _ _ h => h) (Or.inl ⟨by rfl, ?y17rb⟩) (by assumption) ?r17rb
        case y17rb => (intro x hx; (try dsimp only at hx); go_simp; try with_reducible rfl)
        try simp only [Act.put, List.setIfInBounds_toArray, List.set_cons_zero, List.set_cons_succ]
        refine wpAnyH_take (i := 18) (oi := { dst := some 71, op := Op.fieldAddr 61 (Operand.tmp 70) 0, type := 0, pos := "law.go:127", after := #[{ on := 17, ground := Ground.data }, { on := 13, ground := Ground.guard }], guard := some (13, false) }) (v := ?v18rb) rfl (by kernel_rfl) (by kernel_rfl) (by kernel_rfl) (fun _ _ _ h => h) (Or.inl ⟨by rfl, ?y18rb⟩) (by assumption) ?r18rb
        case y18rb => (intro x hx; (try dsimp only at hx); go_simp; try with_reducible rfl)
        try simp only [Act.put, List.setIfInBounds_toArray, List.set_cons_zero, List.set_cons_succ]
        refine wpAnyH_take (i := 19) (oi := { dst := some 72, op := Op.load 28 (Operand.tmp 71), type := 28, pos := "law.go:127", after := #[{ on := 18, ground := Ground.data }, { on := 13, ground := Ground.guard }], guard := some (13, false) }) (v := ?v19rb) rfl (by kernel_rfl) (by kernel_rfl) (by kernel_rfl) (fun _ _ _ h => h) (Or.inl ⟨by rfl, ?y19rb⟩) (by assumption) ?r19rb
        case y19rb => (intro x hx; (try dsimp only at hx); go_simp; try with_reducible rfl)
        try simp only [Act.put, List.setIfInBounds_toArray, List.set_cons_zero, List.set_cons_succ]
        refine wpAnyH_take (i := 20) (oi := { dst := some 73, op := Op.call { callee := Callee.builtin Builtin.len, args := #[Operand.tmp 72], argTypes := #[28] }, type := 3, pos := "law.go:127", after := #[{ on := 19, ground := Ground.data }, { on := 13, ground := Ground.guard }], guard := some (13, false) }) (v := ?v20rb) rfl (by kernel_rfl) (by kernel_rfl) (by kernel_rfl) (fun _ _ _ h => h) (Or.inl ⟨by rfl, ?y20rb⟩) (by assumption) ?r20rb
        case y20rb => (intro x hx; (try dsimp only at hx); go_simp; try with_reducible rfl)
        try simp only [Act.put, List.setIfInBounds_toArray, List.set_cons_zero, List.set_cons_succ]
        refine wpAnyH_ready (rs := [15]) (by kernel_rfl) (by simp) ?_
        refine AllReadyH.cons (o := { dst := some 68, op := Op.call { callee := Callee.value (Operand.func 14), args := #[Operand.tmp 67], argTypes := #[24] }, type := 3, pos := "law.go:127", after := #[{ on := 14, ground := Ground.data }, { on := 13, ground := Ground.chain }, { on := 13, ground := Ground.guard }], guard := some (13, false) }) rfl (fun K hK => ?_) AllReadyH.nil
        go_simp
        go_at_call 14
        refine (len_t gu h3 M3 _ HQ4.out.b.tree).mono ?_
        rintro e u9 ⟨rfl, hu9⟩
        rw [← hu9, HN3.out]
        clear hu9
        have hSnew := And.intro (HOP.out u4 HQ4.out.bel) hcl3
        go_wp2_with fail
        refine hK.out _ _ hSnew (fun hHeld15 => ?_)
        clear hK K hSnew
        clear hHeld
        have hHeld := hHeld15
        clear hHeld15
        try simp only [Act.put, List.setIfInBounds_toArray, List.set_cons_zero, List.set_cons_succ]
        refine wpAnyH_take (i := 21) (oi := { dst := some 74, op := Op.binOp BinOp.neq 3 (Operand.tmp 68) (Operand.tmp 73) 3, type := 4, pos := "law.go:127", after := #[{ on := 15, ground := Ground.data }, { on := 20, ground := Ground.data }, { on := 13, ground := Ground.guard }], guard := some (13, false) }) (v := ?v21rb) rfl (by kernel_rfl) (by kernel_rfl) (by kernel_rfl) (fun _ _ _ h => h) (Or.inl ⟨by rfl, ?y21rb⟩) (by assumption) ?r21rb
        case y21rb => (intro x hx; (try dsimp only at hx); go_simp; try with_reducible rfl)
        try simp only [Act.put, List.setIfInBounds_toArray, List.set_cons_zero, List.set_cons_succ]
        refine wpAnyH_take (i := 22) (oi := { dst := some 75, op := Op.pick (Operand.tmp 66) (Operand.const (Value.bool true)) (Operand.tmp 74), type := 4, pos := "law.go:127", after := #[{ on := 13, ground := Ground.data }, { on := 21, ground := Ground.data }, { on := 4, ground := Ground.guard }], guard := some (4, true) }) (v := ?v22rb) rfl (by kernel_rfl) (by kernel_rfl) (by kernel_rfl) (fun _ _ _ h => h) (Or.inl ⟨by rfl, ?y22rb⟩) (by assumption) ?r22rb
        case y22rb => (intro x hx; (try dsimp only at hx); go_simp; try with_reducible rfl)
        try simp only [Act.put, List.setIfInBounds_toArray, List.set_cons_zero, List.set_cons_succ]
        refine wpAnyH_take (i := 23) (oi := { dst := some 76, op := Op.move (Operand.tmp 75), type := 4, pos := "law.go:127", after := #[{ on := 22, ground := Ground.data }, { on := 15, ground := Ground.chain }, { on := 4, ground := Ground.guard }], guard := some (4, true) }) (v := ?v23rb) rfl (by kernel_rfl) (by kernel_rfl) (by kernel_rfl) (fun _ _ _ h => h) (Or.inl ⟨by rfl, ?y23rb⟩) (by assumption) ?r23rb
        case y23rb => (intro x hx; (try dsimp only at hx); go_simp; try with_reducible rfl)
        try simp only [Act.put, List.setIfInBounds_toArray, List.set_cons_zero, List.set_cons_succ]
        refine wpAnyH_take (i := 24) (oi := { dst := some 77, op := Op.move (Operand.tmp 6), type := 24, pos := "law.go:127", after := #[{ on := 23, ground := Ground.guard }], guard := some (23, false) }) (v := ?v24rb) rfl (by kernel_rfl) (by kernel_rfl) (by kernel_rfl) (fun _ _ _ h => h) (Or.inl ⟨by rfl, ?y24rb⟩) (by assumption) ?r24rb
        case y24rb => (intro x hx; (try dsimp only at hx); go_simp; try with_reducible rfl)
        try simp only [Act.put, List.setIfInBounds_toArray, List.set_cons_zero, List.set_cons_succ]
        refine wpAnyH_take (i := 26) (oi := { dst := some 79, op := Op.move (Operand.tmp 8), type := 59, pos := "law.go:127", after := #[{ on := 23, ground := Ground.guard }], guard := some (23, false) }) (v := ?v26rb) rfl (by kernel_rfl) (by kernel_rfl) (by kernel_rfl) (fun _ _ _ h => h) (Or.inl ⟨by rfl, ?y26rb⟩) (by assumption) ?r26rb
        case y26rb => (intro x hx; (try dsimp only at hx); go_simp; try with_reducible rfl)
        try simp only [Act.put, List.setIfInBounds_toArray, List.set_cons_zero, List.set_cons_succ]
        refine wpAnyH_ready (rs := [25]) (by kernel_rfl) (by simp) ?_
        refine AllReadyH.cons (o := { dst := some 78, op := Op.call { callee := Callee.value (Operand.func 13), args := #[Operand.tmp 77], argTypes := #[24] }, type := 3, pos := "law.go:127", after := #[{ on := 24, ground := Ground.data }, { on := 23, ground := Ground.chain }, { on := 23, ground := Ground.guard }], guard := some (23, false) }) rfl (fun K hK => ?_) AllReadyH.nil
        go_simp
        go_at_call 13
        refine (height_t gu h3 M3 _ HQ4.out.b.tree).mono ?_
        rintro e u9 ⟨rfl, hu9⟩
        rw [← hu9]
        clear hu9
        have hSnew := And.intro (HOP.out u4 HQ4.out.bel) hcl3
        go_wp2_with fail
        refine hK.out _ _ hSnew (fun hHeld25 => ?_)
        clear hK K hSnew
        clear hHeld
        have hHeld := hHeld25
        clear hHeld25
        try simp only [Act.put, List.setIfInBounds_toArray, List.set_cons_zero, List.set_cons_succ]
        refine wpAnyH_ready (rs := [27]) (by kernel_rfl) (by simp) ?_
        refine AllReadyH.cons (o := { dst := some 80, op := Op.call { callee := Callee.value (Operand.func 33), args := #[Operand.tmp 79], argTypes := #[59] }, type := 3, pos := "law.go:127", after := #[{ on := 26, ground := Ground.data }, { on := 25, ground := Ground.chain }, { on := 23, ground := Ground.guard }], guard := some (23, false) }) rfl (fun K hK => ?_) AllReadyH.nil
        go_simp
        go_at_call 33
        refine (rheight_m gu gs h3 M3 _ _ HQ4.out.b).mono ?_
        rintro e u5 ⟨rfl, b2⟩
        have HQ3 : Hid (Quad w u5 gt gr gu gs M1 M3 v9 (.slice a3 N3 cap3) h1 h3) := HQ4.out.below b2
        have hSnew := And.intro (HOP.out u5 HQ3.out.bel) (show u5.cell? ⟨gs, 0, none⟩ = some (.slice a3 N3 cap3) from (by obtain ⟨_, _, _, hcc, _⟩ := ref_form HQ3.out.b.ref; exact hcc))
        clear b2
        go_wp2_with fail
        refine hK.out _ _ hSnew (fun hHeld27 => ?_)
        clear hK K hSnew
        clear hHeld
        have hHeld := hHeld27
        clear hHeld27
        try simp only [Act.put, List.setIfInBounds_toArray, List.set_cons_zero, List.set_cons_succ]
        refine wpAnyH_take (i := 28) (oi := { dst := some 81, op := Op.binOp BinOp.neq 3 (Operand.tmp 78) (Operand.tmp 80) 3, type := 4, pos := "law.go:127", after := #[{ on := 25, ground := Ground.data }, { on := 27, ground := Ground.data }, { on := 23, ground := Ground.guard }], guard := some (23, false) }) (v := ?v28rb) rfl (by kernel_rfl) (by kernel_rfl) (by kernel_rfl) (fun _ _ _ h => h) (Or.inl ⟨by rfl, ?y28rb⟩) (by assumption) ?r28rb
        case y28rb => (intro x hx; (try dsimp only at hx); go_simp; try with_reducible rfl)
        try simp only [Act.put, List.setIfInBounds_toArray, List.set_cons_zero, List.set_cons_succ]
        refine wpAnyH_take (i := 29) (oi := { dst := some 82, op := Op.pick (Operand.tmp 76) (Operand.const (Value.bool true)) (Operand.tmp 81), type := 4, pos := "law.go:127", after := #[{ on := 23, ground := Ground.data }, { on := 28, ground := Ground.data }, { on := 4, ground := Ground.guard }], guard := some (4, true) }) (v := ?v29rb) rfl (by kernel_rfl) (by kernel_rfl) (by kernel_rfl) (fun _ _ _ h => h) (Or.inl ⟨by rfl, ?y29rb⟩) (by assumption) ?r29rb
        case y29rb => (intro x hx; (try dsimp only at hx); go_simp; try with_reducible rfl)
        try simp only [Act.put, List.setIfInBounds_toArray, List.set_cons_zero, List.set_cons_succ]
        refine wpAnyH_take (i := 30) (oi := { dst := some 83, op := Op.pick (Operand.tmp 57) (Operand.tmp 82) (Operand.const (Value.bool false)), type := 4, pos := "law.go:127", after := #[{ on := 4, ground := Ground.data }, { on := 29, ground := Ground.data }], guard := none }) (v := ?v30rb) rfl (by kernel_rfl) (by kernel_rfl) (by kernel_rfl) (fun _ _ _ h => h) (Or.inl ⟨by rfl, ?y30rb⟩) (by assumption) ?r30rb
        case y30rb => (intro x hx; (try dsimp only at hx); go_simp; try with_reducible rfl)
        try simp only [Act.put, List.setIfInBounds_toArray, List.set_cons_zero, List.set_cons_succ]
        refine wpAnyH_done (by kernel_rfl) ?_ _
        go_wp2
        go_roundw
        all_goals first
          | exact ⟨i + 1, by omega, by simp, _, _, _, _, _, _, HQ3.out⟩
          | (simp [intOf]; omega)
      · have dc2 : ¬ (i : Int) < (len2 : Int) := by omega
        refine wp_region_held_drew (S := (fun _ : World => True)) (by kernel_rfl) (trivial) (fun hHeld => ?_)
        refine wpAnyH_take (i := 0) (oi := { dst := some 53, op := Op.move (Operand.tmp 9), type := 3, pos := "law.go:127", after := #[], guard := none }) (v := ?v0rn) rfl (by kernel_rfl) (by kernel_rfl) (by kernel_rfl) (fun _ _ _ h => h) (Or.inl ⟨by rfl, ?y0rn⟩) (by assumption) ?r0rn
        case y0rn => (intro x hx; (try dsimp only at hx); go_simp; try with_reducible rfl)
        try simp only [Act.put, List.setIfInBounds_toArray, List.set_cons_zero, List.set_cons_succ]
        refine wpAnyH_take (i := 1) (oi := { dst := some 54, op := Op.move (Operand.tmp 1), type := 58, pos := "law.go:127", after := #[], guard := none }) (v := ?v1rn) rfl (by kernel_rfl) (by kernel_rfl) (by kernel_rfl) (fun _ _ _ h => h) (Or.inl ⟨by rfl, ?y1rn⟩) (by assumption) ?r1rn
        case y1rn => (intro x hx; (try dsimp only at hx); go_simp; try with_reducible rfl)
        try simp only [Act.put, List.setIfInBounds_toArray, List.set_cons_zero, List.set_cons_succ]
        refine wpAnyH_take (i := 2) (oi := { dst := some 55, op := Op.call { callee := Callee.builtin Builtin.len, args := #[Operand.tmp 54], argTypes := #[58] }, type := 3, pos := "law.go:127", after := #[{ on := 1, ground := Ground.data }], guard := none }) (v := ?v2rn) rfl (by kernel_rfl) (by kernel_rfl) (by kernel_rfl) (fun _ _ _ h => h) (Or.inl ⟨by rfl, ?y2rn⟩) (by assumption) ?r2rn
        case y2rn => (intro x hx; (try dsimp only at hx); go_simp; try with_reducible rfl)
        try simp only [Act.put, List.setIfInBounds_toArray, List.set_cons_zero, List.set_cons_succ]
        refine wpAnyH_take (i := 3) (oi := { dst := some 56, op := Op.binOp BinOp.lss 3 (Operand.tmp 53) (Operand.tmp 55) 3, type := 4, pos := "law.go:127", after := #[{ on := 0, ground := Ground.data }, { on := 2, ground := Ground.data }], guard := none }) (v := ?v3rn) rfl (by kernel_rfl) (by kernel_rfl) (by kernel_rfl) (fun _ _ _ h => h) (Or.inl ⟨by rfl, ?y3rn⟩) (by assumption) ?r3rn
        case y3rn => (intro x hx; (try dsimp only at hx); go_simp; try with_reducible rfl)
        try simp only [Act.put, List.setIfInBounds_toArray, List.set_cons_zero, List.set_cons_succ]
        refine wpAnyH_take (i := 4) (oi := { dst := some 57, op := Op.move (Operand.tmp 56), type := 4, pos := "law.go:127", after := #[{ on := 3, ground := Ground.data }], guard := none }) (v := ?v4rn) rfl (by kernel_rfl) (by kernel_rfl) (by kernel_rfl) (fun _ _ _ h => h) (Or.inl ⟨by rfl, ?y4rn⟩) (by assumption) ?r4rn
        case y4rn => (intro x hx; (try dsimp only at hx); go_simp; try with_reducible rfl)
        try simp only [Act.put, List.setIfInBounds_toArray, List.set_cons_zero, List.set_cons_succ]
        refine wpAnyH_take (i := 5) (oi := { dst := some 58, op := Op.move (Operand.tmp 6), type := 24, pos := "law.go:127", after := #[{ on := 4, ground := Ground.guard }], guard := some (4, true) }) (v := undef) rfl (by kernel_rfl) (by kernel_rfl) (by kernel_rfl) (fun _ _ _ h => h) (Or.inr ⟨by rfl, rfl⟩) (by assumption) ?_
        try simp only [Act.put, List.setIfInBounds_toArray, List.set_cons_zero, List.set_cons_succ]
        refine wpAnyH_take (i := 6) (oi := { dst := some 59, op := Op.move (Operand.tmp 8), type := 59, pos := "law.go:127", after := #[{ on := 4, ground := Ground.guard }], guard := some (4, true) }) (v := undef) rfl (by kernel_rfl) (by kernel_rfl) (by kernel_rfl) (fun _ _ _ h => h) (Or.inr ⟨by rfl, rfl⟩) (by assumption) ?_
        try simp only [Act.put, List.setIfInBounds_toArray, List.set_cons_zero, List.set_cons_succ]
        refine wpAnyH_take (i := 7) (oi := { dst := some 60, op := Op.move (Operand.tmp 1), type := 58, pos := "law.go:127", after := #[{ on := 4, ground := Ground.guard }], guard := some (4, true) }) (v := undef) rfl (by kernel_rfl) (by kernel_rfl) (by kernel_rfl) (fun _ _ _ h => h) (Or.inr ⟨by rfl, rfl⟩) (by assumption) ?_
        try simp only [Act.put, List.setIfInBounds_toArray, List.set_cons_zero, List.set_cons_succ]
        refine wpAnyH_take (i := 8) (oi := { dst := some 61, op := Op.move (Operand.tmp 9), type := 3, pos := "law.go:127", after := #[{ on := 4, ground := Ground.guard }], guard := some (4, true) }) (v := undef) rfl (by kernel_rfl) (by kernel_rfl) (by kernel_rfl) (fun _ _ _ h => h) (Or.inr ⟨by rfl, rfl⟩) (by assumption) ?_
        try simp only [Act.put, List.setIfInBounds_toArray, List.set_cons_zero, List.set_cons_succ]
        refine wpAnyH_take (i := 9) (oi := { dst := some 62, op := Op.indexAddr 58 (Operand.tmp 60) (Operand.tmp 61), type := 0, pos := "law.go:127", after := #[{ on := 7, ground := Ground.data }, { on := 8, ground := Ground.data }, { on := 4, ground := Ground.guard }], guard := some (4, true) }) (v := undef) rfl (by kernel_rfl) (by kernel_rfl) (by kernel_rfl) (fun _ _ _ h => h) (Or.inr ⟨by rfl, rfl⟩) (by assumption) ?_
        try simp only [Act.put, List.setIfInBounds_toArray, List.set_cons_zero, List.set_cons_succ]
        refine wpAnyH_take (i := 10) (oi := { dst := some 63, op := Op.load 64 (Operand.tmp 62), type := 64, pos := "law.go:127", after := #[{ on := 9, ground := Ground.data }, { on := 4, ground := Ground.guard }], guard := some (4, true) }) (v := undef) rfl (by kernel_rfl) (by kernel_rfl) (by kernel_rfl) (fun _ _ _ h => h) (Or.inr ⟨by rfl, rfl⟩) (by assumption) ?_
        try simp only [Act.put, List.setIfInBounds_toArray, List.set_cons_zero, List.set_cons_succ]
        refine wpAnyH_take (i := 11) (oi := { dst := some 64, op := Op.call { callee := Callee.value (Operand.func 32), args := #[Operand.tmp 58, Operand.tmp 59, Operand.tmp 63], argTypes := #[24, 59, 64] }, type := 4, pos := "law.go:127", after := #[{ on := 5, ground := Ground.data }, { on := 6, ground := Ground.data }, { on := 10, ground := Ground.data }, { on := 4, ground := Ground.chain }, { on := 4, ground := Ground.guard }], guard := some (4, true) }) (v := undef) rfl (by kernel_rfl) (by kernel_rfl) (by kernel_rfl) (fun _ _ _ h => h) (Or.inr ⟨by rfl, rfl⟩) (by assumption) ?_
        try simp only [Act.put, List.setIfInBounds_toArray, List.set_cons_zero, List.set_cons_succ]
        refine wpAnyH_take (i := 12) (oi := { dst := some 65, op := Op.unOp UnOp.not 4 (Operand.tmp 64), type := 4, pos := "law.go:127", after := #[{ on := 11, ground := Ground.data }, { on := 4, ground := Ground.guard }], guard := some (4, true) }) (v := undef) rfl (by kernel_rfl) (by kernel_rfl) (by kernel_rfl) (fun _ _ _ h => h) (Or.inr ⟨by rfl, rfl⟩) (by assumption) ?_
        try simp only [Act.put, List.setIfInBounds_toArray, List.set_cons_zero, List.set_cons_succ]
        refine wpAnyH_take (i := 13) (oi := { dst := some 66, op := Op.move (Operand.tmp 65), type := 4, pos := "law.go:127", after := #[{ on := 12, ground := Ground.data }, { on := 11, ground := Ground.chain }, { on := 4, ground := Ground.guard }], guard := some (4, true) }) (v := undef) rfl (by kernel_rfl) (by kernel_rfl) (by kernel_rfl) (fun _ _ _ h => h) (Or.inr ⟨by rfl, rfl⟩) (by assumption) ?_
        try simp only [Act.put, List.setIfInBounds_toArray, List.set_cons_zero, List.set_cons_succ]
        refine wpAnyH_take (i := 14) (oi := { dst := some 67, op := Op.move (Operand.tmp 6), type := 24, pos := "law.go:127", after := #[{ on := 13, ground := Ground.guard }], guard := some (13, false) }) (v := undef) rfl (by kernel_rfl) (by kernel_rfl) (by kernel_rfl) (fun _ _ _ h => h) (Or.inr ⟨by rfl, rfl⟩) (by assumption) ?_
        try simp only [Act.put, List.setIfInBounds_toArray, List.set_cons_zero, List.set_cons_succ]
        refine wpAnyH_take (i := 15) (oi := { dst := some 68, op := Op.call { callee := Callee.value (Operand.func 14), args := #[Operand.tmp 67], argTypes := #[24] }, type := 3, pos := "law.go:127", after := #[{ on := 14, ground := Ground.data }, { on := 13, ground := Ground.chain }, { on := 13, ground := Ground.guard }], guard := some (13, false) }) (v := undef) rfl (by kernel_rfl) (by kernel_rfl) (by kernel_rfl) (fun _ _ _ h => h) (Or.inr ⟨by rfl, rfl⟩) (by assumption) ?_
        try simp only [Act.put, List.setIfInBounds_toArray, List.set_cons_zero, List.set_cons_succ]
        refine wpAnyH_take (i := 16) (oi := { dst := some 69, op := Op.move (Operand.tmp 8), type := 59, pos := "law.go:127", after := #[{ on := 13, ground := Ground.guard }], guard := some (13, false) }) (v := undef) rfl (by kernel_rfl) (by kernel_rfl) (by kernel_rfl) (fun _ _ _ h => h) (Or.inr ⟨by rfl, rfl⟩) (by assumption) ?_
        try simp only [Act.put, List.setIfInBounds_toArray, List.set_cons_zero, List.set_cons_succ]
        refine wpAnyH_take (i := 17) (oi := { dst := some 70, op := Op.nilCheck (Operand.tmp 69), type := 0, pos := "law.go:127", after := #[{ on := 16, ground := Ground.data }, { on := 13, ground := Ground.guard }], guard := some (13, false) }) (v := undef) rfl (by kernel_rfl) (by kernel_rfl) (by kernel_rfl) (fun _ _ _ h => h) (Or.inr ⟨by rfl, rfl⟩) (by assumption) ?_
        try simp only [Act.put, List.setIfInBounds_toArray, List.set_cons_zero, List.set_cons_succ]
        refine wpAnyH_take (i := 18) (oi := { dst := some 71, op := Op.fieldAddr 61 (Operand.tmp 70) 0, type := 0, pos := "law.go:127", after := #[{ on := 17, ground := Ground.data }, { on := 13, ground := Ground.guard }], guard := some (13, false) }) (v := undef) rfl (by kernel_rfl) (by kernel_rfl) (by kernel_rfl) (fun _ _ _ h => h) (Or.inr ⟨by rfl, rfl⟩) (by assumption) ?_
        try simp only [Act.put, List.setIfInBounds_toArray, List.set_cons_zero, List.set_cons_succ]
        refine wpAnyH_take (i := 19) (oi := { dst := some 72, op := Op.load 28 (Operand.tmp 71), type := 28, pos := "law.go:127", after := #[{ on := 18, ground := Ground.data }, { on := 13, ground := Ground.guard }], guard := some (13, false) }) (v := undef) rfl (by kernel_rfl) (by kernel_rfl) (by kernel_rfl) (fun _ _ _ h => h) (Or.inr ⟨by rfl, rfl⟩) (by assumption) ?_
        try simp only [Act.put, List.setIfInBounds_toArray, List.set_cons_zero, List.set_cons_succ]
        refine wpAnyH_take (i := 20) (oi := { dst := some 73, op := Op.call { callee := Callee.builtin Builtin.len, args := #[Operand.tmp 72], argTypes := #[28] }, type := 3, pos := "law.go:127", after := #[{ on := 19, ground := Ground.data }, { on := 13, ground := Ground.guard }], guard := some (13, false) }) (v := undef) rfl (by kernel_rfl) (by kernel_rfl) (by kernel_rfl) (fun _ _ _ h => h) (Or.inr ⟨by rfl, rfl⟩) (by assumption) ?_
        try simp only [Act.put, List.setIfInBounds_toArray, List.set_cons_zero, List.set_cons_succ]
        refine wpAnyH_take (i := 21) (oi := { dst := some 74, op := Op.binOp BinOp.neq 3 (Operand.tmp 68) (Operand.tmp 73) 3, type := 4, pos := "law.go:127", after := #[{ on := 15, ground := Ground.data }, { on := 20, ground := Ground.data }, { on := 13, ground := Ground.guard }], guard := some (13, false) }) (v := undef) rfl (by kernel_rfl) (by kernel_rfl) (by kernel_rfl) (fun _ _ _ h => h) (Or.inr ⟨by rfl, rfl⟩) (by assumption) ?_
        try simp only [Act.put, List.setIfInBounds_toArray, List.set_cons_zero, List.set_cons_succ]
        refine wpAnyH_take (i := 22) (oi := { dst := some 75, op := Op.pick (Operand.tmp 66) (Operand.const (Value.bool true)) (Operand.tmp 74), type := 4, pos := "law.go:127", after := #[{ on := 13, ground := Ground.data }, { on := 21, ground := Ground.data }, { on := 4, ground := Ground.guard }], guard := some (4, true) }) (v := undef) rfl (by kernel_rfl) (by kernel_rfl) (by kernel_rfl) (fun _ _ _ h => h) (Or.inr ⟨by rfl, rfl⟩) (by assumption) ?_
        try simp only [Act.put, List.setIfInBounds_toArray, List.set_cons_zero, List.set_cons_succ]
        refine wpAnyH_take (i := 23) (oi := { dst := some 76, op := Op.move (Operand.tmp 75), type := 4, pos := "law.go:127", after := #[{ on := 22, ground := Ground.data }, { on := 15, ground := Ground.chain }, { on := 4, ground := Ground.guard }], guard := some (4, true) }) (v := undef) rfl (by kernel_rfl) (by kernel_rfl) (by kernel_rfl) (fun _ _ _ h => h) (Or.inr ⟨by rfl, rfl⟩) (by assumption) ?_
        try simp only [Act.put, List.setIfInBounds_toArray, List.set_cons_zero, List.set_cons_succ]
        refine wpAnyH_take (i := 24) (oi := { dst := some 77, op := Op.move (Operand.tmp 6), type := 24, pos := "law.go:127", after := #[{ on := 23, ground := Ground.guard }], guard := some (23, false) }) (v := undef) rfl (by kernel_rfl) (by kernel_rfl) (by kernel_rfl) (fun _ _ _ h => h) (Or.inr ⟨by rfl, rfl⟩) (by assumption) ?_
        try simp only [Act.put, List.setIfInBounds_toArray, List.set_cons_zero, List.set_cons_succ]
        refine wpAnyH_take (i := 25) (oi := { dst := some 78, op := Op.call { callee := Callee.value (Operand.func 13), args := #[Operand.tmp 77], argTypes := #[24] }, type := 3, pos := "law.go:127", after := #[{ on := 24, ground := Ground.data }, { on := 23, ground := Ground.chain }, { on := 23, ground := Ground.guard }], guard := some (23, false) }) (v := undef) rfl (by kernel_rfl) (by kernel_rfl) (by kernel_rfl) (fun _ _ _ h => h) (Or.inr ⟨by rfl, rfl⟩) (by assumption) ?_
        try simp only [Act.put, List.setIfInBounds_toArray, List.set_cons_zero, List.set_cons_succ]
        refine wpAnyH_take (i := 26) (oi := { dst := some 79, op := Op.move (Operand.tmp 8), type := 59, pos := "law.go:127", after := #[{ on := 23, ground := Ground.guard }], guard := some (23, false) }) (v := undef) rfl (by kernel_rfl) (by kernel_rfl) (by kernel_rfl) (fun _ _ _ h => h) (Or.inr ⟨by rfl, rfl⟩) (by assumption) ?_
        try simp only [Act.put, List.setIfInBounds_toArray, List.set_cons_zero, List.set_cons_succ]
        refine wpAnyH_take (i := 27) (oi := { dst := some 80, op := Op.call { callee := Callee.value (Operand.func 33), args := #[Operand.tmp 79], argTypes := #[59] }, type := 3, pos := "law.go:127", after := #[{ on := 26, ground := Ground.data }, { on := 25, ground := Ground.chain }, { on := 23, ground := Ground.guard }], guard := some (23, false) }) (v := undef) rfl (by kernel_rfl) (by kernel_rfl) (by kernel_rfl) (fun _ _ _ h => h) (Or.inr ⟨by rfl, rfl⟩) (by assumption) ?_
        try simp only [Act.put, List.setIfInBounds_toArray, List.set_cons_zero, List.set_cons_succ]
        refine wpAnyH_take (i := 28) (oi := { dst := some 81, op := Op.binOp BinOp.neq 3 (Operand.tmp 78) (Operand.tmp 80) 3, type := 4, pos := "law.go:127", after := #[{ on := 25, ground := Ground.data }, { on := 27, ground := Ground.data }, { on := 23, ground := Ground.guard }], guard := some (23, false) }) (v := undef) rfl (by kernel_rfl) (by kernel_rfl) (by kernel_rfl) (fun _ _ _ h => h) (Or.inr ⟨by rfl, rfl⟩) (by assumption) ?_
        try simp only [Act.put, List.setIfInBounds_toArray, List.set_cons_zero, List.set_cons_succ]
        refine wpAnyH_take (i := 29) (oi := { dst := some 82, op := Op.pick (Operand.tmp 76) (Operand.const (Value.bool true)) (Operand.tmp 81), type := 4, pos := "law.go:127", after := #[{ on := 23, ground := Ground.data }, { on := 28, ground := Ground.data }, { on := 4, ground := Ground.guard }], guard := some (4, true) }) (v := undef) rfl (by kernel_rfl) (by kernel_rfl) (by kernel_rfl) (fun _ _ _ h => h) (Or.inr ⟨by rfl, rfl⟩) (by assumption) ?_
        try simp only [Act.put, List.setIfInBounds_toArray, List.set_cons_zero, List.set_cons_succ]
        refine wpAnyH_take (i := 30) (oi := { dst := some 83, op := Op.pick (Operand.tmp 57) (Operand.tmp 82) (Operand.const (Value.bool false)), type := 4, pos := "law.go:127", after := #[{ on := 4, ground := Ground.data }, { on := 29, ground := Ground.data }], guard := none }) (v := ?v30rn) rfl (by kernel_rfl) (by kernel_rfl) (by kernel_rfl) (fun _ _ _ h => h) (Or.inl ⟨by rfl, ?y30rn⟩) (by assumption) ?r30rn
        case y30rn => (intro x hx; (try dsimp only at hx); go_simp; try with_reducible rfl)
        try simp only [Act.put, List.setIfInBounds_toArray, List.set_cons_zero, List.set_cons_succ]
        refine wpAnyH_done (by kernel_rfl) ?_ _
        go_wp2
        go_roundw
        all_goals first
          | exact ⟨i + 1, by omega, by simp, _, _, _, _, _, _, HQD.out⟩
          | (simp [intOf]; omega)
    · have dc : ¬ (i : Int) < (len : Int) := by omega
      go_upto_region 14 with fail
      refine wp_region_held_drew (S := (fun y : World => y.cell? ⟨gr, 0, none⟩ = some v ∧ y.cell? ⟨gs, 0, none⟩ = some v')) (by kernel_rfl) ((⟨(by obtain ⟨_, _, _, hcc, _⟩ := ref_form HQD.out.a.ref; exact hcc), (by obtain ⟨_, _, _, hcc, _⟩ := ref_form HQD.out.b.ref; exact hcc)⟩ : _ ∧ _)) (fun hHeld => ?_)
      refine wpAnyH_take (i := 0) (oi := { dst := some 84, op := Op.move (Operand.tmp 5), type := 24, pos := "law.go:131", after := #[], guard := none }) (v := ?v0re) rfl (by kernel_rfl) (by kernel_rfl) (by kernel_rfl) (fun _ _ _ h => h) (Or.inl ⟨by rfl, ?y0re⟩) (by assumption) ?r0re
      case y0re => (intro x hx; (try dsimp only at hx); go_simp; try with_reducible rfl)
      try simp only [Act.put, List.setIfInBounds_toArray, List.set_cons_zero, List.set_cons_succ]
      refine wpAnyH_take (i := 2) (oi := { dst := some 86, op := Op.move (Operand.tmp 7), type := 59, pos := "law.go:131", after := #[], guard := none }) (v := ?v2re) rfl (by kernel_rfl) (by kernel_rfl) (by kernel_rfl) (fun _ _ _ h => h) (Or.inl ⟨by rfl, ?y2re⟩) (by assumption) ?r2re
      case y2re => (intro x hx; (try dsimp only at hx); go_simp; try with_reducible rfl)
      try simp only [Act.put, List.setIfInBounds_toArray, List.set_cons_zero, List.set_cons_succ]
      refine wpAnyH_take (i := 3) (oi := { dst := some 87, op := Op.nilCheck (Operand.tmp 86), type := 0, pos := "law.go:131", after := #[{ on := 2, ground := Ground.data }], guard := none }) (v := ?v3re) rfl (by kernel_rfl) (by kernel_rfl) (by kernel_rfl) (fun _ _ _ h => h) (Or.inl ⟨by rfl, ?y3re⟩) (by assumption) ?r3re
      case y3re => (intro x hx; (try dsimp only at hx); go_simp; try with_reducible rfl)
      try simp only [Act.put, List.setIfInBounds_toArray, List.set_cons_zero, List.set_cons_succ]
      refine wpAnyH_take (i := 4) (oi := { dst := some 88, op := Op.fieldAddr 61 (Operand.tmp 87) 0, type := 0, pos := "law.go:131", after := #[{ on := 3, ground := Ground.data }], guard := none }) (v := ?v4re) rfl (by kernel_rfl) (by kernel_rfl) (by kernel_rfl) (fun _ _ _ h => h) (Or.inl ⟨by rfl, ?y4re⟩) (by assumption) ?r4re
      case y4re => (intro x hx; (try dsimp only at hx); go_simp; try with_reducible rfl)
      try simp only [Act.put, List.setIfInBounds_toArray, List.set_cons_zero, List.set_cons_succ]
      refine wpAnyH_take (i := 5) (oi := { dst := some 89, op := Op.load 28 (Operand.tmp 88), type := 28, pos := "law.go:131", after := #[{ on := 4, ground := Ground.data }], guard := none }) (v := ?v5re) rfl (by kernel_rfl) (by kernel_rfl) (by kernel_rfl) (fun _ _ _ h => h) (Or.inl ⟨by rfl, ?y5re⟩) (by assumption) ?r5re
      case y5re => (intro x hx; (try dsimp only at hx); go_simp; try with_reducible rfl)
      try simp only [Act.put, List.setIfInBounds_toArray, List.set_cons_zero, List.set_cons_succ]
      refine wpAnyH_ready (rs := [1]) (by kernel_rfl) (by simp) ?_
      refine AllReadyH.cons (o := { dst := some 85, op := Op.call { callee := Callee.value (Operand.func 12), args := #[Operand.tmp 84, Operand.const (Value.int IntKind.i64 (-1))], argTypes := #[24, 3] }, type := 28, pos := "law.go:131", after := #[{ on := 0, ground := Ground.data }], guard := none }) rfl (fun K hK => ?_) AllReadyH.nil
      go_simp
      go_at_call 12
      refine (pairs_t gt h M _ HQD.out.a.tree).mono ?_
      rintro e x1 ⟨vlx1, rfl, r1, t1, b1⟩
      have HLx1 : Hid (Rd x1 vlx1 (allOf M)) := r1
      have HQx1 : Hid (Quad w x1 gt gr gu gs M M' v v' h h') := HQD.out.below b1
      have hSnew := (⟨(by obtain ⟨_, _, _, hcc, _⟩ := ref_form HQx1.out.a.ref; exact hcc), (by obtain ⟨_, _, _, hcc, _⟩ := ref_form HQx1.out.b.ref; exact hcc)⟩ : _ ∧ _)
      clear r1 t1 b1
      go_wp2_with fail
      refine hK.out _ _ hSnew (fun hHeld1 => ?_)
      clear hK K hSnew
      clear hHeld
      have hHeld := hHeld1
      clear hHeld1
      try simp only [Act.put, List.setIfInBounds_toArray, List.set_cons_zero, List.set_cons_succ]
      refine wpAnyH_ready (rs := [6]) (by kernel_rfl) (by simp) ?_
      refine AllReadyH.cons (o := { dst := some 90, op := Op.call { callee := Callee.value (Operand.func 18), args := #[Operand.tmp 85, Operand.tmp 89], argTypes := #[28, 28] }, type := 4, pos := "law.go:131", after := #[{ on := 1, ground := Ground.data }, { on := 5, ground := Ground.data }, { on := 1, ground := Ground.chain }], guard := none }) rfl (fun K hK => ?_) AllReadyH.nil
      go_simp
      go_at_call 18
      refine (same_t _ _ _ (allOf M) HLx1.out HQx1.out.a.ref.2.1).mono ?_
      rintro e x2 ⟨rfl, b1⟩
      have HQx2 : Hid (Quad w x2 gt gr gu gs M M' v v' h h') := HQx1.out.below b1
      have hSnew := (⟨(by obtain ⟨_, _, _, hcc, _⟩ := ref_form HQx2.out.a.ref; exact hcc), (by obtain ⟨_, _, _, hcc, _⟩ := ref_form HQx2.out.b.ref; exact hcc)⟩ : _ ∧ _)
      clear b1
      go_wp2_with fail
      refine hK.out _ _ hSnew (fun hHeld6 => ?_)
      clear hK K hSnew
      clear hHeld
      have hHeld := hHeld6
      clear hHeld6
      try simp only [Act.put, List.setIfInBounds_toArray, List.set_cons_zero, List.set_cons_succ]
      refine wpAnyH_take (i := 7) (oi := { dst := some 91, op := Op.move (Operand.tmp 90), type := 4, pos := "law.go:131", after := #[{ on := 6, ground := Ground.data }, { on := 6, ground := Ground.chain }], guard := none }) (v := ?v7re) rfl (by kernel_rfl) (by kernel_rfl) (by kernel_rfl) (fun _ _ _ h => h) (Or.inl ⟨by rfl, ?y7re⟩) (by assumption) ?r7re
      case y7re => (intro x hx; (try dsimp only at hx); go_simp; try with_reducible rfl)
      try simp only [Act.put, List.setIfInBounds_toArray, List.set_cons_zero, List.set_cons_succ]
      refine wpAnyH_take (i := 8) (oi := { dst := some 92, op := Op.move (Operand.tmp 6), type := 24, pos := "law.go:131", after := #[{ on := 7, ground := Ground.guard }], guard := some (7, true) }) (v := ?v8re) rfl (by kernel_rfl) (by kernel_rfl) (by kernel_rfl) (fun _ _ _ h => h) (Or.inl ⟨by rfl, ?y8re⟩) (by assumption) ?r8re
      case y8re => (intro x hx; (try dsimp only at hx); go_simp; try with_reducible rfl)
      try simp only [Act.put, List.setIfInBounds_toArray, List.set_cons_zero, List.set_cons_succ]
      refine wpAnyH_take (i := 10) (oi := { dst := some 94, op := Op.move (Operand.tmp 8), type := 59, pos := "law.go:131", after := #[{ on := 7, ground := Ground.guard }], guard := some (7, true) }) (v := ?v10re) rfl (by kernel_rfl) (by kernel_rfl) (by kernel_rfl) (fun _ _ _ h => h) (Or.inl ⟨by rfl, ?y10re⟩) (by assumption) ?r10re
      case y10re => (intro x hx; (try dsimp only at hx); go_simp; try with_reducible rfl)
      try simp only [Act.put, List.setIfInBounds_toArray, List.set_cons_zero, List.set_cons_succ]
      refine wpAnyH_take (i := 11) (oi := { dst := some 95, op := Op.nilCheck (Operand.tmp 94), type := 0, pos := "law.go:131", after := #[{ on := 10, ground := Ground.data }, { on := 7, ground := Ground.guard }], guard := some (7, true) }) (v := ?v11re) rfl (by kernel_rfl) (by kernel_rfl) (by kernel_rfl) (fun _ _ _ h => h) (Or.inl ⟨by rfl, ?y11re⟩) (by assumption) ?r11re
      case y11re => (intro x hx; (try dsimp only at hx); go_simp; try with_reducible rfl)
      try simp only [Act.put, List.setIfInBounds_toArray, List.set_cons_zero, List.set_cons_succ]
      refine wpAnyH_take (i := 12) (oi := { dst := some 96, op := Op.fieldAddr 61 (Operand.tmp 95) 0, type := 0, pos := "law.go:131", after := #[{ on := 11, ground := Ground.data }, { on := 7, ground := Ground.guard }], guard := some (7, true) }) (v := ?v12re) rfl (by kernel_rfl) (by kernel_rfl) (by kernel_rfl) (fun _ _ _ h => h) (Or.inl ⟨by rfl, ?y12re⟩) (by assumption) ?r12re
      case y12re => (intro x hx; (try dsimp only at hx); go_simp; try with_reducible rfl)
      try simp only [Act.put, List.setIfInBounds_toArray, List.set_cons_zero, List.set_cons_succ]
      refine wpAnyH_take (i := 13) (oi := { dst := some 97, op := Op.load 28 (Operand.tmp 96), type := 28, pos := "law.go:131", after := #[{ on := 12, ground := Ground.data }, { on := 7, ground := Ground.guard }], guard := some (7, true) }) (v := ?v13re) rfl (by kernel_rfl) (by kernel_rfl) (by kernel_rfl) (fun _ _ _ h => h) (Or.inl ⟨by rfl, ?y13re⟩) (by assumption) ?r13re
      case y13re => (intro x hx; (try dsimp only at hx); go_simp; try with_reducible rfl)
      try simp only [Act.put, List.setIfInBounds_toArray, List.set_cons_zero, List.set_cons_succ]
      refine wpAnyH_ready (rs := [9]) (by kernel_rfl) (by simp) ?_
      refine AllReadyH.cons (o := { dst := some 93, op := Op.call { callee := Callee.value (Operand.func 12), args := #[Operand.tmp 92, Operand.const (Value.int IntKind.i64 (-1))], argTypes := #[24, 3] }, type := 28, pos := "law.go:131", after := #[{ on := 8, ground := Ground.data }, { on := 7, ground := Ground.chain }, { on := 7, ground := Ground.guard }], guard := some (7, true) }) rfl (fun K hK => ?_) AllReadyH.nil
      go_simp
      go_at_call 12
      refine (pairs_t gu h' M' _ HQx2.out.b.tree).mono ?_
      rintro e x3 ⟨vlx3, rfl, r1, t1, b1⟩
      have HLx3 : Hid (Rd x3 vlx3 (allOf M')) := r1
      have HQx3 : Hid (Quad w x3 gt gr gu gs M M' v v' h h') := HQx2.out.below b1
      have hSnew := (⟨(by obtain ⟨_, _, _, hcc, _⟩ := ref_form HQx3.out.a.ref; exact hcc), (by obtain ⟨_, _, _, hcc, _⟩ := ref_form HQx3.out.b.ref; exact hcc)⟩ : _ ∧ _)
      clear r1 t1 b1
      go_wp2_with fail
      refine hK.out _ _ hSnew (fun hHeld9 => ?_)
      clear hK K hSnew
      clear hHeld
      have hHeld := hHeld9
      clear hHeld9
      try simp only [Act.put, List.setIfInBounds_toArray, List.set_cons_zero, List.set_cons_succ]
      refine wpAnyH_ready (rs := [14]) (by kernel_rfl) (by simp) ?_
      refine AllReadyH.cons (o := { dst := some 98, op := Op.call { callee := Callee.value (Operand.func 18), args := #[Operand.tmp 93, Operand.tmp 97], argTypes := #[28, 28] }, type := 4, pos := "law.go:131", after := #[{ on := 9, ground := Ground.data }, { on := 13, ground := Ground.data }, { on := 9, ground := Ground.chain }, { on := 7, ground := Ground.guard }], guard := some (7, true) }) rfl (fun K hK => ?_) AllReadyH.nil
      go_simp
      go_at_call 18
      refine (same_t _ _ _ (allOf M') HLx3.out HQx3.out.b.ref.2.1).mono ?_
      rintro e x4 ⟨rfl, b1⟩
      have HQx4 : Hid (Quad w x4 gt gr gu gs M M' v v' h h') := HQx3.out.below b1
      have hSnew := (⟨(by obtain ⟨_, _, _, hcc, _⟩ := ref_form HQx4.out.a.ref; exact hcc), (by obtain ⟨_, _, _, hcc, _⟩ := ref_form HQx4.out.b.ref; exact hcc)⟩ : _ ∧ _)
      clear b1
      go_wp2_with fail
      refine hK.out _ _ hSnew (fun hHeld14 => ?_)
      clear hK K hSnew
      clear hHeld
      have hHeld := hHeld14
      clear hHeld14
      try simp only [Act.put, List.setIfInBounds_toArray, List.set_cons_zero, List.set_cons_succ]
      refine wpAnyH_take (i := 15) (oi := { dst := some 99, op := Op.pick (Operand.tmp 91) (Operand.tmp 98) (Operand.const (Value.bool false)), type := 4, pos := "law.go:131", after := #[{ on := 7, ground := Ground.data }, { on := 14, ground := Ground.data }], guard := none }) (v := ?v15re) rfl (by kernel_rfl) (by kernel_rfl) (by kernel_rfl) (fun _ _ _ h => h) (Or.inl ⟨by rfl, ?y15re⟩) (by assumption) ?r15re
      case y15re => (intro x hx; (try dsimp only at hx); go_simp; try with_reducible rfl)
      try simp only [Act.put, List.setIfInBounds_toArray, List.set_cons_zero, List.set_cons_succ]
      refine wpAnyH_take (i := 16) (oi := { dst := some 4, op := Op.assign (Operand.tmp 99), type := 4, pos := "law.go:131", after := #[{ on := 15, ground := Ground.data }, { on := 14, ground := Ground.chain }, { on := 0, ground := Ground.phase }, { on := 1, ground := Ground.phase }, { on := 2, ground := Ground.phase }, { on := 3, ground := Ground.phase }, { on := 4, ground := Ground.phase }, { on := 5, ground := Ground.phase }, { on := 6, ground := Ground.phase }, { on := 7, ground := Ground.phase }, { on := 8, ground := Ground.phase }, { on := 9, ground := Ground.phase }, { on := 10, ground := Ground.phase }, { on := 11, ground := Ground.phase }, { on := 12, ground := Ground.phase }, { on := 13, ground := Ground.phase }, { on := 14, ground := Ground.phase }, { on := 15, ground := Ground.phase }], guard := none }) (v := ?v16re) rfl (by kernel_rfl) (by kernel_rfl) (by kernel_rfl) (fun _ _ _ h => h) (Or.inl ⟨by rfl, ?y16re⟩) (by assumption) ?r16re
      case y16re => (intro x hx; (try dsimp only at hx); go_simp; try with_reducible rfl)
      try simp only [Act.put, List.setIfInBounds_toArray, List.set_cons_zero, List.set_cons_succ]
      refine wpAnyH_done (by kernel_rfl) ?_ _
      go_wp2
      go_ret
      exact ⟨rfl, HQx4.out.bel⟩

end Go.Proofs.Ytjginocbbnmgaaa
