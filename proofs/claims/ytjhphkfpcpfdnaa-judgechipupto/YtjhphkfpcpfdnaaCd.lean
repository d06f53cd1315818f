/-
  SEAT Ytjhphkfpcpfdnaa: a command is counted, and what meets it.
-/
import Derived.Test.YtjhphkfpcpfdnaaCc
import Derived.Test.YtjhphkfpcpfdnaaCb
namespace Go.Proofs.Ytjhphkfpcpfdnaa
open Go.RowKit Go.Conc
set_option linter.unusedVariables false


theorem set4 {w : World} {g : Nat} {c0 c1 c2 c3 : Value} {T : TypeId} (h : w.heap[g]? = some (.cells #[c0, c1, c2, c3] T (0, 0))) (v0 v1 v2 v3 : Value) : ((((w.setCell ⟨g, 0, none⟩ v0).setCell ⟨g, 1, none⟩ v1).setCell ⟨g, 2, none⟩ v2).setCell ⟨g, 3, none⟩ v3).heap[g]? = some (.cells #[v0, v1, v2, v3] T (0, 0)) :=
  heap_setCell_same _ g 3 #[v0, v1, v2, c3] T _ (heap_setCell_same _ g 2 #[v0, v1, c2, c3] T _ (heap_setCell_same _ g 1 #[v0, c1, c2, c3] T _ (heap_setCell_same w g 0 _ T _ h)))
theorem only4 (w : World) (g : Nat) (v0 v1 v2 v3 : Value) : Only (· = g) w ((((w.setCell ⟨g, 0, none⟩ v0).setCell ⟨g, 1, none⟩ v1).setCell ⟨g, 2, none⟩ v2).setCell ⟨g, 3, none⟩ v3) :=
  (((Only.setCell (· = g) w g 0 v0 rfl).trans' (Only.setCell _ _ g 1 v1 rfl)).trans' (Only.setCell _ _ g 2 v2 rfl)).trans' (Only.setCell _ _ g 3 v3 rfl)
theorem CAt.k12 {w : World} {p : Nat} {F : Nat → Prop} {C : Ch} {x : Bx} {bs : List Bc} {fe : List Fe} (h : CAt w p F C x bs fe) : w.cell? ⟨p, 12, none⟩ = some (.int .i64 (C.cnt : Int)) := by
  have h9 := h.box.c12
  rw [h.cnt] at h9
  exact h9
theorem cells4 {w : World} {g : Nat} {c0 c1 c2 c3 : Value} {T : TypeId} {fr : Nat × Nat} (h : w.heap[g]? = some (.cells #[c0, c1, c2, c3] T fr)) : w.cell? ⟨g, 0, none⟩ = some c0 ∧ w.cell? ⟨g, 1, none⟩ = some c1 ∧ w.cell? ⟨g, 2, none⟩ = some c2 ∧ w.cell? ⟨g, 3, none⟩ = some c3 := by
  simp [World.cell?, h]

set_option maxRecDepth 100000 in
set_option maxHeartbeats 1000000 in
theorem take_any (w : World) (p : Nat) (F : Nat → Prop) (C : Ch) (x : Bx) (bs : List Bc) (fe : List Fe) (h : CAt w p F C x bs fe) (hcn : C.cnt ≤ 4000000000000) :
    Calls Try.prog 57 #[.pointer (some ⟨p, 0, none⟩)] w fun e w' => ∃ v x', e = .returned v ∧ FtOk w' F v (takeF C.cnt C.q) ∧ CAt w' p F { C with q := takeR C.cnt C.q, cnt := C.cnt + 1 } x' bs fe ∧ x'.gb = x.gb ∧ Only (fun k => k = p ∨ k = x.c) w w' := by
  have hp := h.box.lt
  have HC : Hid (CAt (w.alloc (.cells #[.int .i64 0, .int .i64 0, .slice none 0 0, .int .u8 0] 67)).drew p F C x bs fe) := h.below ⟨rfl, rfl, rfl, by simp, fun j hj => alloc_old _ _ hj⟩
  have HC1 : Hid (CAt ((w.alloc (.cells #[.int .i64 0, .int .i64 0, .slice none 0 0, .int .u8 0] 67)).alloc (.cells #[.int .i64 0, .int .i64 0, .slice none 0 0, .int .u8 0] 67)).drew p F C x bs fe) := (h.below (below_alloc _ _)).below (below_trans (below_alloc _ _) (drew_below _))
  have c12 := HC.out.box.c12
  rw [HC.out.cnt] at c12
  have hc2 : (C.cnt : Int) ≤ 4000000000000 := by omega
  have HFW : Hid (∀ k, F k → k < w.heap.size) := h.fin
  clear h
  go_enter Try.func57, Try.ntmps57
  go_wp2
  refine wp_region_held_drew (S := (fun u => u.cell? ⟨p, 12, none⟩ = some (.int .i64 (C.cnt : Int)))) (by kernel_rfl) (c12) (fun hHeld => ?_)
  refine wpAnyH_take (i := 0) (oi := { dst := some 4, op := Op.move (Operand.tmp 0), type := 27, pos := "commands.go:107", after := #[], guard := none }) (v := ?v0) rfl (by kernel_rfl) (by kernel_rfl) (by kernel_rfl) (fun _ _ _ h => h) (Or.inl ⟨by rfl, ?y0⟩) (by assumption) ?r0
  case y0 => (intro x hx; (try dsimp only at hx); go_simp; try with_reducible rfl)
  try simp only [Act.put, List.setIfInBounds_toArray, List.set_cons_zero, List.set_cons_succ]
  refine wpAnyH_take (i := 1) (oi := { dst := some 5, op := Op.nilCheck (Operand.tmp 4), type := 0, pos := "commands.go:107", after := #[{ on := 0, ground := Ground.data }], guard := none }) (v := ?v1) rfl (by kernel_rfl) (by kernel_rfl) (by kernel_rfl) (fun _ _ _ h => h) (Or.inl ⟨by rfl, ?y1⟩) (by assumption) ?r1
  case y1 => (intro x hx; (try dsimp only at hx); go_simp; try with_reducible rfl)
  try simp only [Act.put, List.setIfInBounds_toArray, List.set_cons_zero, List.set_cons_succ]
  refine wpAnyH_take (i := 2) (oi := { dst := some 6, op := Op.fieldAddr 71 (Operand.tmp 5) 3, type := 0, pos := "commands.go:107", after := #[{ on := 1, ground := Ground.data }], guard := none }) (v := ?v2) rfl (by kernel_rfl) (by kernel_rfl) (by kernel_rfl) (fun _ _ _ h => h) (Or.inl ⟨by rfl, ?y2⟩) (by assumption) ?r2
  case y2 => (intro x hx; (try dsimp only at hx); go_simp; try with_reducible rfl)
  try simp only [Act.put, List.setIfInBounds_toArray, List.set_cons_zero, List.set_cons_succ]
  refine wpAnyH_take (i := 3) (oi := { dst := some 7, op := Op.move (Operand.tmp 0), type := 27, pos := "commands.go:107", after := #[], guard := none }) (v := ?v3) rfl (by kernel_rfl) (by kernel_rfl) (by kernel_rfl) (fun _ _ _ h => h) (Or.inl ⟨by rfl, ?y3⟩) (by assumption) ?r3
  case y3 => (intro x hx; (try dsimp only at hx); go_simp; try with_reducible rfl)
  try simp only [Act.put, List.setIfInBounds_toArray, List.set_cons_zero, List.set_cons_succ]
  refine wpAnyH_take (i := 4) (oi := { dst := some 8, op := Op.nilCheck (Operand.tmp 7), type := 0, pos := "commands.go:107", after := #[{ on := 3, ground := Ground.data }], guard := none }) (v := ?v4) rfl (by kernel_rfl) (by kernel_rfl) (by kernel_rfl) (fun _ _ _ h => h) (Or.inl ⟨by rfl, ?y4⟩) (by assumption) ?r4
  case y4 => (intro x hx; (try dsimp only at hx); go_simp; try with_reducible rfl)
  try simp only [Act.put, List.setIfInBounds_toArray, List.set_cons_zero, List.set_cons_succ]
  refine wpAnyH_take (i := 5) (oi := { dst := some 9, op := Op.fieldAddr 71 (Operand.tmp 8) 5, type := 0, pos := "commands.go:107", after := #[{ on := 4, ground := Ground.data }], guard := none }) (v := ?v5) rfl (by kernel_rfl) (by kernel_rfl) (by kernel_rfl) (fun _ _ _ h => h) (Or.inl ⟨by rfl, ?y5⟩) (by assumption) ?r5
  case y5 => (intro x hx; (try dsimp only at hx); go_simp; try with_reducible rfl)
  try simp only [Act.put, List.setIfInBounds_toArray, List.set_cons_zero, List.set_cons_succ]
  refine wpAnyH_take (i := 6) (oi := { dst := some 10, op := Op.load 3 (Operand.tmp 9), type := 3, pos := "commands.go:107", after := #[{ on := 5, ground := Ground.data }], guard := none }) (v := ?v6) rfl (by kernel_rfl) (by kernel_rfl) (by kernel_rfl) (fun _ _ _ h => h) (Or.inl ⟨by rfl, ?y6⟩) (by assumption) ?r6
  case y6 => (intro x hx; (try dsimp only at hx); go_simp; try with_reducible rfl)
  try simp only [Act.put, List.setIfInBounds_toArray, List.set_cons_zero, List.set_cons_succ]
  refine wpAnyH_ready (rs := [7, 8]) (by kernel_rfl) (by simp) ?_
  refine AllReadyH.cons (o := { dst := some 11, op := Op.call { callee := Callee.value (Operand.func 65), args := #[Operand.tmp 6, Operand.tmp 10], argTypes := #[69, 3] }, type := 67, pos := "commands.go:107", after := #[{ on := 2, ground := Ground.data }, { on := 6, ground := Ground.data }], guard := none }) rfl (fun K hK => ?_) (AllReadyH.cons (o := { dst := some 3, op := Op.alloc 67, type := 0, pos := "commands.go:107", after := #[], guard := none }) rfl (fun K hK => ?_) AllReadyH.nil)
  · go_simp
    go_at_call 65
    refine (meets_q _ F x p C.q (C.cnt : Int) HC.out.box HC.out.q).mono ?_
    rintro e u1 ⟨v, x2, rfl, vk, k1, k2, k3, k4, k5⟩
    obtain ⟨ma, ml, mc, hve, mok, mle⟩ := vk.ex
    have hvf := vk.fill
    obtain ⟨fa, hfa⟩ : ∃ z, (takeF (C.cnt : Int) C.q).a = z := ⟨_, rfl⟩
    obtain ⟨fk, hfk⟩ : ∃ z, (takeF (C.cnt : Int) C.q).k = z := ⟨_, rfl⟩
    obtain ⟨ff, hff⟩ : ∃ z, (takeF (C.cnt : Int) C.q).f = z := ⟨_, rfl⟩
    rw [hfa, hfk, hff] at hve
    subst hve
    have HC2 := hide (HC.out.script k5 k4.size k1 k3 k2)
    have HO := hide k4
    have HS2 := hide k3
    have hSnew := HC2.out.k12
    have HV := hide vk
    have HE := hide (And.intro hfa (And.intro hfk hff))
    clear vk mok mle hvf k1 k2 k3 k4 k5 hfa hfk hff
    go_wp2_with fail
    refine hK.out _ _ hSnew (fun hHeld7 => ?_)
    clear hK K hSnew hHeld
    have hHeld := hHeld7
    clear hHeld7
    try simp only [Act.put, List.setIfInBounds_toArray, List.set_cons_zero, List.set_cons_succ]
    refine wpAnyH_ready (rs := [8]) (by kernel_rfl) (by simp) ?_
    refine AllReadyH.cons (o := { dst := some 3, op := Op.alloc 67, type := 0, pos := "commands.go:107", after := #[], guard := none }) rfl (fun K hK => ?_) AllReadyH.nil
    go_simp
    go_wp2_with fail
    have hSnew := (HC2.out.below (below_alloc _ (.cells #[.int .i64 0, .int .i64 0, .slice none 0 0, .int .u8 0] 67))).k12
    refine hK.out _ _ hSnew (fun hHeld8 => ?_)
    clear hK K hSnew hHeld
    have hHeld := hHeld8
    clear hHeld8
    try simp only [Act.put, List.setIfInBounds_toArray, List.set_cons_zero, List.set_cons_succ]
    refine wpAnyH_ready (rs := [9]) (by kernel_rfl) (by simp) ?_
    refine AllReadyH.cons (o := { dst := none, op := Op.store 67 (Operand.tmp 3) (Operand.tmp 11), type := 0, pos := "commands.go:107", after := #[{ on := 8, ground := Ground.data }, { on := 7, ground := Ground.data }, { on := 7, ground := Ground.chain }, { on := 0, ground := Ground.phase }, { on := 1, ground := Ground.phase }, { on := 2, ground := Ground.phase }, { on := 3, ground := Ground.phase }, { on := 4, ground := Ground.phase }, { on := 5, ground := Ground.phase }, { on := 6, ground := Ground.phase }, { on := 7, ground := Ground.phase }, { on := 8, ground := Ground.phase }], guard := none }) rfl (fun K hK => ?_) AllReadyH.nil
    go_simp
    go_wp2_with fail
    have hSnew := (HC2.out.below (below_alloc _ (.cells #[.int .i64 fa, .int .i64 fk, .slice ma ml mc, .int .u8 ff] 67))).k12
    refine hK.out _ _ hSnew (fun hHeld9 => ?_)
    clear hK K hSnew hHeld
    have hHeld := hHeld9
    clear hHeld9
    try simp only [Act.put, List.setIfInBounds_toArray, List.set_cons_zero, List.set_cons_succ]
    have TC := HC2.out.below (below_alloc _ (.cells #[.int .i64 fa, .int .i64 fk, .slice ma ml mc, .int .u8 ff] 67))
    have f0 := alloc_new u1 (.cells #[.int .i64 fa, .int .i64 fk, .slice ma ml mc, .int .u8 ff] 67)
    have r0 : (u1.alloc (.cells #[.int .i64 fa, .int .i64 fk, .slice ma ml mc, .int .u8 ff] 67)).heap[w.heap.size]? = some (.cells #[.int .i64 0, .int .i64 0, .slice none 0 0, .int .u8 0] 67 (0, 0)) := (alloc_old _ _ (by have := HO.out.size; simp at this; omega)).trans ((HO.out.block _ (by simp) (by have h1 := HC.out.fin _ HC.out.q.fc; have h2 := HFW.out _ HC.out.q.fc; omega)).trans (alloc_new w (.cells #[.int .i64 0, .int .i64 0, .slice none 0 0, .int .u8 0] 67)))
    have OT : Only (fun k => k = p ∨ k = x.c) w (u1.alloc (.cells #[.int .i64 fa, .int .i64 fk, .slice ma ml mc, .int .u8 ff] 67)) := ((Only.ofB (below_trans (below_alloc w (.cells #[.int .i64 0, .int .i64 0, .slice none 0 0, .int .u8 0] 67)) (drew_below _))).trans HO.out (fun _ _ h => h)).trans (Only.ofB (F := fun _ => False) (below_alloc _ _)) (fun _ _ h => h.elim)
    have HKV : Hid (∀ k, F k → (u1.alloc (.cells #[.int .i64 fa, .int .i64 fk, .slice ma ml mc, .int .u8 ff] 67)).heap[k]? = u1.heap[k]?) := fun k hk => alloc_old _ _ (HC2.out.fin k hk)
    refine wpAnyH_done (by kernel_rfl) ?_ _
    clear hHeld c12 HC HC1
    obtain ⟨t, ht⟩ : ∃ t, t = u1.alloc (.cells #[.int .i64 fa, .int .i64 fk, .slice ma ml mc, .int .u8 ff] 67) := ⟨_, rfl⟩
    rw [← ht] at TC r0 f0 OT HKV ⊢
    clear ht
    have d12 := TC.k12
    have fz := TC.box.fz 12
    obtain ⟨q0, q1, q2, q3⟩ := cells4 r0
    obtain ⟨g0, g1, g2, g3⟩ := cells4 f0
    have n1 : u1.heap.size ≠ p := fun e => (tag_ne f0 TC.box (t := 67) (u := 71) rfl rfl (by decide)) e
    have n2 : w.heap.size ≠ p := fun e => (tag_ne r0 TC.box (t := 67) (u := 71) rfl rfl (by decide)) e
    have fq := fun j => frozen_of_row t w.heap.size j _ 67 r0
    have HT := hide TC
    have HR0 := hide r0
    have HOT := hide OT
    clear TC r0 f0 OT
    go_wp2
    have hX := (HT.out.box.setCnt ((C.cnt : Int) + 1))
    generalize hz : World.setCell t ⟨p, 12, none⟩ _ = z at hX ⊢
    have oz : Only (· = p) t z := by rw [← hz]; exact Only.setCell (· = p) t p 12 _ rfl
    have rz := (oz.block w.heap.size (lt_of_block HR0.out) n2).trans HR0.out
    have rs4 := set4 rz (.int .i64 fa) (.int .i64 fk) (.slice ma ml mc) (.int .u8 ff)
    have os4 := only4 z w.heap.size (.int .i64 fa) (.int .i64 fk) (.slice ma ml mc) (.int .u8 ff)
    generalize hy : World.setCell _ ⟨w.heap.size, 3, none⟩ _ = y at rs4 os4 ⊢
    have CZ : CAt z p F { C with q := takeR C.cnt C.q, cnt := C.cnt + 1 } _ bs fe := HT.out.box2 (HT.out.onlyBox oz (fun k hk => hk)) oz.size hX ⟨rfl, rfl, rfl, rfl, rfl, rfl, rfl⟩ ⟨rfl, rfl, rfl, rfl, rfl, rfl, rfl⟩ ⟨rfl, rfl, rfl⟩ HT.out.dark (by simp) ⟨rfl, rfl, rfl, rfl, rfl, rfl, rfl⟩
    have fw : ∀ k, F k → k ≠ w.heap.size := fun k hk e => by have h1 := HFW.out k hk; omega
    have CY := CZ.keep (w' := y) (fun k hk => os4.block k (CZ.fin k hk) (fw k hk)) (fun _ h => h) (fun k hk => Nat.lt_of_lt_of_le (CZ.fin k hk) os4.size)
    have oy : Only (fun k => k = p ∨ k = x.c) w y := (HOT.out.trans oz (fun j _ e => Or.inl e)).trans os4 (fun j hj e => absurd e (by omega))
    have vy : FtOk y F (.agg #[.int .i64 fa, .int .i64 fk, .slice ma ml mc, .int .u8 ff]) (takeF C.cnt C.q) := by
      have v1 := HV.out.keep (T := fun _ => False) (KeepT.of (fun k hk => HKV.out k hk) _) (fun h => h) (fun _ h => h)
      have v2 := v1.keep (HT.out.onlyBox oz (fun k hk => hk)) (by decide) (fun _ h => h)
      exact v2.keep (KeepT.of (fun k hk => os4.block k (CZ.fin k hk) (fw k hk)) (fun _ => False)) (fun h => h) (fun _ h => h)
    obtain ⟨y0, y1, y2, y3⟩ := cells4 rs4
    refine bodyPost_ret (v := .agg #[.int .i64 fa, .int .i64 fk, .slice ma ml mc, .int .u8 ff]) (by simp [results, Try.results57, go_sem, y0, y1, y2, y3]) rfl ?_
    exact ⟨_, rfl, vy, _, CY, HS2.out.e.2.2.2.1, oy⟩
  · go_simp
    go_wp2_with fail
    have hSnew := HC1.out.k12
    refine hK.out _ _ hSnew (fun hHeld8 => ?_)
    clear hK K hSnew hHeld
    have hHeld := hHeld8
    clear hHeld8
    try simp only [Act.put, List.setIfInBounds_toArray, List.set_cons_zero, List.set_cons_succ]
    refine wpAnyH_ready (rs := [7]) (by kernel_rfl) (by simp) ?_
    refine AllReadyH.cons (o := { dst := some 11, op := Op.call { callee := Callee.value (Operand.func 65), args := #[Operand.tmp 6, Operand.tmp 10], argTypes := #[69, 3] }, type := 67, pos := "commands.go:107", after := #[{ on := 2, ground := Ground.data }, { on := 6, ground := Ground.data }], guard := none }) rfl (fun K hK => ?_) AllReadyH.nil
    go_simp
    go_at_call 65
    refine (meets_q _ F x p C.q (C.cnt : Int) HC1.out.box HC1.out.q).mono ?_
    rintro e u1 ⟨v, x2, rfl, vk, k1, k2, k3, k4, k5⟩
    obtain ⟨ma, ml, mc, hve, mok, mle⟩ := vk.ex
    have hvf := vk.fill
    obtain ⟨fa, hfa⟩ : ∃ z, (takeF (C.cnt : Int) C.q).a = z := ⟨_, rfl⟩
    obtain ⟨fk, hfk⟩ : ∃ z, (takeF (C.cnt : Int) C.q).k = z := ⟨_, rfl⟩
    obtain ⟨ff, hff⟩ : ∃ z, (takeF (C.cnt : Int) C.q).f = z := ⟨_, rfl⟩
    rw [hfa, hfk, hff] at hve
    subst hve
    have HC2 := hide (HC1.out.script k5 k4.size k1 k3 k2)
    have HO := hide k4
    have HS2 := hide k3
    have hSnew := HC2.out.k12
    have HV := hide vk
    have HE := hide (And.intro hfa (And.intro hfk hff))
    clear vk mok mle hvf k1 k2 k3 k4 k5 hfa hfk hff
    go_wp2_with fail
    have b0 : u1.heap[w.heap.size + 1]? = some (.cells #[.int .i64 0, .int .i64 0, .slice none 0 0, .int .u8 0] 67 (0, 0)) := (HO.out.block _ (by simp) (by have h1 := HFW.out _ HC1.out.q.fc; omega)).trans (by have h2 := alloc_new (w.alloc (.cells #[.int .i64 0, .int .i64 0, .slice none 0 0, .int .u8 0] 67)) (.cells #[.int .i64 0, .int .i64 0, .slice none 0 0, .int .u8 0] 67); rw [alloc_size] at h2; exact h2)
    have a0 : u1.heap[w.heap.size]? = some (.cells #[.int .i64 0, .int .i64 0, .slice none 0 0, .int .u8 0] 67 (0, 0)) := (HO.out.block _ (by simp; omega) (by have h1 := HFW.out _ HC1.out.q.fc; omega)).trans ((alloc_old _ _ (by simp)).trans (alloc_new w (.cells #[.int .i64 0, .int .i64 0, .slice none 0 0, .int .u8 0] 67)))
    obtain ⟨p0, p1, p2, p3⟩ := cells4 b0
    have fp := fun j => frozen_of_row u1 (w.heap.size + 1) j _ 67 b0
    have HB0 := hide b0
    have HA0 := hide a0
    clear b0 a0
    refine hK.out _ _ hSnew (fun hHeld7 => ?_)
    clear hK K hSnew hHeld
    have hHeld := hHeld7
    clear hHeld7
    try simp only [Act.put, List.setIfInBounds_toArray, List.set_cons_zero, List.set_cons_succ]
    refine wpAnyH_ready (rs := [9]) (by kernel_rfl) (by simp) ?_
    refine AllReadyH.cons (o := { dst := none, op := Op.store 67 (Operand.tmp 3) (Operand.tmp 11), type := 0, pos := "commands.go:107", after := #[{ on := 8, ground := Ground.data }, { on := 7, ground := Ground.data }, { on := 7, ground := Ground.chain }, { on := 0, ground := Ground.phase }, { on := 1, ground := Ground.phase }, { on := 2, ground := Ground.phase }, { on := 3, ground := Ground.phase }, { on := 4, ground := Ground.phase }, { on := 5, ground := Ground.phase }, { on := 6, ground := Ground.phase }, { on := 7, ground := Ground.phase }, { on := 8, ground := Ground.phase }], guard := none }) rfl (fun K hK => ?_) AllReadyH.nil
    go_simp
    go_wp2_with fail
    have o9 := only4 u1 (w.heap.size + 1) (.int .i64 fa) (.int .i64 fk) (.slice ma ml mc) (.int .u8 ff)
    have f9 := set4 HB0.out (.int .i64 fa) (.int .i64 fk) (.slice ma ml mc) (.int .u8 ff)
    have C9 := HC2.out.keep (G := F) (fun k hk => o9.block k (HC2.out.fin k hk) (fun e => by have h1 := HFW.out k hk; omega)) (fun _ h => h) (fun k hk => Nat.lt_of_lt_of_le (HC2.out.fin k hk) o9.size)
    have hSnew := C9.k12
    have O9 := hide o9
    have F9 := hide f9
    have HC9 := hide C9
    clear o9 f9 C9 p0 p1 p2 p3 fp
    refine hK.out _ _ hSnew (fun hHeld9 => ?_)
    clear hK K hSnew hHeld
    have hHeld := hHeld9
    clear hHeld9
    try simp only [Act.put, List.setIfInBounds_toArray, List.set_cons_zero, List.set_cons_succ]
    have TC := HC9.out
    have f0 := F9.out
    have r0 := (O9.out.block w.heap.size (lt_of_block HA0.out) (by omega)).trans HA0.out
    have OT := ((Only.ofB (F := fun k => k = p ∨ k = x.c) (below_trans (below_trans (below_alloc w (.cells #[.int .i64 0, .int .i64 0, .slice none 0 0, .int .u8 0] 67)) (below_alloc _ (.cells #[.int .i64 0, .int .i64 0, .slice none 0 0, .int .u8 0] 67))) (drew_below _))).trans HO.out (fun _ _ h => h)).trans O9.out (fun j hj e => absurd e (by omega))
    have HKV : Hid (∀ k, F k → ((((u1.setCell ⟨w.heap.size + 1, 0, none⟩ (.int .i64 fa)).setCell ⟨w.heap.size + 1, 1, none⟩ (.int .i64 fk)).setCell ⟨w.heap.size + 1, 2, none⟩ (.slice ma ml mc)).setCell ⟨w.heap.size + 1, 3, none⟩ (.int .u8 ff)).heap[k]? = u1.heap[k]?) := fun k hk => O9.out.block k (HC2.out.fin k hk) (fun e => by have h1 := HFW.out k hk; omega)
    refine wpAnyH_done (by kernel_rfl) ?_ _
    clear hHeld c12 HC HC1
    obtain ⟨t, ht⟩ : ∃ t, t = ((((u1.setCell ⟨w.heap.size + 1, 0, none⟩ (.int .i64 fa)).setCell ⟨w.heap.size + 1, 1, none⟩ (.int .i64 fk)).setCell ⟨w.heap.size + 1, 2, none⟩ (.slice ma ml mc)).setCell ⟨w.heap.size + 1, 3, none⟩ (.int .u8 ff)) := ⟨_, rfl⟩
    rw [← ht] at TC r0 f0 OT HKV ⊢
    clear ht
    have d12 := TC.k12
    have fz := TC.box.fz 12
    obtain ⟨q0, q1, q2, q3⟩ := cells4 r0
    obtain ⟨g0, g1, g2, g3⟩ := cells4 f0
    have n1 : (w.heap.size + 1) ≠ p := fun e => (tag_ne f0 TC.box (t := 67) (u := 71) rfl rfl (by decide)) e
    have n2 : w.heap.size ≠ p := fun e => (tag_ne r0 TC.box (t := 67) (u := 71) rfl rfl (by decide)) e
    have fq := fun j => frozen_of_row t w.heap.size j _ 67 r0
    have HT := hide TC
    have HR0 := hide r0
    have HOT := hide OT
    clear TC r0 f0 OT
    go_wp2
    have hX := (HT.out.box.setCnt ((C.cnt : Int) + 1))
    generalize hz : World.setCell t ⟨p, 12, none⟩ _ = z at hX ⊢
    have oz : Only (· = p) t z := by rw [← hz]; exact Only.setCell (· = p) t p 12 _ rfl
    have rz := (oz.block w.heap.size (lt_of_block HR0.out) n2).trans HR0.out
    have rs4 := set4 rz (.int .i64 fa) (.int .i64 fk) (.slice ma ml mc) (.int .u8 ff)
    have os4 := only4 z w.heap.size (.int .i64 fa) (.int .i64 fk) (.slice ma ml mc) (.int .u8 ff)
    generalize hy : World.setCell _ ⟨w.heap.size, 3, none⟩ _ = y at rs4 os4 ⊢
    have CZ : CAt z p F { C with q := takeR C.cnt C.q, cnt := C.cnt + 1 } _ bs fe := HT.out.box2 (HT.out.onlyBox oz (fun k hk => hk)) oz.size hX ⟨rfl, rfl, rfl, rfl, rfl, rfl, rfl⟩ ⟨rfl, rfl, rfl, rfl, rfl, rfl, rfl⟩ ⟨rfl, rfl, rfl⟩ HT.out.dark (by simp) ⟨rfl, rfl, rfl, rfl, rfl, rfl, rfl⟩
    have fw : ∀ k, F k → k ≠ w.heap.size := fun k hk e => by have h1 := HFW.out k hk; omega
    have CY := CZ.keep (w' := y) (fun k hk => os4.block k (CZ.fin k hk) (fw k hk)) (fun _ h => h) (fun k hk => Nat.lt_of_lt_of_le (CZ.fin k hk) os4.size)
    have oy : Only (fun k => k = p ∨ k = x.c) w y := (HOT.out.trans oz (fun j _ e => Or.inl e)).trans os4 (fun j hj e => absurd e (by omega))
    have vy : FtOk y F (.agg #[.int .i64 fa, .int .i64 fk, .slice ma ml mc, .int .u8 ff]) (takeF C.cnt C.q) := by
      have v1 := HV.out.keep (T := fun _ => False) (KeepT.of (fun k hk => HKV.out k hk) _) (fun h => h) (fun _ h => h)
      have v2 := v1.keep (HT.out.onlyBox oz (fun k hk => hk)) (by decide) (fun _ h => h)
      exact v2.keep (KeepT.of (fun k hk => os4.block k (CZ.fin k hk) (fw k hk)) (fun _ => False)) (fun h => h) (fun _ h => h)
    obtain ⟨y0, y1, y2, y3⟩ := cells4 rs4
    refine bodyPost_ret (v := .agg #[.int .i64 fa, .int .i64 fk, .slice ma ml mc, .int .u8 ff]) (by simp [results, Try.results57, go_sem, y0, y1, y2, y3]) rfl ?_
    exact ⟨_, rfl, vy, _, CY, HS2.out.e.2.2.2.1, oy⟩
end Go.Proofs.Ytjhphkfpcpfdnaa
