/-
  SEAT YteefekhlbillfaaDoor: copied: an image in lists of its own.
-/
import Derived.Test.YteefekhlbillfaaDoorZb
import Derived.Test.YteefekhlbillfaaDoorDi
namespace Go.Proofs.YteefekhlbillfaaDoor
open Go.RowKit
set_option linter.unusedVariables false

theorem rowG_other {w w' : World} {B n sz n' sz' B' : Nat} {v v' : Value} {xs ys : List Value} {e e' : TypeId} (h : w.ownsRow B e sz v n xs) (hg : w.grownBy w' v'.ownBlock) (h' : w.ownsRow B' e' sz' v' n' ys) (hne : e' ≠ e) : w'.ownsRow B e sz v n xs := by
  refine h.kept hg ?_
  rcases h.2 with ⟨hv, _⟩ | ⟨g, cap, cur, hv, _, hb, _⟩
  · rw [hv]; exact Or.inl rfl
  · rw [hv]
    refine Or.inr fun e9 => ?_
    rcases h'.2 with ⟨hv', _⟩ | ⟨g', cap', cur', hv', _, hb', _⟩
    · rw [hv'] at e9; cases e9
    · rw [hv'] at e9
      have e8 : g = g' := Option.some.inj e9
      rw [e8, hb'] at hb
      injection hb with hb
      injection hb with _ h8 _
      exact hne h8
theorem ownB_shape {w : World} {B n : Nat} {v : Value} {xs : List Value} (h : w.ownsRow B 4 1 v n xs) (hn : 0 < n) : ∃ g cap, v = .slice (some ⟨g, 0, none⟩) n cap ∧ B ≤ g ∧ g < w.heap.size := by
  rcases h.2 with ⟨_, h0⟩ | ⟨g, cap, cur, hv, hb, hg, hnc, hcm, _⟩
  · omega
  · exact ⟨g, cap, hv, hb, (Array.getElem?_eq_some_iff.1 hg).1⟩

set_option maxHeartbeats 4000000 in
set_option maxRecDepth 100000 in
theorem copied_any (b p s : Int) (bk off n c mb mo m c' : Nat) (zs : List Int) (bs : List Bool) (w : World) (hn : n ≤ 140737488355000) (hm : m ≤ 140737488355000) (hr : Reads w (some ⟨bk, off, none⟩) n zs) (hrb : ReadsB w (some ⟨mb, mo, none⟩) m bs) (hn0 : 0 < n) (hm0 : 0 < m) :
    Calls Tryd.prog 15 #[.agg #[.int .i64 b, .int .i64 p, .int .i64 s, .slice (some ⟨bk, off, none⟩) n c, .slice (some ⟨mb, mo, none⟩) m c']] w fun e w' => ∃ g cc gm cm, e = .returned (.agg #[.int .i64 b, .int .i64 p, .int .i64 s, .slice (some ⟨g, 0, none⟩) n cc, .slice (some ⟨gm, 0, none⟩) m cm]) ∧ Own w' w.heap.size g n cc zs ∧ OwnB w' w.heap.size gm m cm bs ∧ Below w.heap.size w w' := by
  obtain ⟨i0, hi, hz0, hz1, hz2⟩ := info_parts info5
  obtain ⟨j0, kj, kz0, kz1, kz2⟩ := info_parts info4
  have HRD : Hid (Reads w (some ⟨bk, off, none⟩) n zs) := hr
  have HRB : Hid (ReadsB w (some ⟨mb, mo, none⟩) m bs) := hrb
  clear hr hrb
  go_enter Tryd.func15, Tryd.ntmps15
  go_upto_region 1 with fail
  obtain ⟨X, hX⟩ : ∃ X, ((w.alloc (.cells #[.int .i64 b, .int .i64 p, .int .i64 s, .slice (some ⟨bk, off, none⟩) n c, .slice (some ⟨mb, mo, none⟩) m c'] 30)).alloc (.cells #[.int .i64 0, .int .i64 0, .int .i64 0, .slice none 0 0, .slice none 0 0] 30)) = X := ⟨_, rfl⟩
  have HB : Hid (Below w.heap.size w X.drew) := by unfold Hid; rw [← hX]; exact (below_trans (below_alloc w _) (below_alloc _ _)).drew
  have HA : Hid (X.drew.heap[w.heap.size]? = some (.cells #[.int .i64 b, .int .i64 p, .int .i64 s, .slice (some ⟨bk, off, none⟩) n c, .slice (some ⟨mb, mo, none⟩) m c'] 30 (0, 0))) := by unfold Hid; rw [← hX]; exact (Below.heap_alloc _ _ _ (by simp)).trans (heap_alloc_new w _)
  have HZ : Hid (X.drew.heap[w.heap.size + 1]? = some (.cells #[.int .i64 0, .int .i64 0, .int .i64 0, .slice none 0 0, .slice none 0 0] 30 (0, 0))) := by
    unfold Hid
    rw [← hX]
    have h9 := heap_alloc_new (w.alloc (.cells #[.int .i64 b, .int .i64 p, .int .i64 s, .slice (some ⟨bk, off, none⟩) n c, .slice (some ⟨mb, mo, none⟩) m c'] 30)) (.cells #[.int .i64 0, .int .i64 0, .int .i64 0, .slice none 0 0, .slice none 0 0] 30)
    rw [World.size_alloc] at h9
    exact h9
  have HS : Hid (w.heap.size + 2 ≤ X.drew.heap.size) := by unfold Hid; rw [← hX]; simp
  rw [hX]
  clear hX
  refine wp_region_held_drew (S := (fun y : World => y.cell? ⟨w.heap.size, 0, none⟩ = some (.int .i64 b) ∧ y.cell? ⟨w.heap.size, 1, none⟩ = some (.int .i64 p) ∧ y.cell? ⟨w.heap.size, 2, none⟩ = some (.int .i64 s) ∧ y.cell? ⟨w.heap.size, 3, none⟩ = some (.slice (some ⟨bk, off, none⟩) n c) ∧ y.cell? ⟨w.heap.size, 4, none⟩ = some (.slice (some ⟨mb, mo, none⟩) m c'))) (by kernel_rfl) (cells5 HA.out) (fun hHeld => ?_)
  obtain ⟨X2, hX⟩ : ∃ X2, X.drew = X2 := ⟨_, rfl⟩
  rw [hX] at HB HA HZ HS hHeld ⊢
  clear hX X
  obtain ⟨X, hX⟩ : ∃ X, X = X2 := ⟨_, rfl⟩
  subst hX
  refine wpAnyH_take (i := 0) (oi := { dst := some 3, op := Op.fieldAddr 30 (Operand.tmp 1) 0, type := 0, pos := "own.go:97", after := #[], guard := none }) (v := ?v0p) rfl (by kernel_rfl) (by kernel_rfl) (by kernel_rfl) (fun _ _ _ h => h) (Or.inl ⟨by rfl, ?y0p⟩) (by assumption) ?r0p
  case y0p => (intro x hx; (try dsimp only at hx); go_simp; try with_reducible rfl)
  try simp only [Act.put, List.setIfInBounds_toArray, List.set_cons_zero, List.set_cons_succ]
  refine wpAnyH_take (i := 1) (oi := { dst := some 4, op := Op.load 27 (Operand.tmp 3), type := 27, pos := "own.go:97", after := #[{ on := 0, ground := Ground.data }], guard := none }) (v := ?v1p) rfl (by kernel_rfl) (by kernel_rfl) (by kernel_rfl) (fun _ _ _ h => h) (Or.inl ⟨by rfl, ?y1p⟩) (by assumption) ?r1p
  case y1p => (intro x hx; (try dsimp only at hx); go_simp; try with_reducible rfl)
  try simp only [Act.put, List.setIfInBounds_toArray, List.set_cons_zero, List.set_cons_succ]
  refine wpAnyH_take (i := 3) (oi := { dst := some 6, op := Op.fieldAddr 30 (Operand.tmp 1) 1, type := 0, pos := "own.go:97", after := #[], guard := none }) (v := ?v3p) rfl (by kernel_rfl) (by kernel_rfl) (by kernel_rfl) (fun _ _ _ h => h) (Or.inl ⟨by rfl, ?y3p⟩) (by assumption) ?r3p
  case y3p => (intro x hx; (try dsimp only at hx); go_simp; try with_reducible rfl)
  try simp only [Act.put, List.setIfInBounds_toArray, List.set_cons_zero, List.set_cons_succ]
  refine wpAnyH_take (i := 4) (oi := { dst := some 7, op := Op.load 22 (Operand.tmp 6), type := 22, pos := "own.go:97", after := #[{ on := 3, ground := Ground.data }], guard := none }) (v := ?v4p) rfl (by kernel_rfl) (by kernel_rfl) (by kernel_rfl) (fun _ _ _ h => h) (Or.inl ⟨by rfl, ?y4p⟩) (by assumption) ?r4p
  case y4p => (intro x hx; (try dsimp only at hx); go_simp; try with_reducible rfl)
  try simp only [Act.put, List.setIfInBounds_toArray, List.set_cons_zero, List.set_cons_succ]
  refine wpAnyH_take (i := 7) (oi := { dst := some 10, op := Op.fieldAddr 30 (Operand.tmp 1) 2, type := 0, pos := "own.go:97", after := #[], guard := none }) (v := ?v7p) rfl (by kernel_rfl) (by kernel_rfl) (by kernel_rfl) (fun _ _ _ h => h) (Or.inl ⟨by rfl, ?y7p⟩) (by assumption) ?r7p
  case y7p => (intro x hx; (try dsimp only at hx); go_simp; try with_reducible rfl)
  try simp only [Act.put, List.setIfInBounds_toArray, List.set_cons_zero, List.set_cons_succ]
  refine wpAnyH_take (i := 8) (oi := { dst := some 11, op := Op.load 28 (Operand.tmp 10), type := 28, pos := "own.go:97", after := #[{ on := 7, ground := Ground.data }], guard := none }) (v := ?v8p) rfl (by kernel_rfl) (by kernel_rfl) (by kernel_rfl) (fun _ _ _ h => h) (Or.inl ⟨by rfl, ?y8p⟩) (by assumption) ?r8p
  case y8p => (intro x hx; (try dsimp only at hx); go_simp; try with_reducible rfl)
  try simp only [Act.put, List.setIfInBounds_toArray, List.set_cons_zero, List.set_cons_succ]
  refine wpAnyH_ready (rs := [2, 6]) (by kernel_rfl) (by simp) ?_
  refine (AllReadyH.cons (o := { dst := some 5, op := Op.buildSlice 22 0 #[], type := 22, pos := "own.go:97", after := #[], guard := none }) rfl (fun K hK => ?_) (AllReadyH.cons (o := { dst := some 9, op := Op.buildSlice 28 0 #[], type := 28, pos := "own.go:97", after := #[], guard := none }) rfl (fun K hK => ?_) AllReadyH.nil))
  · go_simp
    go_wp2_with fail
    obtain ⟨Y, hY⟩ : ∃ Y, X.alloc (.cells #[] 5) = Y := ⟨_, rfl⟩
    have bl : Below X.heap.size X Y := by rw [← hY]; exact below_alloc X _
    have RV : Hid (Y.ownsRow (w.heap.size + 2) 5 1 (.slice (some ⟨X.heap.size, 0, none⟩) 0 0) 0 []) := by rw [← hY]; exact ownsRow_base (World.ownsRow_made X #[] 0 (Nat.le_refl _) (by simp [maxLen]) rfl) HS.out
    rw [hY]
    have HBx : Hid (Below w.heap.size w Y) := below_trans HB.out bl
    have HAx : Hid (Y.heap[w.heap.size]? = some (.cells #[.int .i64 b, .int .i64 p, .int .i64 s, .slice (some ⟨bk, off, none⟩) n c, .slice (some ⟨mb, mo, none⟩) m c'] 30 (0, 0))) := (bl.block _ (lt_of_b HA.out)).trans HA.out
    have HZx : Hid (Y.heap[w.heap.size + 1]? = some (.cells #[.int .i64 0, .int .i64 0, .int .i64 0, .slice none 0 0, .slice none 0 0] 30 (0, 0))) := (bl.block _ (lt_of_b HZ.out)).trans HZ.out
    have HSx : Hid (w.heap.size + 2 ≤ Y.heap.size) := Nat.le_trans HS.out bl.size
    have hSnew := cells5 HAx.out
    refine hK.out _ _ hSnew (fun hHeld2 => ?_)
    clear hK K hSnew
    clear hHeld
    have hHeld := hHeld2
    clear hHeld2
    try simp only [Act.put, List.setIfInBounds_toArray, List.set_cons_zero, List.set_cons_succ]
    obtain ⟨vV, hvV⟩ : ∃ v, Value.slice (some ⟨X.heap.size, 0, none⟩) 0 0 = v := ⟨_, rfl⟩
    rw [hvV] at RV ⊢
    clear hvV bl hY HB HA HZ HS X
    obtain ⟨X, hX⟩ : ∃ X, X = Y := ⟨_, rfl⟩
    subst hX
    have HB := HBx
    have HA := HAx
    have HZ := HZx
    have HS := HSx
    clear HBx HAx HZx HSx
    refine wpAnyH_ready (rs := [5, 6]) (by kernel_rfl) (by simp) ?_
    refine (AllReadyH.cons (o := { dst := some 8, op := Op.call { callee := Callee.builtin Builtin.append, args := #[Operand.tmp 5, Operand.tmp 7], argTypes := #[22, 22] }, type := 22, pos := "own.go:97", after := #[{ on := 2, ground := Ground.data }, { on := 4, ground := Ground.data }], guard := none }) rfl (fun K hK => ?_) (AllReadyH.cons (o := { dst := some 9, op := Op.buildSlice 28 0 #[], type := 28, pos := "own.go:97", after := #[], guard := none }) rfl (fun K hK => ?_) AllReadyH.nil))
    · refine wp_append_own X (.tmp 5) (.tmp 7) 22 rfl (w.heap.size + 2) 5 i0 (.int .u8 0) 1 1 Tryd.underlying22 hi hz0 hz1 hz2 rfl (by decide) _ 0 [] rfl RV.out ⟨bk, off, none⟩ n c (zs.map (Value.int .u8)) rfl (by rw [List.length_map, Nat.mul_one]; exact (HRD.out.below HB.out).1) (HRD.out.below HB.out).news (by intro u hu; obtain ⟨z, _, rfl⟩ := List.mem_map.1 hu; rfl) (by simp [maxLen]; omega) (by omega) HS.out ?_
      intro vN Y own grow _
      have own2 : Y.ownsRow (w.heap.size + 2) 5 1 vN n (zs.map (Value.int .u8)) := by simpa using own
      have hvb : ∀ g, vV.ownBlock = some g → w.heap.size + 2 ≤ g := fun g hg => (RV.out.lt g hg).1
      have HBx : Hid (Below w.heap.size w Y) := HB.out.grown grow HB.out.size (fun g hg => by have := hvb g hg; omega)
      have HAx : Hid (Y.heap[w.heap.size]? = some (.cells #[.int .i64 b, .int .i64 p, .int .i64 s, .slice (some ⟨bk, off, none⟩) n c, .slice (some ⟨mb, mo, none⟩) m c'] 30 (0, 0))) := (grow.block _ (lt_of_b HA.out) (fun e9 => by have := hvb _ e9.symm; omega)).trans HA.out
      have HZx : Hid (Y.heap[w.heap.size + 1]? = some (.cells #[.int .i64 0, .int .i64 0, .int .i64 0, .slice none 0 0, .slice none 0 0] 30 (0, 0))) := (grow.block _ (lt_of_b HZ.out) (fun e9 => by have := hvb _ e9.symm; omega)).trans HZ.out
      have HSx : Hid (w.heap.size + 2 ≤ Y.heap.size) := Nat.le_trans HS.out grow.size
      have hSnew := cells5 HAx.out
      clear RV hvb grow own
      have RV : Hid (Y.ownsRow (w.heap.size + 2) 5 1 vN n (zs.map (Value.int .u8))) := own2
      clear own2
      refine hK.out _ _ hSnew (fun hHeld5 => ?_)
      clear hK K hSnew
      clear hHeld
      have hHeld := hHeld5
      clear hHeld5
      try simp only [Act.put, List.setIfInBounds_toArray, List.set_cons_zero, List.set_cons_succ]
      obtain ⟨vV, hvV⟩ : ∃ v, v = vN := ⟨_, rfl⟩
      subst hvV
      clear HB HA HZ HS
      obtain ⟨X2, hX⟩ : ∃ X2, X2 = Y := ⟨_, rfl⟩
      subst hX
      clear X
      obtain ⟨X, hX⟩ : ∃ X, X = X2 := ⟨_, rfl⟩
      subst hX
      have HB := HBx
      have HA := HAx
      have HZ := HZx
      have HS := HSx
      clear HBx HAx HZx HSx
      refine wpAnyH_ready (rs := [6]) (by kernel_rfl) (by simp) ?_
      refine (AllReadyH.cons (o := { dst := some 9, op := Op.buildSlice 28 0 #[], type := 28, pos := "own.go:97", after := #[], guard := none }) rfl (fun K hK => ?_) AllReadyH.nil)
      go_simp
      go_wp2_with fail
      obtain ⟨Y, hY⟩ : ∃ Y, X.alloc (.cells #[] 4) = Y := ⟨_, rfl⟩
      have bl : Below X.heap.size X Y := by rw [← hY]; exact below_alloc X _
      have RM : Hid (Y.ownsRow (w.heap.size + 2) 4 1 (.slice (some ⟨X.heap.size, 0, none⟩) 0 0) 0 []) := by rw [← hY]; exact ownsRow_base (World.ownsRow_made X #[] 0 (Nat.le_refl _) (by simp [maxLen]) rfl) HS.out
      rw [hY]
      have RVx : Hid (Y.ownsRow (w.heap.size + 2) 5 1 vV n (zs.map (Value.int .u8))) := rowG_below RV.out bl
      clear RV
      have RV := RVx
      clear RVx
      have HBx : Hid (Below w.heap.size w Y) := below_trans HB.out bl
      have HAx : Hid (Y.heap[w.heap.size]? = some (.cells #[.int .i64 b, .int .i64 p, .int .i64 s, .slice (some ⟨bk, off, none⟩) n c, .slice (some ⟨mb, mo, none⟩) m c'] 30 (0, 0))) := (bl.block _ (lt_of_b HA.out)).trans HA.out
      have HZx : Hid (Y.heap[w.heap.size + 1]? = some (.cells #[.int .i64 0, .int .i64 0, .int .i64 0, .slice none 0 0, .slice none 0 0] 30 (0, 0))) := (bl.block _ (lt_of_b HZ.out)).trans HZ.out
      have HSx : Hid (w.heap.size + 2 ≤ Y.heap.size) := Nat.le_trans HS.out bl.size
      have hSnew := cells5 HAx.out
      refine hK.out _ _ hSnew (fun hHeld6 => ?_)
      clear hK K hSnew
      clear hHeld
      have hHeld := hHeld6
      clear hHeld6
      try simp only [Act.put, List.setIfInBounds_toArray, List.set_cons_zero, List.set_cons_succ]
      obtain ⟨vM, hvM⟩ : ∃ v, Value.slice (some ⟨X.heap.size, 0, none⟩) 0 0 = v := ⟨_, rfl⟩
      rw [hvM] at RM ⊢
      clear hvM bl hY HB HA HZ HS X
      obtain ⟨X, hX⟩ : ∃ X, X = Y := ⟨_, rfl⟩
      subst hX
      have HB := HBx
      have HA := HAx
      have HZ := HZx
      have HS := HSx
      clear HBx HAx HZx HSx
      refine wpAnyH_ready (rs := [9]) (by kernel_rfl) (by simp) ?_
      refine (AllReadyH.cons (o := { dst := some 12, op := Op.call { callee := Callee.builtin Builtin.append, args := #[Operand.tmp 9, Operand.tmp 11], argTypes := #[28, 28] }, type := 28, pos := "own.go:97", after := #[{ on := 6, ground := Ground.data }, { on := 8, ground := Ground.data }, { on := 5, ground := Ground.chain }], guard := none }) rfl (fun K hK => ?_) AllReadyH.nil)
      refine wp_append_own X (.tmp 9) (.tmp 11) 28 rfl (w.heap.size + 2) 4 j0 (.bool false) 1 1 Tryd.underlying28 kj kz0 kz1 kz2 rfl (by decide) _ 0 [] rfl RM.out ⟨mb, mo, none⟩ m c' (bs.map Value.bool) rfl (by rw [List.length_map, Nat.mul_one]; exact (HRB.out.below HB.out).1) (HRB.out.below HB.out).news (by intro u hu; obtain ⟨z, _, rfl⟩ := List.mem_map.1 hu; rfl) (by simp [maxLen]; omega) (by omega) HS.out ?_
      intro vN Y own grow _
      have own2 : Y.ownsRow (w.heap.size + 2) 4 1 vN m (bs.map Value.bool) := by simpa using own
      have hvb : ∀ g, vM.ownBlock = some g → w.heap.size + 2 ≤ g := fun g hg => (RM.out.lt g hg).1
      have RVx : Hid (Y.ownsRow (w.heap.size + 2) 5 1 vV n (zs.map (Value.int .u8))) := rowG_other RV.out grow RM.out (by decide)
      clear RV
      have RV := RVx
      clear RVx
      have HBx : Hid (Below w.heap.size w Y) := HB.out.grown grow HB.out.size (fun g hg => by have := hvb g hg; omega)
      have HAx : Hid (Y.heap[w.heap.size]? = some (.cells #[.int .i64 b, .int .i64 p, .int .i64 s, .slice (some ⟨bk, off, none⟩) n c, .slice (some ⟨mb, mo, none⟩) m c'] 30 (0, 0))) := (grow.block _ (lt_of_b HA.out) (fun e9 => by have := hvb _ e9.symm; omega)).trans HA.out
      have HZx : Hid (Y.heap[w.heap.size + 1]? = some (.cells #[.int .i64 0, .int .i64 0, .int .i64 0, .slice none 0 0, .slice none 0 0] 30 (0, 0))) := (grow.block _ (lt_of_b HZ.out) (fun e9 => by have := hvb _ e9.symm; omega)).trans HZ.out
      have HSx : Hid (w.heap.size + 2 ≤ Y.heap.size) := Nat.le_trans HS.out grow.size
      have hSnew := cells5 HAx.out
      clear RM hvb grow own
      have RM : Hid (Y.ownsRow (w.heap.size + 2) 4 1 vN m (bs.map Value.bool)) := own2
      clear own2
      refine hK.out _ _ hSnew (fun hHeld9 => ?_)
      clear hK K hSnew
      clear hHeld
      have hHeld := hHeld9
      clear hHeld9
      try simp only [Act.put, List.setIfInBounds_toArray, List.set_cons_zero, List.set_cons_succ]
      obtain ⟨vM, hvM⟩ : ∃ v, v = vN := ⟨_, rfl⟩
      subst hvM
      clear HB HA HZ HS
      obtain ⟨X2, hX⟩ : ∃ X2, X2 = Y := ⟨_, rfl⟩
      subst hX
      clear X
      obtain ⟨X, hX⟩ : ∃ X, X = X2 := ⟨_, rfl⟩
      subst hX
      have HB := HBx
      have HA := HAx
      have HZ := HZx
      have HS := HSx
      clear HBx HAx HZx HSx
      obtain ⟨g, cc, rfl, hg1, hg2, hg3, hg4⟩ := own_shape RV.out hn0
      obtain ⟨gm, cm, rfl, hg5, hg6⟩ := ownB_shape RM.out hm0
      refine wpAnyH_take (i := 10) (oi := { dst := some 13, op := Op.build 30 #[(0, Operand.tmp 4), (1, Operand.tmp 8), (2, Operand.tmp 12)], type := 30, pos := "own.go:97", after := #[{ on := 1, ground := Ground.data }, { on := 5, ground := Ground.data }, { on := 9, ground := Ground.data }], guard := none }) (v := ?v10k5) rfl (by kernel_rfl) (by kernel_rfl) (by kernel_rfl) (fun _ _ _ h => h) (Or.inl ⟨by rfl, ?y10k5⟩) (by assumption) ?r10k5
      case y10k5 => (intro x hx; (try dsimp only at hx); go_simp; try with_reducible rfl)
      try simp only [Act.put, List.setIfInBounds_toArray, List.set_cons_zero, List.set_cons_succ]
      obtain ⟨z0, z1, z2, z3, z4⟩ := cells5 HZ.out
      have zf0 : X.frozen? ⟨w.heap.size + 1, 0, none⟩ = false := by simp [World.frozen?, HZ.out]
      have zf1 : X.frozen? ⟨w.heap.size + 1, 1, none⟩ = false := by simp [World.frozen?, HZ.out]
      have zf2 : X.frozen? ⟨w.heap.size + 1, 2, none⟩ = false := by simp [World.frozen?, HZ.out]
      have zf3 : X.frozen? ⟨w.heap.size + 1, 3, none⟩ = false := by simp [World.frozen?, HZ.out]
      have zf4 : X.frozen? ⟨w.heap.size + 1, 4, none⟩ = false := by simp [World.frozen?, HZ.out]
      refine wpAnyH_ready (rs := [11]) (by kernel_rfl) (by simp) ?_
      refine AllReadyH.cons (o := { dst := none, op := Op.store 30 (Operand.tmp 2) (Operand.tmp 13), type := 0, pos := "own.go:97", after := #[{ on := 10, ground := Ground.data }, { on := 9, ground := Ground.chain }, { on := 0, ground := Ground.phase }, { on := 1, ground := Ground.phase }, { on := 2, ground := Ground.phase }, { on := 3, ground := Ground.phase }, { on := 4, ground := Ground.phase }, { on := 5, ground := Ground.phase }, { on := 6, ground := Ground.phase }, { on := 7, ground := Ground.phase }, { on := 8, ground := Ground.phase }, { on := 9, ground := Ground.phase }, { on := 10, ground := Ground.phase }], guard := none }) rfl (fun K hK => ?_) AllReadyH.nil
      go_simp
      go_wp2_with fail
      have HG : Hid (X.grownBy (((((X.setCell ⟨w.heap.size + 1, 0, none⟩ (.int .i64 b)).setCell ⟨w.heap.size + 1, 1, none⟩ (.int .i64 p)).setCell ⟨w.heap.size + 1, 2, none⟩ (.int .i64 s)).setCell ⟨w.heap.size + 1, 3, none⟩ (.slice (some ⟨g, 0, none⟩) n cc)).setCell ⟨w.heap.size + 1, 4, none⟩ (.slice (some ⟨gm, 0, none⟩) m cm)) (some (w.heap.size + 1))) := grownBy_trans (grownBy_trans (grownBy_trans (grownBy_trans (set_grown X _ 0 _) (set_grown _ _ 1 _)) (set_grown _ _ 2 _)) (set_grown _ _ 3 _)) (set_grown _ _ 4 _)
      have HN : Hid ((((((X.setCell ⟨w.heap.size + 1, 0, none⟩ (.int .i64 b)).setCell ⟨w.heap.size + 1, 1, none⟩ (.int .i64 p)).setCell ⟨w.heap.size + 1, 2, none⟩ (.int .i64 s)).setCell ⟨w.heap.size + 1, 3, none⟩ (.slice (some ⟨g, 0, none⟩) n cc)).setCell ⟨w.heap.size + 1, 4, none⟩ (.slice (some ⟨gm, 0, none⟩) m cm)).heap[w.heap.size + 1]? = some (.cells #[.int .i64 b, .int .i64 p, .int .i64 s, .slice (some ⟨g, 0, none⟩) n cc, .slice (some ⟨gm, 0, none⟩) m cm] 30 (0, 0))) := blk5_set HZ.out _ _ _ _ _
      obtain ⟨Y, hY⟩ : ∃ Y, (((((X.setCell ⟨w.heap.size + 1, 0, none⟩ (.int .i64 b)).setCell ⟨w.heap.size + 1, 1, none⟩ (.int .i64 p)).setCell ⟨w.heap.size + 1, 2, none⟩ (.int .i64 s)).setCell ⟨w.heap.size + 1, 3, none⟩ (.slice (some ⟨g, 0, none⟩) n cc)).setCell ⟨w.heap.size + 1, 4, none⟩ (.slice (some ⟨gm, 0, none⟩) m cm)) = Y := ⟨_, rfl⟩
      rw [hY] at HG HN ⊢
      clear hY
      have HAx : Hid (Y.heap[w.heap.size]? = some (.cells #[.int .i64 b, .int .i64 p, .int .i64 s, .slice (some ⟨bk, off, none⟩) n c, .slice (some ⟨mb, mo, none⟩) m c'] 30 (0, 0))) := (HG.out.block _ (lt_of_b HA.out) (fun e9 => by have := Option.some.inj e9; omega)).trans HA.out
      have hSnew := cells5 HAx.out
      refine hK.out _ _ hSnew (fun hHeld11 => ?_)
      clear hK K hSnew
      clear hHeld
      have hHeld := hHeld11
      clear hHeld11
      try simp only [Act.put, List.setIfInBounds_toArray, List.set_cons_zero, List.set_cons_succ]
      refine wpAnyH_done (by kernel_rfl) ?_ _
      go_wp2
      refine bodyPost_ret (v := .agg #[.int .i64 b, .int .i64 p, .int .i64 s, .slice (some ⟨g, 0, none⟩) n cc, .slice (some ⟨gm, 0, none⟩) m cm]) (by obtain ⟨y0, y1, y2, y3, y4⟩ := cells5 HN.out; simp [results, Tryd.results15, go_sem, y0, y1, y2, y3, y4]) rfl ⟨g, cc, gm, cm, rfl, ?_, ?_, ?_⟩
      · exact ownsRow_base (RV.out.kept HG.out (Or.inr (fun e9 => by have h8 : g = w.heap.size + 1 := Option.some.inj e9; omega))) (by omega)
      · exact ownsRow_base (RM.out.kept HG.out (Or.inr (fun e9 => by have h8 : gm = w.heap.size + 1 := Option.some.inj e9; omega))) (by omega)
      · exact HB.out.grown HG.out HB.out.size (fun i9 h9 => by cases h9; omega)
    · go_simp
      go_wp2_with fail
      obtain ⟨Y, hY⟩ : ∃ Y, X.alloc (.cells #[] 4) = Y := ⟨_, rfl⟩
      have bl : Below X.heap.size X Y := by rw [← hY]; exact below_alloc X _
      have RM : Hid (Y.ownsRow (w.heap.size + 2) 4 1 (.slice (some ⟨X.heap.size, 0, none⟩) 0 0) 0 []) := by rw [← hY]; exact ownsRow_base (World.ownsRow_made X #[] 0 (Nat.le_refl _) (by simp [maxLen]) rfl) HS.out
      rw [hY]
      have RVx : Hid (Y.ownsRow (w.heap.size + 2) 5 1 vV 0 []) := rowG_below RV.out bl
      clear RV
      have RV := RVx
      clear RVx
      have HBx : Hid (Below w.heap.size w Y) := below_trans HB.out bl
      have HAx : Hid (Y.heap[w.heap.size]? = some (.cells #[.int .i64 b, .int .i64 p, .int .i64 s, .slice (some ⟨bk, off, none⟩) n c, .slice (some ⟨mb, mo, none⟩) m c'] 30 (0, 0))) := (bl.block _ (lt_of_b HA.out)).trans HA.out
      have HZx : Hid (Y.heap[w.heap.size + 1]? = some (.cells #[.int .i64 0, .int .i64 0, .int .i64 0, .slice none 0 0, .slice none 0 0] 30 (0, 0))) := (bl.block _ (lt_of_b HZ.out)).trans HZ.out
      have HSx : Hid (w.heap.size + 2 ≤ Y.heap.size) := Nat.le_trans HS.out bl.size
      have hSnew := cells5 HAx.out
      refine hK.out _ _ hSnew (fun hHeld6 => ?_)
      clear hK K hSnew
      clear hHeld
      have hHeld := hHeld6
      clear hHeld6
      try simp only [Act.put, List.setIfInBounds_toArray, List.set_cons_zero, List.set_cons_succ]
      obtain ⟨vM, hvM⟩ : ∃ v, Value.slice (some ⟨X.heap.size, 0, none⟩) 0 0 = v := ⟨_, rfl⟩
      rw [hvM] at RM ⊢
      clear hvM bl hY HB HA HZ HS X
      obtain ⟨X, hX⟩ : ∃ X, X = Y := ⟨_, rfl⟩
      subst hX
      have HB := HBx
      have HA := HAx
      have HZ := HZx
      have HS := HSx
      clear HBx HAx HZx HSx
      refine wpAnyH_ready (rs := [5]) (by kernel_rfl) (by simp) ?_
      refine (AllReadyH.cons (o := { dst := some 8, op := Op.call { callee := Callee.builtin Builtin.append, args := #[Operand.tmp 5, Operand.tmp 7], argTypes := #[22, 22] }, type := 22, pos := "own.go:97", after := #[{ on := 2, ground := Ground.data }, { on := 4, ground := Ground.data }], guard := none }) rfl (fun K hK => ?_) AllReadyH.nil)
      refine wp_append_own X (.tmp 5) (.tmp 7) 22 rfl (w.heap.size + 2) 5 i0 (.int .u8 0) 1 1 Tryd.underlying22 hi hz0 hz1 hz2 rfl (by decide) _ 0 [] rfl RV.out ⟨bk, off, none⟩ n c (zs.map (Value.int .u8)) rfl (by rw [List.length_map, Nat.mul_one]; exact (HRD.out.below HB.out).1) (HRD.out.below HB.out).news (by intro u hu; obtain ⟨z, _, rfl⟩ := List.mem_map.1 hu; rfl) (by simp [maxLen]; omega) (by omega) HS.out ?_
      intro vN Y own grow _
      have own2 : Y.ownsRow (w.heap.size + 2) 5 1 vN n (zs.map (Value.int .u8)) := by simpa using own
      have hvb : ∀ g, vV.ownBlock = some g → w.heap.size + 2 ≤ g := fun g hg => (RV.out.lt g hg).1
      have RMx : Hid (Y.ownsRow (w.heap.size + 2) 4 1 vM 0 []) := rowG_other RM.out grow RV.out (by decide)
      clear RM
      have RM := RMx
      clear RMx
      have HBx : Hid (Below w.heap.size w Y) := HB.out.grown grow HB.out.size (fun g hg => by have := hvb g hg; omega)
      have HAx : Hid (Y.heap[w.heap.size]? = some (.cells #[.int .i64 b, .int .i64 p, .int .i64 s, .slice (some ⟨bk, off, none⟩) n c, .slice (some ⟨mb, mo, none⟩) m c'] 30 (0, 0))) := (grow.block _ (lt_of_b HA.out) (fun e9 => by have := hvb _ e9.symm; omega)).trans HA.out
      have HZx : Hid (Y.heap[w.heap.size + 1]? = some (.cells #[.int .i64 0, .int .i64 0, .int .i64 0, .slice none 0 0, .slice none 0 0] 30 (0, 0))) := (grow.block _ (lt_of_b HZ.out) (fun e9 => by have := hvb _ e9.symm; omega)).trans HZ.out
      have HSx : Hid (w.heap.size + 2 ≤ Y.heap.size) := Nat.le_trans HS.out grow.size
      have hSnew := cells5 HAx.out
      clear RV hvb grow own
      have RV : Hid (Y.ownsRow (w.heap.size + 2) 5 1 vN n (zs.map (Value.int .u8))) := own2
      clear own2
      refine hK.out _ _ hSnew (fun hHeld5 => ?_)
      clear hK K hSnew
      clear hHeld
      have hHeld := hHeld5
      clear hHeld5
      try simp only [Act.put, List.setIfInBounds_toArray, List.set_cons_zero, List.set_cons_succ]
      obtain ⟨vV, hvV⟩ : ∃ v, v = vN := ⟨_, rfl⟩
      subst hvV
      clear HB HA HZ HS
      obtain ⟨X2, hX⟩ : ∃ X2, X2 = Y := ⟨_, rfl⟩
      subst hX
      clear X
      obtain ⟨X, hX⟩ : ∃ X, X = X2 := ⟨_, rfl⟩
      subst hX
      have HB := HBx
      have HA := HAx
      have HZ := HZx
      have HS := HSx
      clear HBx HAx HZx HSx
      refine wpAnyH_ready (rs := [9]) (by kernel_rfl) (by simp) ?_
      refine (AllReadyH.cons (o := { dst := some 12, op := Op.call { callee := Callee.builtin Builtin.append, args := #[Operand.tmp 9, Operand.tmp 11], argTypes := #[28, 28] }, type := 28, pos := "own.go:97", after := #[{ on := 6, ground := Ground.data }, { on := 8, ground := Ground.data }, { on := 5, ground := Ground.chain }], guard := none }) rfl (fun K hK => ?_) AllReadyH.nil)
      refine wp_append_own X (.tmp 9) (.tmp 11) 28 rfl (w.heap.size + 2) 4 j0 (.bool false) 1 1 Tryd.underlying28 kj kz0 kz1 kz2 rfl (by decide) _ 0 [] rfl RM.out ⟨mb, mo, none⟩ m c' (bs.map Value.bool) rfl (by rw [List.length_map, Nat.mul_one]; exact (HRB.out.below HB.out).1) (HRB.out.below HB.out).news (by intro u hu; obtain ⟨z, _, rfl⟩ := List.mem_map.1 hu; rfl) (by simp [maxLen]; omega) (by omega) HS.out ?_
      intro vN Y own grow _
      have own2 : Y.ownsRow (w.heap.size + 2) 4 1 vN m (bs.map Value.bool) := by simpa using own
      have hvb : ∀ g, vM.ownBlock = some g → w.heap.size + 2 ≤ g := fun g hg => (RM.out.lt g hg).1
      have RVx : Hid (Y.ownsRow (w.heap.size + 2) 5 1 vV n (zs.map (Value.int .u8))) := rowG_other RV.out grow RM.out (by decide)
      clear RV
      have RV := RVx
      clear RVx
      have HBx : Hid (Below w.heap.size w Y) := HB.out.grown grow HB.out.size (fun g hg => by have := hvb g hg; omega)
      have HAx : Hid (Y.heap[w.heap.size]? = some (.cells #[.int .i64 b, .int .i64 p, .int .i64 s, .slice (some ⟨bk, off, none⟩) n c, .slice (some ⟨mb, mo, none⟩) m c'] 30 (0, 0))) := (grow.block _ (lt_of_b HA.out) (fun e9 => by have := hvb _ e9.symm; omega)).trans HA.out
      have HZx : Hid (Y.heap[w.heap.size + 1]? = some (.cells #[.int .i64 0, .int .i64 0, .int .i64 0, .slice none 0 0, .slice none 0 0] 30 (0, 0))) := (grow.block _ (lt_of_b HZ.out) (fun e9 => by have := hvb _ e9.symm; omega)).trans HZ.out
      have HSx : Hid (w.heap.size + 2 ≤ Y.heap.size) := Nat.le_trans HS.out grow.size
      have hSnew := cells5 HAx.out
      clear RM hvb grow own
      have RM : Hid (Y.ownsRow (w.heap.size + 2) 4 1 vN m (bs.map Value.bool)) := own2
      clear own2
      refine hK.out _ _ hSnew (fun hHeld9 => ?_)
      clear hK K hSnew
      clear hHeld
      have hHeld := hHeld9
      clear hHeld9
      try simp only [Act.put, List.setIfInBounds_toArray, List.set_cons_zero, List.set_cons_succ]
      obtain ⟨vM, hvM⟩ : ∃ v, v = vN := ⟨_, rfl⟩
      subst hvM
      clear HB HA HZ HS
      obtain ⟨X2, hX⟩ : ∃ X2, X2 = Y := ⟨_, rfl⟩
      subst hX
      clear X
      obtain ⟨X, hX⟩ : ∃ X, X = X2 := ⟨_, rfl⟩
      subst hX
      have HB := HBx
      have HA := HAx
      have HZ := HZx
      have HS := HSx
      clear HBx HAx HZx HSx
      obtain ⟨g, cc, rfl, hg1, hg2, hg3, hg4⟩ := own_shape RV.out hn0
      obtain ⟨gm, cm, rfl, hg5, hg6⟩ := ownB_shape RM.out hm0
      refine wpAnyH_take (i := 10) (oi := { dst := some 13, op := Op.build 30 #[(0, Operand.tmp 4), (1, Operand.tmp 8), (2, Operand.tmp 12)], type := 30, pos := "own.go:97", after := #[{ on := 1, ground := Ground.data }, { on := 5, ground := Ground.data }, { on := 9, ground := Ground.data }], guard := none }) (v := ?v10k8) rfl (by kernel_rfl) (by kernel_rfl) (by kernel_rfl) (fun _ _ _ h => h) (Or.inl ⟨by rfl, ?y10k8⟩) (by assumption) ?r10k8
      case y10k8 => (intro x hx; (try dsimp only at hx); go_simp; try with_reducible rfl)
      try simp only [Act.put, List.setIfInBounds_toArray, List.set_cons_zero, List.set_cons_succ]
      obtain ⟨z0, z1, z2, z3, z4⟩ := cells5 HZ.out
      have zf0 : X.frozen? ⟨w.heap.size + 1, 0, none⟩ = false := by simp [World.frozen?, HZ.out]
      have zf1 : X.frozen? ⟨w.heap.size + 1, 1, none⟩ = false := by simp [World.frozen?, HZ.out]
      have zf2 : X.frozen? ⟨w.heap.size + 1, 2, none⟩ = false := by simp [World.frozen?, HZ.out]
      have zf3 : X.frozen? ⟨w.heap.size + 1, 3, none⟩ = false := by simp [World.frozen?, HZ.out]
      have zf4 : X.frozen? ⟨w.heap.size + 1, 4, none⟩ = false := by simp [World.frozen?, HZ.out]
      refine wpAnyH_ready (rs := [11]) (by kernel_rfl) (by simp) ?_
      refine AllReadyH.cons (o := { dst := none, op := Op.store 30 (Operand.tmp 2) (Operand.tmp 13), type := 0, pos := "own.go:97", after := #[{ on := 10, ground := Ground.data }, { on := 9, ground := Ground.chain }, { on := 0, ground := Ground.phase }, { on := 1, ground := Ground.phase }, { on := 2, ground := Ground.phase }, { on := 3, ground := Ground.phase }, { on := 4, ground := Ground.phase }, { on := 5, ground := Ground.phase }, { on := 6, ground := Ground.phase }, { on := 7, ground := Ground.phase }, { on := 8, ground := Ground.phase }, { on := 9, ground := Ground.phase }, { on := 10, ground := Ground.phase }], guard := none }) rfl (fun K hK => ?_) AllReadyH.nil
      go_simp
      go_wp2_with fail
      have HG : Hid (X.grownBy (((((X.setCell ⟨w.heap.size + 1, 0, none⟩ (.int .i64 b)).setCell ⟨w.heap.size + 1, 1, none⟩ (.int .i64 p)).setCell ⟨w.heap.size + 1, 2, none⟩ (.int .i64 s)).setCell ⟨w.heap.size + 1, 3, none⟩ (.slice (some ⟨g, 0, none⟩) n cc)).setCell ⟨w.heap.size + 1, 4, none⟩ (.slice (some ⟨gm, 0, none⟩) m cm)) (some (w.heap.size + 1))) := grownBy_trans (grownBy_trans (grownBy_trans (grownBy_trans (set_grown X _ 0 _) (set_grown _ _ 1 _)) (set_grown _ _ 2 _)) (set_grown _ _ 3 _)) (set_grown _ _ 4 _)
      have HN : Hid ((((((X.setCell ⟨w.heap.size + 1, 0, none⟩ (.int .i64 b)).setCell ⟨w.heap.size + 1, 1, none⟩ (.int .i64 p)).setCell ⟨w.heap.size + 1, 2, none⟩ (.int .i64 s)).setCell ⟨w.heap.size + 1, 3, none⟩ (.slice (some ⟨g, 0, none⟩) n cc)).setCell ⟨w.heap.size + 1, 4, none⟩ (.slice (some ⟨gm, 0, none⟩) m cm)).heap[w.heap.size + 1]? = some (.cells #[.int .i64 b, .int .i64 p, .int .i64 s, .slice (some ⟨g, 0, none⟩) n cc, .slice (some ⟨gm, 0, none⟩) m cm] 30 (0, 0))) := blk5_set HZ.out _ _ _ _ _
      obtain ⟨Y, hY⟩ : ∃ Y, (((((X.setCell ⟨w.heap.size + 1, 0, none⟩ (.int .i64 b)).setCell ⟨w.heap.size + 1, 1, none⟩ (.int .i64 p)).setCell ⟨w.heap.size + 1, 2, none⟩ (.int .i64 s)).setCell ⟨w.heap.size + 1, 3, none⟩ (.slice (some ⟨g, 0, none⟩) n cc)).setCell ⟨w.heap.size + 1, 4, none⟩ (.slice (some ⟨gm, 0, none⟩) m cm)) = Y := ⟨_, rfl⟩
      rw [hY] at HG HN ⊢
      clear hY
      have HAx : Hid (Y.heap[w.heap.size]? = some (.cells #[.int .i64 b, .int .i64 p, .int .i64 s, .slice (some ⟨bk, off, none⟩) n c, .slice (some ⟨mb, mo, none⟩) m c'] 30 (0, 0))) := (HG.out.block _ (lt_of_b HA.out) (fun e9 => by have := Option.some.inj e9; omega)).trans HA.out
      have hSnew := cells5 HAx.out
      refine hK.out _ _ hSnew (fun hHeld11 => ?_)
      clear hK K hSnew
      clear hHeld
      have hHeld := hHeld11
      clear hHeld11
      try simp only [Act.put, List.setIfInBounds_toArray, List.set_cons_zero, List.set_cons_succ]
      refine wpAnyH_done (by kernel_rfl) ?_ _
      go_wp2
      refine bodyPost_ret (v := .agg #[.int .i64 b, .int .i64 p, .int .i64 s, .slice (some ⟨g, 0, none⟩) n cc, .slice (some ⟨gm, 0, none⟩) m cm]) (by obtain ⟨y0, y1, y2, y3, y4⟩ := cells5 HN.out; simp [results, Tryd.results15, go_sem, y0, y1, y2, y3, y4]) rfl ⟨g, cc, gm, cm, rfl, ?_, ?_, ?_⟩
      · exact ownsRow_base (RV.out.kept HG.out (Or.inr (fun e9 => by have h8 : g = w.heap.size + 1 := Option.some.inj e9; omega))) (by omega)
      · exact ownsRow_base (RM.out.kept HG.out (Or.inr (fun e9 => by have h8 : gm = w.heap.size + 1 := Option.some.inj e9; omega))) (by omega)
      · exact HB.out.grown HG.out HB.out.size (fun i9 h9 => by cases h9; omega)
  · go_simp
    go_wp2_with fail
    obtain ⟨Y, hY⟩ : ∃ Y, X.alloc (.cells #[] 4) = Y := ⟨_, rfl⟩
    have bl : Below X.heap.size X Y := by rw [← hY]; exact below_alloc X _
    have RM : Hid (Y.ownsRow (w.heap.size + 2) 4 1 (.slice (some ⟨X.heap.size, 0, none⟩) 0 0) 0 []) := by rw [← hY]; exact ownsRow_base (World.ownsRow_made X #[] 0 (Nat.le_refl _) (by simp [maxLen]) rfl) HS.out
    rw [hY]
    have HBx : Hid (Below w.heap.size w Y) := below_trans HB.out bl
    have HAx : Hid (Y.heap[w.heap.size]? = some (.cells #[.int .i64 b, .int .i64 p, .int .i64 s, .slice (some ⟨bk, off, none⟩) n c, .slice (some ⟨mb, mo, none⟩) m c'] 30 (0, 0))) := (bl.block _ (lt_of_b HA.out)).trans HA.out
    have HZx : Hid (Y.heap[w.heap.size + 1]? = some (.cells #[.int .i64 0, .int .i64 0, .int .i64 0, .slice none 0 0, .slice none 0 0] 30 (0, 0))) := (bl.block _ (lt_of_b HZ.out)).trans HZ.out
    have HSx : Hid (w.heap.size + 2 ≤ Y.heap.size) := Nat.le_trans HS.out bl.size
    have hSnew := cells5 HAx.out
    refine hK.out _ _ hSnew (fun hHeld6 => ?_)
    clear hK K hSnew
    clear hHeld
    have hHeld := hHeld6
    clear hHeld6
    try simp only [Act.put, List.setIfInBounds_toArray, List.set_cons_zero, List.set_cons_succ]
    obtain ⟨vM, hvM⟩ : ∃ v, Value.slice (some ⟨X.heap.size, 0, none⟩) 0 0 = v := ⟨_, rfl⟩
    rw [hvM] at RM ⊢
    clear hvM bl hY HB HA HZ HS X
    obtain ⟨X, hX⟩ : ∃ X, X = Y := ⟨_, rfl⟩
    subst hX
    have HB := HBx
    have HA := HAx
    have HZ := HZx
    have HS := HSx
    clear HBx HAx HZx HSx
    refine wpAnyH_ready (rs := [2]) (by kernel_rfl) (by simp) ?_
    refine (AllReadyH.cons (o := { dst := some 5, op := Op.buildSlice 22 0 #[], type := 22, pos := "own.go:97", after := #[], guard := none }) rfl (fun K hK => ?_) AllReadyH.nil)
    go_simp
    go_wp2_with fail
    obtain ⟨Y, hY⟩ : ∃ Y, X.alloc (.cells #[] 5) = Y := ⟨_, rfl⟩
    have bl : Below X.heap.size X Y := by rw [← hY]; exact below_alloc X _
    have RV : Hid (Y.ownsRow (w.heap.size + 2) 5 1 (.slice (some ⟨X.heap.size, 0, none⟩) 0 0) 0 []) := by rw [← hY]; exact ownsRow_base (World.ownsRow_made X #[] 0 (Nat.le_refl _) (by simp [maxLen]) rfl) HS.out
    rw [hY]
    have RMx : Hid (Y.ownsRow (w.heap.size + 2) 4 1 vM 0 []) := rowG_below RM.out bl
    clear RM
    have RM := RMx
    clear RMx
    have HBx : Hid (Below w.heap.size w Y) := below_trans HB.out bl
    have HAx : Hid (Y.heap[w.heap.size]? = some (.cells #[.int .i64 b, .int .i64 p, .int .i64 s, .slice (some ⟨bk, off, none⟩) n c, .slice (some ⟨mb, mo, none⟩) m c'] 30 (0, 0))) := (bl.block _ (lt_of_b HA.out)).trans HA.out
    have HZx : Hid (Y.heap[w.heap.size + 1]? = some (.cells #[.int .i64 0, .int .i64 0, .int .i64 0, .slice none 0 0, .slice none 0 0] 30 (0, 0))) := (bl.block _ (lt_of_b HZ.out)).trans HZ.out
    have HSx : Hid (w.heap.size + 2 ≤ Y.heap.size) := Nat.le_trans HS.out bl.size
    have hSnew := cells5 HAx.out
    refine hK.out _ _ hSnew (fun hHeld2 => ?_)
    clear hK K hSnew
    clear hHeld
    have hHeld := hHeld2
    clear hHeld2
    try simp only [Act.put, List.setIfInBounds_toArray, List.set_cons_zero, List.set_cons_succ]
    obtain ⟨vV, hvV⟩ : ∃ v, Value.slice (some ⟨X.heap.size, 0, none⟩) 0 0 = v := ⟨_, rfl⟩
    rw [hvV] at RV ⊢
    clear hvV bl hY HB HA HZ HS X
    obtain ⟨X, hX⟩ : ∃ X, X = Y := ⟨_, rfl⟩
    subst hX
    have HB := HBx
    have HA := HAx
    have HZ := HZx
    have HS := HSx
    clear HBx HAx HZx HSx
    refine wpAnyH_ready (rs := [5]) (by kernel_rfl) (by simp) ?_
    refine (AllReadyH.cons (o := { dst := some 8, op := Op.call { callee := Callee.builtin Builtin.append, args := #[Operand.tmp 5, Operand.tmp 7], argTypes := #[22, 22] }, type := 22, pos := "own.go:97", after := #[{ on := 2, ground := Ground.data }, { on := 4, ground := Ground.data }], guard := none }) rfl (fun K hK => ?_) AllReadyH.nil)
    refine wp_append_own X (.tmp 5) (.tmp 7) 22 rfl (w.heap.size + 2) 5 i0 (.int .u8 0) 1 1 Tryd.underlying22 hi hz0 hz1 hz2 rfl (by decide) _ 0 [] rfl RV.out ⟨bk, off, none⟩ n c (zs.map (Value.int .u8)) rfl (by rw [List.length_map, Nat.mul_one]; exact (HRD.out.below HB.out).1) (HRD.out.below HB.out).news (by intro u hu; obtain ⟨z, _, rfl⟩ := List.mem_map.1 hu; rfl) (by simp [maxLen]; omega) (by omega) HS.out ?_
    intro vN Y own grow _
    have own2 : Y.ownsRow (w.heap.size + 2) 5 1 vN n (zs.map (Value.int .u8)) := by simpa using own
    have hvb : ∀ g, vV.ownBlock = some g → w.heap.size + 2 ≤ g := fun g hg => (RV.out.lt g hg).1
    have RMx : Hid (Y.ownsRow (w.heap.size + 2) 4 1 vM 0 []) := rowG_other RM.out grow RV.out (by decide)
    clear RM
    have RM := RMx
    clear RMx
    have HBx : Hid (Below w.heap.size w Y) := HB.out.grown grow HB.out.size (fun g hg => by have := hvb g hg; omega)
    have HAx : Hid (Y.heap[w.heap.size]? = some (.cells #[.int .i64 b, .int .i64 p, .int .i64 s, .slice (some ⟨bk, off, none⟩) n c, .slice (some ⟨mb, mo, none⟩) m c'] 30 (0, 0))) := (grow.block _ (lt_of_b HA.out) (fun e9 => by have := hvb _ e9.symm; omega)).trans HA.out
    have HZx : Hid (Y.heap[w.heap.size + 1]? = some (.cells #[.int .i64 0, .int .i64 0, .int .i64 0, .slice none 0 0, .slice none 0 0] 30 (0, 0))) := (grow.block _ (lt_of_b HZ.out) (fun e9 => by have := hvb _ e9.symm; omega)).trans HZ.out
    have HSx : Hid (w.heap.size + 2 ≤ Y.heap.size) := Nat.le_trans HS.out grow.size
    have hSnew := cells5 HAx.out
    clear RV hvb grow own
    have RV : Hid (Y.ownsRow (w.heap.size + 2) 5 1 vN n (zs.map (Value.int .u8))) := own2
    clear own2
    refine hK.out _ _ hSnew (fun hHeld5 => ?_)
    clear hK K hSnew
    clear hHeld
    have hHeld := hHeld5
    clear hHeld5
    try simp only [Act.put, List.setIfInBounds_toArray, List.set_cons_zero, List.set_cons_succ]
    obtain ⟨vV, hvV⟩ : ∃ v, v = vN := ⟨_, rfl⟩
    subst hvV
    clear HB HA HZ HS
    obtain ⟨X2, hX⟩ : ∃ X2, X2 = Y := ⟨_, rfl⟩
    subst hX
    clear X
    obtain ⟨X, hX⟩ : ∃ X, X = X2 := ⟨_, rfl⟩
    subst hX
    have HB := HBx
    have HA := HAx
    have HZ := HZx
    have HS := HSx
    clear HBx HAx HZx HSx
    refine wpAnyH_ready (rs := [9]) (by kernel_rfl) (by simp) ?_
    refine (AllReadyH.cons (o := { dst := some 12, op := Op.call { callee := Callee.builtin Builtin.append, args := #[Operand.tmp 9, Operand.tmp 11], argTypes := #[28, 28] }, type := 28, pos := "own.go:97", after := #[{ on := 6, ground := Ground.data }, { on := 8, ground := Ground.data }, { on := 5, ground := Ground.chain }], guard := none }) rfl (fun K hK => ?_) AllReadyH.nil)
    refine wp_append_own X (.tmp 9) (.tmp 11) 28 rfl (w.heap.size + 2) 4 j0 (.bool false) 1 1 Tryd.underlying28 kj kz0 kz1 kz2 rfl (by decide) _ 0 [] rfl RM.out ⟨mb, mo, none⟩ m c' (bs.map Value.bool) rfl (by rw [List.length_map, Nat.mul_one]; exact (HRB.out.below HB.out).1) (HRB.out.below HB.out).news (by intro u hu; obtain ⟨z, _, rfl⟩ := List.mem_map.1 hu; rfl) (by simp [maxLen]; omega) (by omega) HS.out ?_
    intro vN Y own grow _
    have own2 : Y.ownsRow (w.heap.size + 2) 4 1 vN m (bs.map Value.bool) := by simpa using own
    have hvb : ∀ g, vM.ownBlock = some g → w.heap.size + 2 ≤ g := fun g hg => (RM.out.lt g hg).1
    have RVx : Hid (Y.ownsRow (w.heap.size + 2) 5 1 vV n (zs.map (Value.int .u8))) := rowG_other RV.out grow RM.out (by decide)
    clear RV
    have RV := RVx
    clear RVx
    have HBx : Hid (Below w.heap.size w Y) := HB.out.grown grow HB.out.size (fun g hg => by have := hvb g hg; omega)
    have HAx : Hid (Y.heap[w.heap.size]? = some (.cells #[.int .i64 b, .int .i64 p, .int .i64 s, .slice (some ⟨bk, off, none⟩) n c, .slice (some ⟨mb, mo, none⟩) m c'] 30 (0, 0))) := (grow.block _ (lt_of_b HA.out) (fun e9 => by have := hvb _ e9.symm; omega)).trans HA.out
    have HZx : Hid (Y.heap[w.heap.size + 1]? = some (.cells #[.int .i64 0, .int .i64 0, .int .i64 0, .slice none 0 0, .slice none 0 0] 30 (0, 0))) := (grow.block _ (lt_of_b HZ.out) (fun e9 => by have := hvb _ e9.symm; omega)).trans HZ.out
    have HSx : Hid (w.heap.size + 2 ≤ Y.heap.size) := Nat.le_trans HS.out grow.size
    have hSnew := cells5 HAx.out
    clear RM hvb grow own
    have RM : Hid (Y.ownsRow (w.heap.size + 2) 4 1 vN m (bs.map Value.bool)) := own2
    clear own2
    refine hK.out _ _ hSnew (fun hHeld9 => ?_)
    clear hK K hSnew
    clear hHeld
    have hHeld := hHeld9
    clear hHeld9
    try simp only [Act.put, List.setIfInBounds_toArray, List.set_cons_zero, List.set_cons_succ]
    obtain ⟨vM, hvM⟩ : ∃ v, v = vN := ⟨_, rfl⟩
    subst hvM
    clear HB HA HZ HS
    obtain ⟨X2, hX⟩ : ∃ X2, X2 = Y := ⟨_, rfl⟩
    subst hX
    clear X
    obtain ⟨X, hX⟩ : ∃ X, X = X2 := ⟨_, rfl⟩
    subst hX
    have HB := HBx
    have HA := HAx
    have HZ := HZx
    have HS := HSx
    clear HBx HAx HZx HSx
    obtain ⟨g, cc, rfl, hg1, hg2, hg3, hg4⟩ := own_shape RV.out hn0
    obtain ⟨gm, cm, rfl, hg5, hg6⟩ := ownB_shape RM.out hm0
    refine wpAnyH_take (i := 10) (oi := { dst := some 13, op := Op.build 30 #[(0, Operand.tmp 4), (1, Operand.tmp 8), (2, Operand.tmp 12)], type := 30, pos := "own.go:97", after := #[{ on := 1, ground := Ground.data }, { on := 5, ground := Ground.data }, { on := 9, ground := Ground.data }], guard := none }) (v := ?v10k12) rfl (by kernel_rfl) (by kernel_rfl) (by kernel_rfl) (fun _ _ _ h => h) (Or.inl ⟨by rfl, ?y10k12⟩) (by assumption) ?r10k12
    case y10k12 => (intro x hx; (try dsimp only at hx); go_simp; try with_reducible rfl)
    try simp only [Act.put, List.setIfInBounds_toArray, List.set_cons_zero, List.set_cons_succ]
    obtain ⟨z0, z1, z2, z3, z4⟩ := cells5 HZ.out
    have zf0 : X.frozen? ⟨w.heap.size + 1, 0, none⟩ = false := by simp [World.frozen?, HZ.out]
    have zf1 : X.frozen? ⟨w.heap.size + 1, 1, none⟩ = false := by simp [World.frozen?, HZ.out]
    have zf2 : X.frozen? ⟨w.heap.size + 1, 2, none⟩ = false := by simp [World.frozen?, HZ.out]
    have zf3 : X.frozen? ⟨w.heap.size + 1, 3, none⟩ = false := by simp [World.frozen?, HZ.out]
    have zf4 : X.frozen? ⟨w.heap.size + 1, 4, none⟩ = false := by simp [World.frozen?, HZ.out]
    refine wpAnyH_ready (rs := [11]) (by kernel_rfl) (by simp) ?_
    refine AllReadyH.cons (o := { dst := none, op := Op.store 30 (Operand.tmp 2) (Operand.tmp 13), type := 0, pos := "own.go:97", after := #[{ on := 10, ground := Ground.data }, { on := 9, ground := Ground.chain }, { on := 0, ground := Ground.phase }, { on := 1, ground := Ground.phase }, { on := 2, ground := Ground.phase }, { on := 3, ground := Ground.phase }, { on := 4, ground := Ground.phase }, { on := 5, ground := Ground.phase }, { on := 6, ground := Ground.phase }, { on := 7, ground := Ground.phase }, { on := 8, ground := Ground.phase }, { on := 9, ground := Ground.phase }, { on := 10, ground := Ground.phase }], guard := none }) rfl (fun K hK => ?_) AllReadyH.nil
    go_simp
    go_wp2_with fail
    have HG : Hid (X.grownBy (((((X.setCell ⟨w.heap.size + 1, 0, none⟩ (.int .i64 b)).setCell ⟨w.heap.size + 1, 1, none⟩ (.int .i64 p)).setCell ⟨w.heap.size + 1, 2, none⟩ (.int .i64 s)).setCell ⟨w.heap.size + 1, 3, none⟩ (.slice (some ⟨g, 0, none⟩) n cc)).setCell ⟨w.heap.size + 1, 4, none⟩ (.slice (some ⟨gm, 0, none⟩) m cm)) (some (w.heap.size + 1))) := grownBy_trans (grownBy_trans (grownBy_trans (grownBy_trans (set_grown X _ 0 _) (set_grown _ _ 1 _)) (set_grown _ _ 2 _)) (set_grown _ _ 3 _)) (set_grown _ _ 4 _)
    have HN : Hid ((((((X.setCell ⟨w.heap.size + 1, 0, none⟩ (.int .i64 b)).setCell ⟨w.heap.size + 1, 1, none⟩ (.int .i64 p)).setCell ⟨w.heap.size + 1, 2, none⟩ (.int .i64 s)).setCell ⟨w.heap.size + 1, 3, none⟩ (.slice (some ⟨g, 0, none⟩) n cc)).setCell ⟨w.heap.size + 1, 4, none⟩ (.slice (some ⟨gm, 0, none⟩) m cm)).heap[w.heap.size + 1]? = some (.cells #[.int .i64 b, .int .i64 p, .int .i64 s, .slice (some ⟨g, 0, none⟩) n cc, .slice (some ⟨gm, 0, none⟩) m cm] 30 (0, 0))) := blk5_set HZ.out _ _ _ _ _
    obtain ⟨Y, hY⟩ : ∃ Y, (((((X.setCell ⟨w.heap.size + 1, 0, none⟩ (.int .i64 b)).setCell ⟨w.heap.size + 1, 1, none⟩ (.int .i64 p)).setCell ⟨w.heap.size + 1, 2, none⟩ (.int .i64 s)).setCell ⟨w.heap.size + 1, 3, none⟩ (.slice (some ⟨g, 0, none⟩) n cc)).setCell ⟨w.heap.size + 1, 4, none⟩ (.slice (some ⟨gm, 0, none⟩) m cm)) = Y := ⟨_, rfl⟩
    rw [hY] at HG HN ⊢
    clear hY
    have HAx : Hid (Y.heap[w.heap.size]? = some (.cells #[.int .i64 b, .int .i64 p, .int .i64 s, .slice (some ⟨bk, off, none⟩) n c, .slice (some ⟨mb, mo, none⟩) m c'] 30 (0, 0))) := (HG.out.block _ (lt_of_b HA.out) (fun e9 => by have := Option.some.inj e9; omega)).trans HA.out
    have hSnew := cells5 HAx.out
    refine hK.out _ _ hSnew (fun hHeld11 => ?_)
    clear hK K hSnew
    clear hHeld
    have hHeld := hHeld11
    clear hHeld11
    try simp only [Act.put, List.setIfInBounds_toArray, List.set_cons_zero, List.set_cons_succ]
    refine wpAnyH_done (by kernel_rfl) ?_ _
    go_wp2
    refine bodyPost_ret (v := .agg #[.int .i64 b, .int .i64 p, .int .i64 s, .slice (some ⟨g, 0, none⟩) n cc, .slice (some ⟨gm, 0, none⟩) m cm]) (by obtain ⟨y0, y1, y2, y3, y4⟩ := cells5 HN.out; simp [results, Tryd.results15, go_sem, y0, y1, y2, y3, y4]) rfl ⟨g, cc, gm, cm, rfl, ?_, ?_, ?_⟩
    · exact ownsRow_base (RV.out.kept HG.out (Or.inr (fun e9 => by have h8 : g = w.heap.size + 1 := Option.some.inj e9; omega))) (by omega)
    · exact ownsRow_base (RM.out.kept HG.out (Or.inr (fun e9 => by have h8 : gm = w.heap.size + 1 := Option.some.inj e9; omega))) (by omega)
    · exact HB.out.grown HG.out HB.out.size (fun i9 h9 => by cases h9; omega)
end Go.Proofs.YteefekhlbillfaaDoor
