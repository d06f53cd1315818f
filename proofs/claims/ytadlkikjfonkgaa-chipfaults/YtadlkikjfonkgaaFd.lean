/-
  SEAT Ytadlkikjfonkgaa: calls of a chip.
-/
import Derived.Test.YtadlkikjfonkgaaFb
namespace Go.Proofs.Ytadlkikjfonkgaa
open Go.RowKit Go.Conc
set_option linter.unusedVariables false

theorem Program_any0 (w : World) (p : Nat) (F : Nat → Prop) (C : Ch) (h : ChipAt w p F C) (hok : C.Ok) (pb pp : Int) (da sa : Option Addr) (n1 dc n2 sc : Nat) (hl1 : n1 ≤ 140737488355000) (hl2 : n2 ≤ 140737488355000) (htr : C.tr.length ≤ 3000000000000) (zd zp : List Int) (hD : Reads w da n1 zd) (hZ : Reads w sa n2 zp) (hdF : ∀ y, da = some y → 0 < n1 → ¬ F y.block) (hzF : ∀ y, sa = some y → 0 < n2 → ¬ F y.block) :
    Calls Try.prog 53 #[.pointer (some ⟨p, 0, none⟩), .agg #[.int .i64 pb, .int .i64 pp], .agg #[.slice da n1 dc, .slice sa n2 sc]] w fun e w' => e = .returned (.int .i64 (ProgramC C pb pp n1 n2 (zd ++ zp)).1) ∧ ChipAt w' p (Fx F w w') (ProgramC C pb pp n1 n2 (zd ++ zp)).2 ∧ Only F w w' := by
  unfold ProgramC
  cases hd : C.dark with
  | true =>
    refine (Program_dark w p F C h hok pb pp da sa n1 dc n2 sc hd).mono ?_
    rintro e w' ⟨rfl, hb⟩
    exact ⟨rfl, h.fx hb, Only.ofB hb⟩
  | false =>
    simp only [Bool.false_eq_true, if_false]
    by_cases e1 : n1 = 256 * C.S
    · have d1 : ((n1 : Int) != 256 * (C.S : Int)) = false := by have : (n1 : Int) = 256 * C.S := by omega
                                                                simpa using this
      by_cases e2 : n2 = 54 + 3 * C.S
      · have d2 : ((n2 : Int) != 54 + 3 * (C.S : Int)) = false := by have : (n2 : Int) = 54 + 3 * C.S := by omega
                                                                     simpa using this
        rw [if_neg (by omega)]
        exact Program_ok w p F C h hok pb pp da sa n1 dc n2 sc hl1 hl2 htr hd d1 d2 zd zp hD hZ (fun y hy => hdF y hy (by have := hok.s; omega)) (fun y hy => hzF y hy (by omega))
      · have d2 : ((n2 : Int) != 54 + 3 * (C.S : Int)) = true := by have : ¬ (n2 : Int) = 54 + 3 * C.S := by omega
                                                                    simpa using this
        rw [if_pos (Or.inr e2)]
        refine (Program_n2 w p F C h hok pb pp da sa n1 dc n2 sc hl1 hl2 hd d1 d2).mono ?_
        rintro e w' ⟨rfl, hb⟩
        exact ⟨rfl, h.fx hb, Only.ofB hb⟩
    · have d1 : ((n1 : Int) != 256 * (C.S : Int)) = true := by have : ¬ (n1 : Int) = 256 * C.S := by omega
                                                               simpa using this
      rw [if_pos (Or.inl e1)]
      refine (Program_n1 w p F C h hok pb pp da sa n1 dc n2 sc hl1 hd d1).mono ?_
      rintro e w' ⟨rfl, hb⟩
      exact ⟨rfl, h.fx hb, Only.ofB hb⟩
theorem fx_up {w u v : World} {p : Nat} {F : Nat → Prop} {C : Ch} (h : ChipAt v p (Fx F u v) C) (hb : w.heap.size ≤ u.heap.size) : ChipAt v p (Fx F w v) C :=
  h.grow (Below.refl _ _) (fun k hk => hk.imp (fun h => h) (fun h9 => ⟨Nat.le_trans hb h9.1, h9.2⟩)) (fun k hk => hk.elim (fun h9 => h.fin k (Or.inl h9)) (fun h9 => h9.2))
def DoesV (w w' : World) (p : Nat) (F : Nat → Prop) (C : Ch) (o : Opc) (e : Ending) : Prop := e = .returned (.int .i64 (doesC C o).1) ∧ ChipAt w' p (Fx F w w') (doesC C o).2 ∧ Only F w w'
theorem doesV_of {w u v : World} {p : Nat} {F : Nat → Prop} {C : Ch} {o : Opc} {r : Int × Ch} (hr : doesC C o = r) (hb : Below w.heap.size w u) (hc : ChipAt v p (Fx F u v) r.2) (ho : Only F u v) : DoesV w v p F C o (.returned (.int .i64 r.1)) :=
  ⟨by rw [hr], by rw [hr]; exact fx_up hc hb.size, (Only.ofB hb).trans' ho⟩
set_option maxHeartbeats 4000000 in
set_option maxRecDepth 100000 in
theorem does_any (w : World) (p : Nat) (F : Nat → Prop) (C : Ch) (h : ChipAt w p F C) (hok : C.Ok) (htr : C.tr.length ≤ 3000000000000) (hln : FlN C 4000000000000) (o : Opc) (da : Option Addr) (dn dc : Nat) (za : Option Addr) (zn zc : Nat) (hD : Reads w da dn o.d) (hZ : Reads w za zn o.z) (hdl : dn ≤ 140737488355000) (hzl : zn ≤ 140737488355000) (hdF : ∀ y, da = some y → 0 < dn → ¬ F y.block) (hzF : ∀ y, za = some y → 0 < zn → ¬ F y.block) (hbit : o.bit ≤ 9223372036854775807) :
    Calls Try.prog 22 #[.pointer (some ⟨p, 0, none⟩), .agg #[.int .i64 o.k, .int .i64 o.b, .int .i64 o.p, .int .i64 o.bit, .bool o.fit, .slice da dn dc, .slice za zn zc]] w fun e w' => DoesV w w' p F C o e := by
  have HC := hide h
  have HDr := hide hD
  have HZ := hide hZ
  have hbel := below_alloc w (.cells #[.int .i64 o.k, .int .i64 o.b, .int .i64 o.p, .int .i64 o.bit, .bool o.fit, .slice da dn dc, .slice za zn zc] 56)
  have HB0 := hide hbel
  have HX0 := hide (alloc_new w (.cells #[.int .i64 o.k, .int .i64 o.b, .int .i64 o.p, .int .i64 o.bit, .bool o.fit, .slice da dn dc, .slice za zn zc] 56))
  have HNF : Hid (¬ F w.heap.size) := fun hf => by have := h.fin _ hf; omega
  clear h hD hZ hbel
  by_cases k1 : o.k = 1
  · have hdc : doesC C o = ProgramC C o.b o.p (o.n1 C.S) (o.n2 C.S) (o.want C.S) := if_pos k1
    have HDC := hide hdc
    have d1 : (o.k == 1) = true := by simp [k1]
    have HB1 : Hid (Below w.heap.size w (w.alloc (.cells #[.int .i64 o.k, .int .i64 o.b, .int .i64 o.p, .int .i64 o.bit, .bool o.fit, .slice da dn dc, .slice za zn zc] 56)).drew) := below_trans HB0.out (drew_below _)
    have HX1 : Hid ((w.alloc (.cells #[.int .i64 o.k, .int .i64 o.b, .int .i64 o.p, .int .i64 o.bit, .bool o.fit, .slice da dn dc, .slice za zn zc] 56)).drew.heap[w.heap.size]? = some (.cells #[.int .i64 o.k, .int .i64 o.b, .int .i64 o.p, .int .i64 o.bit, .bool o.fit, .slice da dn dc, .slice za zn zc] 56 (0, 0))) := HX0.out
    have HK1 := hide k1
    clear hdc k1
    go_enter Try.func22, Try.ntmps22
    go_upto_region 3 with fail
    refine wp_region_held_drew (S := (fun u => u.cell? ⟨w.heap.size, 0, none⟩ = some (.int .i64 o.k) ∧ u.cell? ⟨w.heap.size, 1, none⟩ = some (.int .i64 o.b) ∧ u.cell? ⟨w.heap.size, 2, none⟩ = some (.int .i64 o.p) ∧ u.cell? ⟨w.heap.size, 3, none⟩ = some (.int .i64 o.bit) ∧ u.cell? ⟨w.heap.size, 4, none⟩ = some (.bool o.fit) ∧ u.cell? ⟨w.heap.size, 5, none⟩ = some (.slice da dn dc) ∧ u.cell? ⟨w.heap.size, 6, none⟩ = some (.slice za zn zc))) (by kernel_rfl) (cells7 HX1.out) (fun hHeld => ?_)
    refine wpAnyH_take (i := 0) (oi := { dst := some 9, op := Op.move (Operand.tmp 0), type := 29, pos := "outright.go:69", after := #[], guard := none }) (v := ?v0) rfl (by kernel_rfl) (by kernel_rfl) (by kernel_rfl) (fun _ _ _ h => h) (Or.inl ⟨by rfl, ?y0⟩) (by assumption) ?r0
    case y0 => (intro x hx; (try dsimp only at hx); go_simp; try with_reducible rfl)
    try simp only [Act.put, List.setIfInBounds_toArray, List.set_cons_zero, List.set_cons_succ]
    refine wpAnyH_take (i := 1) (oi := { dst := some 10, op := Op.fieldAddr 56 (Operand.tmp 3) 1, type := 0, pos := "outright.go:69", after := #[], guard := none }) (v := ?v1) rfl (by kernel_rfl) (by kernel_rfl) (by kernel_rfl) (fun _ _ _ h => h) (Or.inl ⟨by rfl, ?y1⟩) (by assumption) ?r1
    case y1 => (intro x hx; (try dsimp only at hx); go_simp; try with_reducible rfl)
    try simp only [Act.put, List.setIfInBounds_toArray, List.set_cons_zero, List.set_cons_succ]
    refine wpAnyH_take (i := 2) (oi := { dst := some 11, op := Op.load 41 (Operand.tmp 10), type := 41, pos := "outright.go:69", after := #[{ on := 1, ground := Ground.data }], guard := none }) (v := ?v2) rfl (by kernel_rfl) (by kernel_rfl) (by kernel_rfl) (fun _ _ _ h => h) (Or.inl ⟨by rfl, ?y2⟩) (by assumption) ?r2
    case y2 => (intro x hx; (try dsimp only at hx); go_simp; try with_reducible rfl)
    try simp only [Act.put, List.setIfInBounds_toArray, List.set_cons_zero, List.set_cons_succ]
    refine wpAnyH_take (i := 3) (oi := { dst := some 12, op := Op.load 56 (Operand.tmp 3), type := 56, pos := "outright.go:69", after := #[], guard := none }) (v := ?v3) rfl (by kernel_rfl) (by kernel_rfl) (by kernel_rfl) (fun _ _ _ h => h) (Or.inl ⟨by rfl, ?y3⟩) (by assumption) ?r3
    case y3 => (intro x hx; (try dsimp only at hx); go_simp; try with_reducible rfl)
    try simp only [Act.put, List.setIfInBounds_toArray, List.set_cons_zero, List.set_cons_succ]
    refine wpAnyH_take (i := 4) (oi := { dst := some 13, op := Op.move (Operand.tmp 0), type := 29, pos := "outright.go:69", after := #[], guard := none }) (v := ?v4) rfl (by kernel_rfl) (by kernel_rfl) (by kernel_rfl) (fun _ _ _ h => h) (Or.inl ⟨by rfl, ?y4⟩) (by assumption) ?r4
    case y4 => (intro x hx; (try dsimp only at hx); go_simp; try with_reducible rfl)
    try simp only [Act.put, List.setIfInBounds_toArray, List.set_cons_zero, List.set_cons_succ]
    refine wpAnyH_ready (rs := [5]) (by kernel_rfl) (by simp) ?_
    refine AllReadyH.cons (o := { dst := some 14, op := Op.call { callee := Callee.value (Operand.func 60), args := #[Operand.tmp 13], argTypes := #[29] }, type := 23, pos := "outright.go:69", after := #[{ on := 4, ground := Ground.data }], guard := none }) rfl (fun K hK => ?_) AllReadyH.nil
    go_simp
    go_at_call 60
    refine (geometry_any _ p F C (HC.out.below HB1.out)).mono ?_
    rintro e u2 ⟨rfl, b2⟩
    have HB2 := hide (below_trans HB1.out b2)
    have HX2 := hide ((b2.block _ (lt_of_block HX1.out)).trans HX1.out)
    have hSnew := cells7 HX2.out
    clear b2
    go_wp2_with fail
    refine hK.out _ _ hSnew (fun hHeld5 => ?_)
    clear hK K hSnew
    clear hHeld
    have hHeld := hHeld5
    clear hHeld5
    try simp only [Act.put, List.setIfInBounds_toArray, List.set_cons_zero, List.set_cons_succ]
    refine wpAnyH_ready (rs := [6]) (by kernel_rfl) (by simp) ?_
    refine AllReadyH.cons (o := { dst := some 15, op := Op.call { callee := Callee.value (Operand.func 27), args := #[Operand.tmp 12, Operand.tmp 14], argTypes := #[56, 23] }, type := 36, pos := "outright.go:69", after := #[{ on := 3, ground := Ground.data }, { on := 5, ground := Ground.data }, { on := 5, ground := Ground.chain }], guard := none }) rfl (fun K hK => ?_) AllReadyH.nil
    go_simp
    go_at_call 27
    refine (page_any _ C.B C.P C.S hok.fits o da dn dc za zn zc (HDr.out.below HB2.out) (HZ.out.below HB2.out) (by omega) (by omega)).mono ?_
    rintro e u3 hpg
    obtain ⟨⟨a1, n1, c1, a2, n2, c2, D, Z, rfl, hn1, hn2, hwt, rd1, rd2, w1, w2⟩, b3⟩ := hpg
    have HB3 := hide (below_trans HB2.out b3)
    have HX3 := hide ((b3.block _ (lt_of_block HX2.out)).trans HX2.out)
    have HR1 := hide rd1
    have HR2 := hide rd2
    have HNN := hide (And.intro hn1 (And.intro hn2 hwt))
    have HF1 : Hid (∀ y, a1 = some y → 0 < n1 → ¬ F y.block) := fun y hy h0 hf => (w1 y hy).elim (fun h9 => hdF y h9.1 (by have := h9.2; omega) hf) (fun h9 => by have h8 := HC.out.fin _ hf; have h7 := HB2.out.size; omega)
    have HF2 : Hid (∀ y, a2 = some y → 0 < n2 → ¬ F y.block) := fun y hy h0 hf => (w2 y hy).elim (fun h9 => hzF y h9.1 (by have := h9.2; omega) hf) (fun h9 => by have h8 := HC.out.fin _ hf; have h7 := HB2.out.size; omega)
    have hl1 : n1 ≤ 140737488355000 := by rw [hn1]; unfold Opc.n1; have h6 := HDr.out.1; have h5 := hok.s; split <;> omega
    have hl2 : n2 ≤ 140737488355000 := by rw [hn2]; unfold Opc.n2; have h6 := HZ.out.1; have h5 := hok.s; split <;> omega
    have hSnew := cells7 HX3.out
    clear rd1 rd2 hn1 hn2 hwt w1 w2 b3
    go_wp2_with fail
    refine hK.out _ _ hSnew (fun hHeld6 => ?_)
    clear hK K hSnew
    clear hHeld
    have hHeld := hHeld6
    clear hHeld6
    try simp only [Act.put, List.setIfInBounds_toArray, List.set_cons_zero, List.set_cons_succ]
    refine wpAnyH_ready (rs := [7]) (by kernel_rfl) (by simp) ?_
    refine AllReadyH.cons (o := { dst := some 16, op := Op.call { callee := Callee.value (Operand.func 53), args := #[Operand.tmp 9, Operand.tmp 11, Operand.tmp 15], argTypes := #[29, 41, 36] }, type := 30, pos := "outright.go:69", after := #[{ on := 0, ground := Ground.data }, { on := 2, ground := Ground.data }, { on := 6, ground := Ground.data }, { on := 6, ground := Ground.chain }], guard := none }) rfl (fun K hK => ?_) AllReadyH.nil
    go_simp
    go_at_call 53
    refine (Program_any0 _ p F C (HC.out.below HB3.out) hok o.b o.p a1 a2 n1 c1 n2 c2 hl1 hl2 htr D Z HR1.out HR2.out HF1.out HF2.out).mono ?_
    rintro e u4 ⟨rfl, hc4, ho4⟩
    have HC4 := hide hc4
    have HO4 := hide ho4
    have hSnew := cells7 ((ho4.block _ (lt_of_block HX3.out) HNF.out).trans HX3.out)
    clear hc4 ho4
    go_wp2_with fail
    refine hK.out _ _ hSnew (fun hHeld7 => ?_)
    clear hK K hSnew
    clear hHeld
    have hHeld := hHeld7
    clear hHeld7
    try simp only [Act.put, List.setIfInBounds_toArray, List.set_cons_zero, List.set_cons_succ]
    refine wpAnyH_take (i := 8) (oi := { dst := some 4, op := Op.assign (Operand.tmp 16), type := 30, pos := "outright.go:69", after := #[{ on := 7, ground := Ground.data }, { on := 7, ground := Ground.chain }, { on := 0, ground := Ground.phase }, { on := 1, ground := Ground.phase }, { on := 2, ground := Ground.phase }, { on := 3, ground := Ground.phase }, { on := 4, ground := Ground.phase }, { on := 5, ground := Ground.phase }, { on := 6, ground := Ground.phase }, { on := 7, ground := Ground.phase }], guard := none }) (v := ?v8) rfl (by kernel_rfl) (by kernel_rfl) (by kernel_rfl) (fun _ _ _ h => h) (Or.inl ⟨by rfl, ?y8⟩) (by assumption) ?r8
    case y8 => (intro x hx; (try dsimp only at hx); go_simp; try with_reducible rfl)
    try simp only [Act.put, List.setIfInBounds_toArray, List.set_cons_zero, List.set_cons_succ]
    refine wpAnyH_done (by kernel_rfl) ?_ _
    clear hHeld
    go_wp2
    go_ret
    refine doesV_of (r := ProgramC C o.b o.p n1 n2 (D ++ Z)) ?_ HB3.out HC4.out HO4.out
    rw [HDC.out, ← HNN.out.1, ← HNN.out.2.1, ← HNN.out.2.2]
  have d1 : (o.k == 1) = false := by simp [k1]
  by_cases k2 : o.k = 2
  · have HDC : Hid (doesC C o = EraseC C o.b) := (if_neg k1).trans (if_pos k2)
    have d2 : (o.k == 2) = true := by simp [k2]
    clear k1 k2
    go_enter Try.func22, Try.ntmps22
    go_wp2_with (first | (go_at_call 51; refine (Erase_any _ p F C (HC.out.below HB0.out) hok htr o.b).mono ?_; rintro e u4 ⟨rfl, hc4, ho4⟩; have HC4 := hide hc4; have HO4 := hide ho4; clear hc4 ho4))
    go_ret
    exact doesV_of HDC.out HB0.out HC4.out HO4.out
  have d2 : (o.k == 2) = false := by simp [k2]
  by_cases k3 : o.k = 3
  · have HDC : Hid (doesC C o = MarkC C o.b) := (if_neg k1).trans ((if_neg k2).trans (if_pos k3))
    have d3 : (o.k == 3) = true := by simp [k3]
    clear k1 k2 k3
    go_enter Try.func22, Try.ntmps22
    go_wp2_with (first | (go_at_call 52; refine (Mark_any _ p F C (HC.out.below HB0.out) hok htr o.b).mono ?_; rintro e u4 ⟨rfl, hc4, ho4⟩; have HC4 := hide hc4; have HO4 := hide ho4; clear hc4 ho4))
    go_ret
    exact doesV_of HDC.out HB0.out HC4.out HO4.out
  have d3 : (o.k == 3) = false := by simp [k3]
  by_cases k4 : o.k = 4
  · have HDC : Hid (doesC C o = FlipC C o.b o.p o.bit) := (if_neg k1).trans ((if_neg k2).trans ((if_neg k3).trans (if_pos k4)))
    have d4 : (o.k == 4) = true := by simp [k4]
    clear k1 k2 k3 k4
    go_enter Try.func22, Try.ntmps22
    go_wp2_with (first | (go_at_call 56; refine (Flip_any _ p F C (HC.out.below HB0.out) hok hln o.b o.p o.bit hbit).mono ?_; rintro e u4 ⟨rfl, hc4, ho4⟩; have HC4 := hide hc4; have HO4 := hide ho4; clear hc4 ho4))
    go_ret
    exact doesV_of HDC.out HB0.out HC4.out HO4.out
  have d4 : (o.k == 4) = false := by simp [k4]
  by_cases k5 : o.k = 5
  · have HDC : Hid (doesC C o = ((0 : Int), { C with dark := false })) := (if_neg k1).trans ((if_neg k2).trans ((if_neg k3).trans ((if_neg k4).trans (if_pos k5))))
    have d5 : (o.k == 5) = true := by simp [k5]
    clear k1 k2 k3 k4 k5
    go_enter Try.func22, Try.ntmps22
    go_wp2_with (first | (go_at_call 25; refine (On_any _ p F C (HC.out.below HB0.out)).mono ?_; rintro e u4 ⟨rfl, hc4, ho4⟩; have HC4 := hide hc4; have HO4 := hide ho4; clear hc4 ho4))
    go_ret
    exact doesV_of (r := ((0 : Int), { C with dark := false })) HDC.out HB0.out (HC4.out.grow (Below.refl _ _) (fun k hk => Or.inl hk) (fun k hk => hk.elim (fun h9 => HC4.out.fin k h9) (fun h9 => h9.2))) HO4.out
  have d5 : (o.k == 5) = false := by simp [k5]
  have HDC : Hid (doesC C o = ((0 : Int), C)) := (if_neg k1).trans ((if_neg k2).trans ((if_neg k3).trans ((if_neg k4).trans (if_neg k5))))
  clear k1 k2 k3 k4 k5
  go_enter Try.func22, Try.ntmps22
  go_wp2
  go_ret
  exact doesV_of (r := ((0 : Int), C)) HDC.out HB0.out ((HC.out.below HB0.out).fx (Below.refl _ _)) (Only.refl _ _)
end Go.Proofs.Ytadlkikjfonkgaa
