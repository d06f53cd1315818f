/-
  SEAT Ytadlkikjfonkgaa: calls of a chip: the page.
-/
import Derived.Test.YtadlkikjfonkgaaFa
namespace Go.Proofs.Ytadlkikjfonkgaa
open Go.RowKit Go.Conc
set_option linter.unusedVariables false

theorem cells7 {w : World} {g : Nat} {c0 c1 c2 c3 c4 c5 c6 : Value} {T : TypeId} (h : w.heap[g]? = some (.cells #[c0, c1, c2, c3, c4, c5, c6] T (0, 0))) : w.cell? ⟨g, 0, none⟩ = some c0 ∧ w.cell? ⟨g, 1, none⟩ = some c1 ∧ w.cell? ⟨g, 2, none⟩ = some c2 ∧ w.cell? ⟨g, 3, none⟩ = some c3 ∧ w.cell? ⟨g, 4, none⟩ = some c4 ∧ w.cell? ⟨g, 5, none⟩ = some c5 ∧ w.cell? ⟨g, 6, none⟩ = some c6 := by
  refine ⟨?_, ?_, ?_, ?_, ?_, ?_, ?_⟩ <;> simp [World.cell?, h]
/-- A page that a call is handed: its rows are the arguments' own, or new. -/
structure PgA (w w' : World) (da : Option Addr) (dn : Nat) (za : Option Addr) (zn : Nat) (S : Nat) (o : Opc) (e : Ending) : Prop where
  ex : ∃ a1 n1 c1 a2 n2 c2 D Z, e = .returned (.agg #[.slice a1 n1 c1, .slice a2 n2 c2]) ∧ n1 = o.n1 S ∧ n2 = o.n2 S ∧ D ++ Z = o.want S ∧ Reads w' a1 n1 D ∧ Reads w' a2 n2 Z ∧ (∀ y, a1 = some y → (da = some y ∧ n1 = dn) ∨ w.heap.size ≤ y.block) ∧ (∀ y, a2 = some y → (za = some y ∧ n2 = zn) ∨ w.heap.size ≤ y.block)
  bel : Below w.heap.size w w'
theorem own_reads' {w : World} {B g n c : Nat} {X : List Int} (h : Own w B g n c X) (hr : ∀ z ∈ X, 0 ≤ z ∧ z ≤ 255) : Reads w (some ⟨g, 0, none⟩) n X := by
  have h1 := h.reads hr n (Nat.le_refl _)
  rw [List.take_of_length_le (by rw [h.len]; exact Nat.le_refl _)] at h1
  exact h1
theorem fitL_range' {b : List Int} (h : ∀ z ∈ b, 0 ≤ z ∧ z ≤ 255) (n : Nat) : ∀ z ∈ fitL b n, 0 ≤ z ∧ z ≤ 255 := by
  intro z hz
  unfold fitL at hz
  obtain ⟨i, _, rfl⟩ := List.mem_map.1 hz
  rw [List.getD_eq_getElem?_getD]
  cases h1 : b[i % b.length]? with
  | none => simp
  | some y => exact h y (List.mem_of_getElem? h1)
structure PB (w u : World) (B P S : Nat) (o : Opc) (da : Option Addr) (dn dc : Nat) (za : Option Addr) (zn zc : Nat) : Prop where
  bel : Below w.heap.size w u
  bo : u.heap[w.heap.size]? = some (.cells #[.int .i64 o.k, .int .i64 o.b, .int .i64 o.p, .int .i64 o.bit, .bool o.fit, .slice da dn dc, .slice za zn zc] 56 (0, 0))
  bg : u.heap[w.heap.size + 1]? = some (.cells #[.int .i64 (B : Int), .int .i64 (P : Int), .int .i64 (S : Int)] 23 (0, 0))
  br : u.heap[w.heap.size + 1 + 1]? = some (.cells #[.slice none 0 0, .slice none 0 0] 36 (0, 0))
section
variable {w u v : World} {B P S : Nat} {o : Opc} {da : Option Addr} {dn dc : Nat} {za : Option Addr} {zn zc : Nat}
theorem PB.keep (h : PB w u B P S o da dn dc za zn zc) (hb : Below u.heap.size u v) : PB w v B P S o da dn dc za zn zc :=
  ⟨below_trans h.bel hb, (hb.block _ (lt_of_block h.bo)).trans h.bo, (hb.block _ (lt_of_block h.bg)).trans h.bg, (hb.block _ (lt_of_block h.br)).trans h.br⟩
theorem PB.start (w : World) (B P S : Nat) (o : Opc) (da : Option Addr) (dn dc : Nat) (za : Option Addr) (zn zc : Nat) : PB w (((w.alloc (.cells #[.int .i64 o.k, .int .i64 o.b, .int .i64 o.p, .int .i64 o.bit, .bool o.fit, .slice da dn dc, .slice za zn zc] 56)).alloc (.cells #[.int .i64 (B : Int), .int .i64 (P : Int), .int .i64 (S : Int)] 23)).alloc (.cells #[.slice none 0 0, .slice none 0 0] 36)) B P S o da dn dc za zn zc := by
  refine ⟨below_trans (below_trans (below_alloc _ _) (below_alloc _ _)) (below_alloc _ _), ?_, ?_, ?_⟩
  · exact (alloc_old _ _ (by simp; omega)).trans ((alloc_old _ _ (by simp)).trans (alloc_new w _))
  · refine (alloc_old _ _ (by simp)).trans ?_
    have h9 := alloc_new (w.alloc (.cells #[.int .i64 o.k, .int .i64 o.b, .int .i64 o.p, .int .i64 o.bit, .bool o.fit, .slice da dn dc, .slice za zn zc] 56)) (.cells #[.int .i64 (B : Int), .int .i64 (P : Int), .int .i64 (S : Int)] 23)
    rw [alloc_size] at h9
    exact h9
  · have h9 := alloc_new ((w.alloc (.cells #[.int .i64 o.k, .int .i64 o.b, .int .i64 o.p, .int .i64 o.bit, .bool o.fit, .slice da dn dc, .slice za zn zc] 56)).alloc (.cells #[.int .i64 (B : Int), .int .i64 (P : Int), .int .i64 (S : Int)] 23)) (.cells #[.slice none 0 0, .slice none 0 0] 36)
    rw [alloc_size, alloc_size] at h9
    exact h9
theorem PB.s (h : PB w u B P S o da dn dc za zn zc) : u.cell? ⟨w.heap.size, 5, none⟩ = some (.slice da dn dc) ∧ u.cell? ⟨w.heap.size, 6, none⟩ = some (.slice za zn zc) ∧ u.cell? ⟨w.heap.size + 1, 0, none⟩ = some (.int .i64 (B : Int)) ∧ u.cell? ⟨w.heap.size + 1, 1, none⟩ = some (.int .i64 (P : Int)) ∧ u.cell? ⟨w.heap.size + 1, 2, none⟩ = some (.int .i64 (S : Int)) := by
  obtain ⟨_, _, _, _, _, h5, h6⟩ := cells7 h.bo
  obtain ⟨g0, g1, g2⟩ := cells3 h.bg
  exact ⟨h5, h6, g0, g1, g2⟩
theorem PB.store (h : PB w u B P S o da dn dc za zn zc) (v0 v1 : Value) : Below w.heap.size w ((u.setCell ⟨w.heap.size + 1 + 1, 0, none⟩ v0).setCell ⟨w.heap.size + 1 + 1, 1, none⟩ v1) ∧ ((u.setCell ⟨w.heap.size + 1 + 1, 0, none⟩ v0).setCell ⟨w.heap.size + 1 + 1, 1, none⟩ v1).heap[w.heap.size + 1 + 1]? = some (.cells #[v0, v1] 36 (0, 0)) ∧ Only (· = w.heap.size + 1 + 1) u ((u.setCell ⟨w.heap.size + 1 + 1, 0, none⟩ v0).setCell ⟨w.heap.size + 1 + 1, 1, none⟩ v1) := by
  have ho : Only (· = w.heap.size + 1 + 1) u ((u.setCell ⟨w.heap.size + 1 + 1, 0, none⟩ v0).setCell ⟨w.heap.size + 1 + 1, 1, none⟩ v1) := (Only.setCell (· = w.heap.size + 1 + 1) u (w.heap.size + 1 + 1) 0 v0 rfl).trans' (Only.setCell _ _ (w.heap.size + 1 + 1) 1 v1 rfl)
  exact ⟨h.bel.trans (ho.below (fun j hj => by omega) h.bel.size), heap_setCell_same _ _ 1 #[v0, .slice none 0 0] 36 v1 (heap_setCell_same u _ 0 _ 36 v0 h.br), ho⟩
end
theorem reads_only {w w' : World} {a : Option Addr} {l : Nat} {zs : List Int} {g : Nat} (h : Reads w a l zs) (ho : Only (· = g) w w') {c0 c1 : Value} (hg : w.heap[g]? = some (.cells #[c0, c1] 36 (0, 0))) (hne : ∀ y, a = some y → 0 < l → y.block ≠ g) : Reads w' a l zs :=
  reads_keep h (fun x hx h0 => by
    obtain ⟨b, off, e, hb, _⟩ := h.pos h0
    rw [e] at hx
    cases hx
    exact ho.block _ hb (hne _ e h0))
theorem pb_s {w u v : World} {B P S : Nat} {o : Opc} {da : Option Addr} {dn dc : Nat} {za : Option Addr} {zn zc : Nat} (h : PB w u B P S o da dn dc za zn zc) (ho : Only (· = w.heap.size + 1 + 1) u v) : v.cell? ⟨w.heap.size, 5, none⟩ = some (.slice da dn dc) ∧ v.cell? ⟨w.heap.size, 6, none⟩ = some (.slice za zn zc) ∧ v.cell? ⟨w.heap.size + 1, 0, none⟩ = some (.int .i64 (B : Int)) ∧ v.cell? ⟨w.heap.size + 1, 1, none⟩ = some (.int .i64 (P : Int)) ∧ v.cell? ⟨w.heap.size + 1, 2, none⟩ = some (.int .i64 (S : Int)) := by
  obtain ⟨a, b, c, d, e⟩ := h.s
  exact ⟨ho.cell a (by omega), ho.cell b (by omega), ho.cell c (by omega), ho.cell d (by omega), ho.cell e (by omega)⟩
set_option maxHeartbeats 4000000 in
set_option maxRecDepth 100000 in
theorem page_any (w : World) (B P S : Nat) (hf : Fits B P S = true) (o : Opc) (da : Option Addr) (dn dc : Nat) (za : Option Addr) (zn zc : Nat) (hD : Reads w da dn o.d) (hZ : Reads w za zn o.z) (hdl : dn ≤ 9223372036854775807) (hzl : zn ≤ 9223372036854775807) :
    Calls Try.prog 27 #[.agg #[.int .i64 o.k, .int .i64 o.b, .int .i64 o.p, .int .i64 o.bit, .bool o.fit, .slice da dn dc, .slice za zn zc], .agg #[.int .i64 (B : Int), .int .i64 (P : Int), .int .i64 (S : Int)]] w fun e w' => PgA w w' da dn za zn S o e := by
  have hFB := of_decide_eq_true hf
  have hS : 1 ≤ S ∧ S ≤ 8 := by omega
  have H0 := hide (PB.start w B P S o da dn dc za zn zc)
  have HDL := hide hD.1
  have HZL := hide hZ.1
  have HDr := hide hD
  have HZ := hide hZ
  clear hFB hD hZ
  cases hfit : o.fit with
  | false =>
    have HFI := hide hfit
    go_enter Try.func27, Try.ntmps27
    go_wp2
    have hb := below_trans (below_trans (below_alloc w (.cells #[.int .i64 o.k, .int .i64 o.b, .int .i64 o.p, .int .i64 o.bit, .bool false, .slice da dn dc, .slice za zn zc] 56)) (below_alloc _ (.cells #[.int .i64 (B : Int), .int .i64 (P : Int), .int .i64 (S : Int)] 23))) (below_alloc _ (.cells #[.slice da dn dc, .slice za zn zc] 36))
    refine bodyPost_ret (v := .agg #[.slice da dn dc, .slice za zn zc]) (by simp [results, Try.results27, go_sem]) rfl ?_
    have h1 := HDL.out
    have h2 := HZL.out
    exact ⟨⟨da, dn, dc, za, zn, zc, o.d, o.z, rfl, by simp [Opc.n1, hfit, h1], by simp [Opc.n2, hfit, h2], by simp [Opc.want, hfit], HDr.out.below hb, HZ.out.below hb, fun y hy => Or.inl ⟨hy, rfl⟩, fun y hy => Or.inl ⟨hy, rfl⟩⟩, hb⟩
  | true =>
    have HFI := hide hfit
    obtain ⟨n1, hn1⟩ : ∃ n1, n1 = 256 * S := ⟨_, rfl⟩
    obtain ⟨n2, hn2⟩ : ∃ n2, n2 = 54 + 3 * S := ⟨_, rfl⟩
    have HN1 : Hid ((256 : Int) * (S : Int) = (n1 : Int)) := by unfold Hid; omega
    have HN2 : Hid ((54 : Int) + 3 * (S : Int) = (n2 : Int)) := by unfold Hid; omega
    have HE := hide (And.intro hn1 hn2)
    have p1 : 0 < n1 := by omega
    have p2 : 0 < n2 := by omega
    have l1 : n1 ≤ 1000000 := by omega
    have l2 : n2 ≤ 1000000 := by omega
    have hSi : (1 : Int) ≤ (S : Int) ∧ (S : Int) ≤ 8 := by omega
    clear hn1 hn2
    have H0 : Hid (PB w (((w.alloc (.cells #[.int .i64 o.k, .int .i64 o.b, .int .i64 o.p, .int .i64 o.bit, .bool true, .slice da dn dc, .slice za zn zc] 56)).alloc (.cells #[.int .i64 (B : Int), .int .i64 (P : Int), .int .i64 (S : Int)] 23)).alloc (.cells #[.slice none 0 0, .slice none 0 0] 36)) B P S o da dn dc za zn zc) := by rw [← hfit]; exact H0
    go_enter Try.func27, Try.ntmps27
    go_upto_region 4 with (first | (go_at_call 42; refine (rSpare_any _ B P S hf).mono ?_; rintro e u0 ⟨rfl, b0⟩; rw [HN2.out]; have H1 := hide (H0.out.keep b0); clear b0))
    have H2 := hide (H1.out.keep (drew_below _))
    refine wp_region_held_drew (S := (fun u => u.cell? ⟨w.heap.size, 5, none⟩ = some (.slice da dn dc) ∧ u.cell? ⟨w.heap.size, 6, none⟩ = some (.slice za zn zc) ∧ u.cell? ⟨w.heap.size + 1, 0, none⟩ = some (.int .i64 (B : Int)) ∧ u.cell? ⟨w.heap.size + 1, 1, none⟩ = some (.int .i64 (P : Int)) ∧ u.cell? ⟨w.heap.size + 1, 2, none⟩ = some (.int .i64 (S : Int)))) (by kernel_rfl) (H2.out.s) (fun hHeld => ?_)
    refine wpAnyH_take (i := 0) (oi := { dst := some 17, op := Op.fieldAddr 56 (Operand.tmp 2) 4, type := 0, pos := "law.go:41", after := #[], guard := none }) (v := ?v0) rfl (by kernel_rfl) (by kernel_rfl) (by kernel_rfl) (fun _ _ _ h => h) (Or.inl ⟨by rfl, ?y0⟩) (by assumption) ?r0
    case y0 => (intro x hx; (try dsimp only at hx); go_simp; try with_reducible rfl)
    try simp only [Act.put, List.setIfInBounds_toArray, List.set_cons_zero, List.set_cons_succ]
    refine wpAnyH_take (i := 1) (oi := { dst := some 18, op := Op.fieldAddr 36 (Operand.tmp 17) 0, type := 0, pos := "law.go:41", after := #[{ on := 0, ground := Ground.data }], guard := none }) (v := ?v1) rfl (by kernel_rfl) (by kernel_rfl) (by kernel_rfl) (fun _ _ _ h => h) (Or.inl ⟨by rfl, ?y1⟩) (by assumption) ?r1
    case y1 => (intro x hx; (try dsimp only at hx); go_simp; try with_reducible rfl)
    try simp only [Act.put, List.setIfInBounds_toArray, List.set_cons_zero, List.set_cons_succ]
    refine wpAnyH_take (i := 2) (oi := { dst := some 19, op := Op.load 24 (Operand.tmp 18), type := 24, pos := "law.go:41", after := #[{ on := 1, ground := Ground.data }], guard := none }) (v := ?v2) rfl (by kernel_rfl) (by kernel_rfl) (by kernel_rfl) (fun _ _ _ h => h) (Or.inl ⟨by rfl, ?y2⟩) (by assumption) ?r2
    case y2 => (intro x hx; (try dsimp only at hx); go_simp; try with_reducible rfl)
    try simp only [Act.put, List.setIfInBounds_toArray, List.set_cons_zero, List.set_cons_succ]
    refine wpAnyH_take (i := 3) (oi := { dst := some 20, op := Op.load 23 (Operand.tmp 3), type := 23, pos := "law.go:41", after := #[], guard := none }) (v := ?v3) rfl (by kernel_rfl) (by kernel_rfl) (by kernel_rfl) (fun _ _ _ h => h) (Or.inl ⟨by rfl, ?y3⟩) (by assumption) ?r3
    case y3 => (intro x hx; (try dsimp only at hx); go_simp; try with_reducible rfl)
    try simp only [Act.put, List.setIfInBounds_toArray, List.set_cons_zero, List.set_cons_succ]
    refine wpAnyH_take (i := 6) (oi := { dst := some 23, op := Op.fieldAddr 56 (Operand.tmp 2) 4, type := 0, pos := "law.go:41", after := #[], guard := none }) (v := ?v6) rfl (by kernel_rfl) (by kernel_rfl) (by kernel_rfl) (fun _ _ _ h => h) (Or.inl ⟨by rfl, ?y6⟩) (by assumption) ?r6
    case y6 => (intro x hx; (try dsimp only at hx); go_simp; try with_reducible rfl)
    try simp only [Act.put, List.setIfInBounds_toArray, List.set_cons_zero, List.set_cons_succ]
    refine wpAnyH_take (i := 7) (oi := { dst := some 24, op := Op.fieldAddr 36 (Operand.tmp 23) 1, type := 0, pos := "law.go:41", after := #[{ on := 6, ground := Ground.data }], guard := none }) (v := ?v7) rfl (by kernel_rfl) (by kernel_rfl) (by kernel_rfl) (fun _ _ _ h => h) (Or.inl ⟨by rfl, ?y7⟩) (by assumption) ?r7
    case y7 => (intro x hx; (try dsimp only at hx); go_simp; try with_reducible rfl)
    try simp only [Act.put, List.setIfInBounds_toArray, List.set_cons_zero, List.set_cons_succ]
    refine wpAnyH_take (i := 8) (oi := { dst := some 25, op := Op.load 24 (Operand.tmp 24), type := 24, pos := "law.go:41", after := #[{ on := 7, ground := Ground.data }], guard := none }) (v := ?v8) rfl (by kernel_rfl) (by kernel_rfl) (by kernel_rfl) (fun _ _ _ h => h) (Or.inl ⟨by rfl, ?y8⟩) (by assumption) ?r8
    case y8 => (intro x hx; (try dsimp only at hx); go_simp; try with_reducible rfl)
    try simp only [Act.put, List.setIfInBounds_toArray, List.set_cons_zero, List.set_cons_succ]
    refine wpAnyH_take (i := 9) (oi := { dst := some 26, op := Op.move (Operand.tmp 5), type := 3, pos := "law.go:41", after := #[], guard := none }) (v := ?v9) rfl (by kernel_rfl) (by kernel_rfl) (by kernel_rfl) (fun _ _ _ h => h) (Or.inl ⟨by rfl, ?y9⟩) (by assumption) ?r9
    case y9 => (intro x hx; (try dsimp only at hx); go_simp; try with_reducible rfl)
    try simp only [Act.put, List.setIfInBounds_toArray, List.set_cons_zero, List.set_cons_succ]
    refine wpAnyH_ready (rs := [4]) (by kernel_rfl) (by simp) ?_
    refine AllReadyH.cons (o := { dst := some 21, op := Op.call { callee := Callee.value (Operand.func 44), args := #[Operand.tmp 20], argTypes := #[23] }, type := 3, pos := "law.go:41", after := #[{ on := 3, ground := Ground.data }], guard := none }) rfl (fun K hK => ?_) AllReadyH.nil
    go_simp
    go_at_call 44
    refine (rdata_any _ _ _ _ (by omega) (by omega)).mono ?_
    rintro e u3 ⟨rfl, b3⟩
    rw [HN1.out]
    have H3 := hide (H2.out.keep b3)
    have hSnew := H3.out.s
    clear b3
    go_wp2_with fail
    refine hK.out _ _ hSnew (fun hHeld4 => ?_)
    clear hK K hSnew
    clear hHeld
    have hHeld := hHeld4
    clear hHeld4
    try simp only [Act.put, List.setIfInBounds_toArray, List.set_cons_zero, List.set_cons_succ]
    refine wpAnyH_ready (rs := [5]) (by kernel_rfl) (by simp) ?_
    refine AllReadyH.cons (o := { dst := some 22, op := Op.call { callee := Callee.value (Operand.func 43), args := #[Operand.tmp 19, Operand.tmp 21], argTypes := #[24, 3] }, type := 24, pos := "law.go:41", after := #[{ on := 2, ground := Ground.data }, { on := 4, ground := Ground.data }, { on := 4, ground := Ground.chain }], guard := none }) rfl (fun K hK => ?_) AllReadyH.nil
    go_simp
    go_at_call 43
    refine (fit_any da dn dc o.d _ (HDr.out.below H3.out.bel) hdl n1 (by omega)).mono ?_
    rintro e u4 ⟨v4, rfl, ow4, b4⟩
    obtain ⟨g1, c1, rfl, _⟩ := own_shape ow4 (by omega)
    have H4 := hide (H3.out.keep b4)
    have HO1 := hide ow4
    have HLO1 := hide (Own.lt ow4).1
    have hSnew := H4.out.s
    clear b4 ow4
    go_wp2_with fail
    refine hK.out _ _ hSnew (fun hHeld5 => ?_)
    clear hK K hSnew
    clear hHeld
    have hHeld := hHeld5
    clear hHeld5
    try simp only [Act.put, List.setIfInBounds_toArray, List.set_cons_zero, List.set_cons_succ]
    refine wpAnyH_ready (rs := [10]) (by kernel_rfl) (by simp) ?_
    refine AllReadyH.cons (o := { dst := some 27, op := Op.call { callee := Callee.value (Operand.func 43), args := #[Operand.tmp 25, Operand.tmp 26], argTypes := #[24, 3] }, type := 24, pos := "law.go:41", after := #[{ on := 8, ground := Ground.data }, { on := 9, ground := Ground.data }, { on := 5, ground := Ground.chain }], guard := none }) rfl (fun K hK => ?_) AllReadyH.nil
    go_simp
    go_at_call 43
    refine (fit_any za zn zc o.z _ (HZ.out.below H4.out.bel) hzl n2 (by omega)).mono ?_
    rintro e u5 ⟨v5, rfl, ow5, b5⟩
    obtain ⟨g2, c2, rfl, _⟩ := own_shape ow5 (by omega)
    have H5 := hide (H4.out.keep b5)
    have HO2 := hide ow5
    have HO1b := hide (Own.below HO1.out b5)
    have hSnew := H5.out.s
    obtain ⟨x0, x1⟩ := cells2 H5.out.br
    have fx := fun j => frozen_of_row u5 (w.heap.size + 1 + 1) j _ 36 H5.out.br
    clear b5 ow5
    go_wp2_with fail
    refine hK.out _ _ hSnew (fun hHeld10 => ?_)
    clear hK K hSnew
    clear hHeld
    have hHeld := hHeld10
    clear hHeld10
    try simp only [Act.put, List.setIfInBounds_toArray, List.set_cons_zero, List.set_cons_succ]
    refine wpAnyH_take (i := 11) (oi := { dst := some 28, op := Op.build 36 #[(0, Operand.tmp 22), (1, Operand.tmp 27)], type := 36, pos := "law.go:41", after := #[{ on := 5, ground := Ground.data }, { on := 10, ground := Ground.data }], guard := none }) (v := ?v11) rfl (by kernel_rfl) (by kernel_rfl) (by kernel_rfl) (fun _ _ _ h => h) (Or.inl ⟨by rfl, ?y11⟩) (by assumption) ?r11
    case y11 => (intro x hx; (try dsimp only at hx); go_simp; try with_reducible rfl)
    try simp only [Act.put, List.setIfInBounds_toArray, List.set_cons_zero, List.set_cons_succ]
    refine wpAnyH_ready (rs := [12]) (by kernel_rfl) (by simp) ?_
    refine AllReadyH.cons (o := { dst := none, op := Op.store 36 (Operand.tmp 4) (Operand.tmp 28), type := 0, pos := "law.go:41", after := #[{ on := 11, ground := Ground.data }, { on := 10, ground := Ground.chain }, { on := 0, ground := Ground.phase }, { on := 1, ground := Ground.phase }, { on := 2, ground := Ground.phase }, { on := 3, ground := Ground.phase }, { on := 4, ground := Ground.phase }, { on := 5, ground := Ground.phase }, { on := 6, ground := Ground.phase }, { on := 7, ground := Ground.phase }, { on := 8, ground := Ground.phase }, { on := 9, ground := Ground.phase }, { on := 10, ground := Ground.phase }, { on := 11, ground := Ground.phase }], guard := none }) rfl (fun K hK => ?_) AllReadyH.nil
    go_simp
    go_wp2_with fail
    have HST := H5.out.store (.slice (some ⟨g1, 0, none⟩) n1 c1) (.slice (some ⟨g2, 0, none⟩) n2 c2)
    have HS1 := hide HST
    have hSnew := pb_s H5.out HST.2.2
    clear HST
    refine hK.out _ _ hSnew (fun hHeld12 => ?_)
    clear hK K hSnew
    clear hHeld
    have hHeld := hHeld12
    clear hHeld12
    try simp only [Act.put, List.setIfInBounds_toArray, List.set_cons_zero, List.set_cons_succ]
    refine wpAnyH_done (by kernel_rfl) ?_ _
    clear hHeld x0 x1 fx
    obtain ⟨st1, st2, st3⟩ := HS1.out
    generalize hU : World.setCell _ ⟨w.heap.size + 1 + 1, 1, none⟩ _ = U9 at st1 st2 st3 ⊢
    obtain ⟨y0, y1⟩ := cells2 st2
    go_wp2
    refine bodyPost_ret (v := .agg #[.slice (some ⟨g1, 0, none⟩) n1 c1, .slice (some ⟨g2, 0, none⟩) n2 c2]) (by simp [results, Try.results27, go_sem, y0, y1]) rfl ?_
    have e1 := HE.out.1
    have e2 := HE.out.2
    have q1 : Reads u5 (some ⟨g1, 0, none⟩) n1 (fitL o.d n1) := own_reads' HO1b.out (fitL_range' HDr.out.2.1 _)
    have q2 : Reads u5 (some ⟨g2, 0, none⟩) n2 (fitL o.z n2) := own_reads' HO2.out (fitL_range' HZ.out.2.1 _)
    have hw3 := lt_of_block H3.out.br
    have hw4 := lt_of_block H4.out.br
    have hg1 : u3.heap.size ≤ g1 := HO1b.out.lt.1
    have hg2 : u4.heap.size ≤ g2 := (HO2.out.lt g2 rfl).1
    refine ⟨⟨_, _, _, _, _, _, fitL o.d n1, fitL o.z n2, rfl, by simp [Opc.n1, HFI.out, e1], by simp [Opc.n2, HFI.out, e2], by simp [Opc.want, HFI.out, e1, e2], reads_only q1 st3 H5.out.br (fun y hy _ => by cases hy; show g1 ≠ _; omega), reads_only q2 st3 H5.out.br (fun y hy _ => by cases hy; show g2 ≠ _; omega), fun y hy => ?_, fun y hy => ?_⟩, st1⟩
    · cases hy; exact Or.inr (show w.heap.size ≤ g1 by omega)
    · cases hy; exact Or.inr (show w.heap.size ≤ g2 by omega)
end Go.Proofs.Ytadlkikjfonkgaa
