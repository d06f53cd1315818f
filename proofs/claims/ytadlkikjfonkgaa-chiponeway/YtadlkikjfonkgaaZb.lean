/-
  SEAT Ytadlkikjfonkgaa: Fb, Fd, Fe, Ff.
-/
import Derived.Test.YtadlkikjfonkgaaZa
namespace Go.Proofs.Ytadlkikjfonkgaa
open Go.RowKit Go.Conc
set_option linter.unusedVariables false

theorem cells7 {w : World} {g : Nat} {c0 c1 c2 c3 c4 c5 c6 : Value} {T : TypeId} (h : w.heap[g]? = some (.cells #[c0, c1, c2, c3, c4, c5, c6] T (0, 0))) : w.cell? ⟨g, 0, none⟩ = some c0 ∧ w.cell? ⟨g, 1, none⟩ = some c1 ∧ w.cell? ⟨g, 2, none⟩ = some c2 ∧ w.cell? ⟨g, 3, none⟩ = some c3 ∧ w.cell? ⟨g, 4, none⟩ = some c4 ∧ w.cell? ⟨g, 5, none⟩ = some c5 ∧ w.cell? ⟨g, 6, none⟩ = some c6 := by
  refine ⟨?_, ?_, ?_, ?_, ?_, ?_, ?_⟩ <;> simp [World.cell?, h]
/-- A page that a call is handed: its rows are the arguments' own, or new. -/
structure PgA (w w' : World) (da : Option Addr) (dn : Nat) (za : Option Addr) (zn : Nat) (S : Nat) (o : Opc) (e : Ending) : Prop where
  ex : ∃ a1 n1 c1 a2 n2 c2 D Z, e = .returned (.agg #[.slice a1 n1 c1, .slice a2 n2 c2]) ∧ n1 = o.n1 S ∧ n2 = o.n2 S ∧ D ++ Z = o.want S ∧ Reads w' a1 n1 D ∧ Reads w' a2 n2 Z ∧ (∀ y, a1 = some y → (da = some y ∧ n1 = dn) ∨ w.heap.size ≤ y.block) ∧ (∀ y, a2 = some y → (za = some y ∧ n2 = zn) ∨ w.heap.size ≤ y.block)
  bel : Below w.heap.size w w'
theorem own_reads' {w : World} {B g n c : Nat} {X : List Int} (h : Own w B g n c X) (hr : ∀ z ∈ X, 0 ≤ z ∧ z ≤ 255) : Reads w (some ⟨g, 0, none⟩) n X := by
  have h1 := h.reads hr n (Nat.le_refl _)
  rw [List.take_of_length_le (by rw [h.len]; exact Nat.le_refl _)] at h1
  exact h1
theorem fitL_range' {b : List Int} (h : ∀ z ∈ b, 0 ≤ z ∧ z ≤ 255) (n : Nat) : ∀ z ∈ fitL b n, 0 ≤ z ∧ z ≤ 255 := by
  intro z hz
  unfold fitL at hz
  obtain ⟨i, _, rfl⟩ := List.mem_map.1 hz
  rw [List.getD_eq_getElem?_getD]
  cases h1 : b[i % b.length]? with
  | none => simp
  | some y => exact h y (List.mem_of_getElem? h1)
structure PB (w u : World) (B P S : Nat) (o : Opc) (da : Option Addr) (dn dc : Nat) (za : Option Addr) (zn zc : Nat) : Prop where
  bel : Below w.heap.size w u
  bo : u.heap[w.heap.size]? = some (.cells #[.int .i64 o.k, .int .i64 o.b, .int .i64 o.p, .int .i64 o.bit, .bool o.fit, .slice da dn dc, .slice za zn zc] 56 (0, 0))
  bg : u.heap[w.heap.size + 1]? = some (.cells #[.int .i64 (B : Int), .int .i64 (P : Int), .int .i64 (S : Int)] 23 (0, 0))
  br : u.heap[w.heap.size + 1 + 1]? = some (.cells #[.slice none 0 0, .slice none 0 0] 36 (0, 0))
section
variable {w u v : World} {B P S : Nat} {o : Opc} {da : Option Addr} {dn dc : Nat} {za : Option Addr} {zn zc : Nat}
theorem PB.keep (h : PB w u B P S o da dn dc za zn zc) (hb : Below u.heap.size u v) : PB w v B P S o da dn dc za zn zc :=
  ⟨below_trans h.bel hb, (hb.block _ (lt_of_block h.bo)).trans h.bo, (hb.block _ (lt_of_block h.bg)).trans h.bg, (hb.block _ (lt_of_block h.br)).trans h.br⟩
theorem PB.start (w : World) (B P S : Nat) (o : Opc) (da : Option Addr) (dn dc : Nat) (za : Option Addr) (zn zc : Nat) : PB w (((w.alloc (.cells #[.int .i64 o.k, .int .i64 o.b, .int .i64 o.p, .int .i64 o.bit, .bool o.fit, .slice da dn dc, .slice za zn zc] 56)).alloc (.cells #[.int .i64 (B : Int), .int .i64 (P : Int), .int .i64 (S : Int)] 23)).alloc (.cells #[.slice none 0 0, .slice none 0 0] 36)) B P S o da dn dc za zn zc := by
  refine ⟨below_trans (below_trans (below_alloc _ _) (below_alloc _ _)) (below_alloc _ _), ?_, ?_, ?_⟩
  · exact (alloc_old _ _ (by simp; omega)).trans ((alloc_old _ _ (by simp)).trans (alloc_new w _))
  · refine (alloc_old _ _ (by simp)).trans ?_
    have h9 := alloc_new (w.alloc (.cells #[.int .i64 o.k, .int .i64 o.b, .int .i64 o.p, .int .i64 o.bit, .bool o.fit, .slice da dn dc, .slice za zn zc] 56)) (.cells #[.int .i64 (B : Int), .int .i64 (P : Int), .int .i64 (S : Int)] 23)
    rw [alloc_size] at h9
    exact h9
  · have h9 := alloc_new ((w.alloc (.cells #[.int .i64 o.k, .int .i64 o.b, .int .i64 o.p, .int .i64 o.bit, .bool o.fit, .slice da dn dc, .slice za zn zc] 56)).alloc (.cells #[.int .i64 (B : Int), .int .i64 (P : Int), .int .i64 (S : Int)] 23)) (.cells #[.slice none 0 0, .slice none 0 0] 36)
    rw [alloc_size, alloc_size] at h9
    exact h9
theorem PB.s (h : PB w u B P S o da dn dc za zn zc) : u.cell? ⟨w.heap.size, 5, none⟩ = some (.slice da dn dc) ∧ u.cell? ⟨w.heap.size, 6, none⟩ = some (.slice za zn zc) ∧ u.cell? ⟨w.heap.size + 1, 0, none⟩ = some (.int .i64 (B : Int)) ∧ u.cell? ⟨w.heap.size + 1, 1, none⟩ = some (.int .i64 (P : Int)) ∧ u.cell? ⟨w.heap.size + 1, 2, none⟩ = some (.int .i64 (S : Int)) := by
  obtain ⟨_, _, _, _, _, h5, h6⟩ := cells7 h.bo
  obtain ⟨g0, g1, g2⟩ := cells3 h.bg
  exact ⟨h5, h6, g0, g1, g2⟩
theorem PB.store (h : PB w u B P S o da dn dc za zn zc) (v0 v1 : Value) : Below w.heap.size w ((u.setCell ⟨w.heap.size + 1 + 1, 0, none⟩ v0).setCell ⟨w.heap.size + 1 + 1, 1, none⟩ v1) ∧ ((u.setCell ⟨w.heap.size + 1 + 1, 0, none⟩ v0).setCell ⟨w.heap.size + 1 + 1, 1, none⟩ v1).heap[w.heap.size + 1 + 1]? = some (.cells #[v0, v1] 36 (0, 0)) ∧ Only (· = w.heap.size + 1 + 1) u ((u.setCell ⟨w.heap.size + 1 + 1, 0, none⟩ v0).setCell ⟨w.heap.size + 1 + 1, 1, none⟩ v1) := by
  have ho : Only (· = w.heap.size + 1 + 1) u ((u.setCell ⟨w.heap.size + 1 + 1, 0, none⟩ v0).setCell ⟨w.heap.size + 1 + 1, 1, none⟩ v1) := (Only.setCell (· = w.heap.size + 1 + 1) u (w.heap.size + 1 + 1) 0 v0 rfl).trans' (Only.setCell _ _ (w.heap.size + 1 + 1) 1 v1 rfl)
  exact ⟨h.bel.trans (ho.below (fun j hj => by omega) h.bel.size), heap_setCell_same _ _ 1 #[v0, .slice none 0 0] 36 v1 (heap_setCell_same u _ 0 _ 36 v0 h.br), ho⟩
end
theorem reads_only {w w' : World} {a : Option Addr} {l : Nat} {zs : List Int} {g : Nat} (h : Reads w a l zs) (ho : Only (· = g) w w') {c0 c1 : Value} (hg : w.heap[g]? = some (.cells #[c0, c1] 36 (0, 0))) (hne : ∀ y, a = some y → 0 < l → y.block ≠ g) : Reads w' a l zs :=
  reads_keep h (fun x hx h0 => by
    obtain ⟨b, off, e, hb, _⟩ := h.pos h0
    rw [e] at hx
    cases hx
    exact ho.block _ hb (hne _ e h0))
theorem pb_s {w u v : World} {B P S : Nat} {o : Opc} {da : Option Addr} {dn dc : Nat} {za : Option Addr} {zn zc : Nat} (h : PB w u B P S o da dn dc za zn zc) (ho : Only (· = w.heap.size + 1 + 1) u v) : v.cell? ⟨w.heap.size, 5, none⟩ = some (.slice da dn dc) ∧ v.cell? ⟨w.heap.size, 6, none⟩ = some (.slice za zn zc) ∧ v.cell? ⟨w.heap.size + 1, 0, none⟩ = some (.int .i64 (B : Int)) ∧ v.cell? ⟨w.heap.size + 1, 1, none⟩ = some (.int .i64 (P : Int)) ∧ v.cell? ⟨w.heap.size + 1, 2, none⟩ = some (.int .i64 (S : Int)) := by
  obtain ⟨a, b, c, d, e⟩ := h.s
  exact ⟨ho.cell a (by omega), ho.cell b (by omega), ho.cell c (by omega), ho.cell d (by omega), ho.cell e (by omega)⟩
set_option maxHeartbeats 4000000 in
set_option maxRecDepth 100000 in
theorem page_any (w : World) (B P S : Nat) (hf : Fits B P S = true) (o : Opc) (da : Option Addr) (dn dc : Nat) (za : Option Addr) (zn zc : Nat) (hD : Reads w da dn o.d) (hZ : Reads w za zn o.z) (hdl : dn ≤ 9223372036854775807) (hzl : zn ≤ 9223372036854775807) :
    Calls Try.prog 27 #[.agg #[.int .i64 o.k, .int .i64 o.b, .int .i64 o.p, .int .i64 o.bit, .bool o.fit, .slice da dn dc, .slice za zn zc], .agg #[.int .i64 (B : Int), .int .i64 (P : Int), .int .i64 (S : Int)]] w fun e w' => PgA w w' da dn za zn S o e := by
  have hFB := of_decide_eq_true hf
  have hS : 1 ≤ S ∧ S ≤ 8 := by omega
  have H0 := hide (PB.start w B P S o da dn dc za zn zc)
  have HDL := hide hD.1
  have HZL := hide hZ.1
  have HDr := hide hD
  have HZ := hide hZ
  clear hFB hD hZ
  cases hfit : o.fit with
  | false =>
    have HFI := hide hfit
    go_enter Try.func27, Try.ntmps27
    go_wp2
    have hb := below_trans (below_trans (below_alloc w (.cells #[.int .i64 o.k, .int .i64 o.b, .int .i64 o.p, .int .i64 o.bit, .bool false, .slice da dn dc, .slice za zn zc] 56)) (below_alloc _ (.cells #[.int .i64 (B : Int), .int .i64 (P : Int), .int .i64 (S : Int)] 23))) (below_alloc _ (.cells #[.slice da dn dc, .slice za zn zc] 36))
    refine bodyPost_ret (v := .agg #[.slice da dn dc, .slice za zn zc]) (by simp [results, Try.results27, go_sem]) rfl ?_
    have h1 := HDL.out
    have h2 := HZL.out
    exact ⟨⟨da, dn, dc, za, zn, zc, o.d, o.z, rfl, by simp [Opc.n1, hfit, h1], by simp [Opc.n2, hfit, h2], by simp [Opc.want, hfit], HDr.out.below hb, HZ.out.below hb, fun y hy => Or.inl ⟨hy, rfl⟩, fun y hy => Or.inl ⟨hy, rfl⟩⟩, hb⟩
  | true =>
    have HFI := hide hfit
    obtain ⟨n1, hn1⟩ : ∃ n1, n1 = 256 * S := ⟨_, rfl⟩
    obtain ⟨n2, hn2⟩ : ∃ n2, n2 = 54 + 3 * S := ⟨_, rfl⟩
    have HN1 : Hid ((256 : Int) * (S : Int) = (n1 : Int)) := by unfold Hid; omega
    have HN2 : Hid ((54 : Int) + 3 * (S : Int) = (n2 : Int)) := by unfold Hid; omega
    have HE := hide (And.intro hn1 hn2)
    have p1 : 0 < n1 := by omega
    have p2 : 0 < n2 := by omega
    have l1 : n1 ≤ 1000000 := by omega
    have l2 : n2 ≤ 1000000 := by omega
    have hSi : (1 : Int) ≤ (S : Int) ∧ (S : Int) ≤ 8 := by omega
    clear hn1 hn2
    have H0 : Hid (PB w (((w.alloc (.cells #[.int .i64 o.k, .int .i64 o.b, .int .i64 o.p, .int .i64 o.bit, .bool true, .slice da dn dc, .slice za zn zc] 56)).alloc (.cells #[.int .i64 (B : Int), .int .i64 (P : Int), .int .i64 (S : Int)] 23)).alloc (.cells #[.slice none 0 0, .slice none 0 0] 36)) B P S o da dn dc za zn zc) := by rw [← hfit]; exact H0
    go_enter Try.func27, Try.ntmps27
    go_upto_region 4 with (first | (go_at_call 42; refine (rSpare_any _ B P S hf).mono ?_; rintro e u0 ⟨rfl, b0⟩; rw [HN2.out]; have H1 := hide (H0.out.keep b0); clear b0))
    have H2 := hide (H1.out.keep (drew_below _))
    refine wp_region_held_drew (S := (fun u => u.cell? ⟨w.heap.size, 5, none⟩ = some (.slice da dn dc) ∧ u.cell? ⟨w.heap.size, 6, none⟩ = some (.slice za zn zc) ∧ u.cell? ⟨w.heap.size + 1, 0, none⟩ = some (.int .i64 (B : Int)) ∧ u.cell? ⟨w.heap.size + 1, 1, none⟩ = some (.int .i64 (P : Int)) ∧ u.cell? ⟨w.heap.size + 1, 2, none⟩ = some (.int .i64 (S : Int)))) (by kernel_rfl) (H2.out.s) (fun hHeld => ?_)
    refine wpAnyH_take (i := 0) (oi := { dst := some 17, op := Op.fieldAddr 56 (Operand.tmp 2) 4, type := 0, pos := "law.go:41", after := #[], guard := none }) (v := ?v0) rfl (by kernel_rfl) (by kernel_rfl) (by kernel_rfl) (fun _ _ _ h => h) (Or.inl ⟨by rfl, ?y0⟩) (by assumption) ?r0
    case y0 => (intro x hx; (try dsimp only at hx); go_simp; try with_reducible rfl)
    try simp only [Act.put, List.setIfInBounds_toArray, List.set_cons_zero, List.set_cons_succ]
    refine wpAnyH_take (i := 1) (oi := { dst := some 18, op := Op.fieldAddr 36 (Operand.tmp 17) 0, type := 0, pos := "law.go:41", after := #[{ on := 0, ground := Ground.data }], guard := none }) (v := ?v1) rfl (by kernel_rfl) (by kernel_rfl) (by kernel_rfl) (fun _ _ _ h => h) (Or.inl ⟨by rfl, ?y1⟩) (by assumption) ?r1
    case y1 => (intro x hx; (try dsimp only at hx); go_simp; try with_reducible rfl)
    try simp only [Act.put, List.setIfInBounds_toArray, List.set_cons_zero, List.set_cons_succ]
    refine wpAnyH_take (i := 2) (oi := { dst := some 19, op := Op.load 24 (Operand.tmp 18), type := 24, pos := "law.go:41", after := #[{ on := 1, ground := Ground.data }], guard := none }) (v := ?v2) rfl (by kernel_rfl) (by kernel_rfl) (by kernel_rfl) (fun _ _ _ h => h) (Or.inl ⟨by rfl, ?y2⟩) (by assumption) ?r2
    case y2 => (intro x hx; (try dsimp only at hx); go_simp; try with_reducible rfl)
    try simp only [Act.put, List.setIfInBounds_toArray, List.set_cons_zero, List.set_cons_succ]
    refine wpAnyH_take (i := 3) (oi := { dst := some 20, op := Op.load 23 (Operand.tmp 3), type := 23, pos := "law.go:41", after := #[], guard := none }) (v := ?v3) rfl (by kernel_rfl) (by kernel_rfl) (by kernel_rfl) (fun _ _ _ h => h) (Or.inl ⟨by rfl, ?y3⟩) (by assumption) ?r3
    case y3 => (intro x hx; (try dsimp only at hx); go_simp; try with_reducible rfl)
    try simp only [Act.put, List.setIfInBounds_toArray, List.set_cons_zero, List.set_cons_succ]
    refine wpAnyH_take (i := 6) (oi := { dst := some 23, op := Op.fieldAddr 56 (Operand.tmp 2) 4, type := 0, pos := "law.go:41", after := #[], guard := none }) (v := ?v6) rfl (by kernel_rfl) (by kernel_rfl) (by kernel_rfl) (fun _ _ _ h => h) (Or.inl ⟨by rfl, ?y6⟩) (by assumption) ?r6
    case y6 => (intro x hx; (try dsimp only at hx); go_simp; try with_reducible rfl)
    try simp only [Act.put, List.setIfInBounds_toArray, List.set_cons_zero, List.set_cons_succ]
    refine wpAnyH_take (i := 7) (oi := { dst := some 24, op := Op.fieldAddr 36 (Operand.tmp 23) 1, type := 0, pos := "law.go:41", after := #[{ on := 6, ground := Ground.data }], guard := none }) (v := ?v7) rfl (by kernel_rfl) (by kernel_rfl) (by kernel_rfl) (fun _ _ _ h => h) (Or.inl ⟨by rfl, ?y7⟩) (by assumption) ?r7
    case y7 => (intro x hx; (try dsimp only at hx); go_simp; try with_reducible rfl)
    try simp only [Act.put, List.setIfInBounds_toArray, List.set_cons_zero, List.set_cons_succ]
    refine wpAnyH_take (i := 8) (oi := { dst := some 25, op := Op.load 24 (Operand.tmp 24), type := 24, pos := "law.go:41", after := #[{ on := 7, ground := Ground.data }], guard := none }) (v := ?v8) rfl (by kernel_rfl) (by kernel_rfl) (by kernel_rfl) (fun _ _ _ h => h) (Or.inl ⟨by rfl, ?y8⟩) (by assumption) ?r8
    case y8 => (intro x hx; (try dsimp only at hx); go_simp; try with_reducible rfl)
    try simp only [Act.put, List.setIfInBounds_toArray, List.set_cons_zero, List.set_cons_succ]
    refine wpAnyH_take (i := 9) (oi := { dst := some 26, op := Op.move (Operand.tmp 5), type := 3, pos := "law.go:41", after := #[], guard := none }) (v := ?v9) rfl (by kernel_rfl) (by kernel_rfl) (by kernel_rfl) (fun _ _ _ h => h) (Or.inl ⟨by rfl, ?y9⟩) (by assumption) ?r9
    case y9 => (intro x hx; (try dsimp only at hx); go_simp; try with_reducible rfl)
    try simp only [Act.put, List.setIfInBounds_toArray, List.set_cons_zero, List.set_cons_succ]
    refine wpAnyH_ready (rs := [4]) (by kernel_rfl) (by simp) ?_
    refine AllReadyH.cons (o := { dst := some 21, op := Op.call { callee := Callee.value (Operand.func 44), args := #[Operand.tmp 20], argTypes := #[23] }, type := 3, pos := "law.go:41", after := #[{ on := 3, ground := Ground.data }], guard := none }) rfl (fun K hK => ?_) AllReadyH.nil
    go_simp
    go_at_call 44
    refine (rdata_any _ _ _ _ (by omega) (by omega)).mono ?_
    rintro e u3 ⟨rfl, b3⟩
    rw [HN1.out]
    have H3 := hide (H2.out.keep b3)
    have hSnew := H3.out.s
    clear b3
    go_wp2_with fail
    refine hK.out _ _ hSnew (fun hHeld4 => ?_)
    clear hK K hSnew
    clear hHeld
    have hHeld := hHeld4
    clear hHeld4
    try simp only [Act.put, List.setIfInBounds_toArray, List.set_cons_zero, List.set_cons_succ]
    refine wpAnyH_ready (rs := [5]) (by kernel_rfl) (by simp) ?_
    refine AllReadyH.cons (o := { dst := some 22, op := Op.call { callee := Callee.value (Operand.func 43), args := #[Operand.tmp 19, Operand.tmp 21], argTypes := #[24, 3] }, type := 24, pos := "law.go:41", after := #[{ on := 2, ground := Ground.data }, { on := 4, ground := Ground.data }, { on := 4, ground := Ground.chain }], guard := none }) rfl (fun K hK => ?_) AllReadyH.nil
    go_simp
    go_at_call 43
    refine (fit_any da dn dc o.d _ (HDr.out.below H3.out.bel) hdl n1 (by omega)).mono ?_
    rintro e u4 ⟨v4, rfl, ow4, b4⟩
    obtain ⟨g1, c1, rfl, _⟩ := own_shape ow4 (by omega)
    have H4 := hide (H3.out.keep b4)
    have HO1 := hide ow4
    have HLO1 := hide (Own.lt ow4).1
    have hSnew := H4.out.s
    clear b4 ow4
    go_wp2_with fail
    refine hK.out _ _ hSnew (fun hHeld5 => ?_)
    clear hK K hSnew
    clear hHeld
    have hHeld := hHeld5
    clear hHeld5
    try simp only [Act.put, List.setIfInBounds_toArray, List.set_cons_zero, List.set_cons_succ]
    refine wpAnyH_ready (rs := [10]) (by kernel_rfl) (by simp) ?_
    refine AllReadyH.cons (o := { dst := some 27, op := Op.call { callee := Callee.value (Operand.func 43), args := #[Operand.tmp 25, Operand.tmp 26], argTypes := #[24, 3] }, type := 24, pos := "law.go:41", after := #[{ on := 8, ground := Ground.data }, { on := 9, ground := Ground.data }, { on := 5, ground := Ground.chain }], guard := none }) rfl (fun K hK => ?_) AllReadyH.nil
    go_simp
    go_at_call 43
    refine (fit_any za zn zc o.z _ (HZ.out.below H4.out.bel) hzl n2 (by omega)).mono ?_
    rintro e u5 ⟨v5, rfl, ow5, b5⟩
    obtain ⟨g2, c2, rfl, _⟩ := own_shape ow5 (by omega)
    have H5 := hide (H4.out.keep b5)
    have HO2 := hide ow5
    have HO1b := hide (Own.below HO1.out b5)
    have hSnew := H5.out.s
    obtain ⟨x0, x1⟩ := cells2 H5.out.br
    have fx := fun j => frozen_of_row u5 (w.heap.size + 1 + 1) j _ 36 H5.out.br
    clear b5 ow5
    go_wp2_with fail
    refine hK.out _ _ hSnew (fun hHeld10 => ?_)
    clear hK K hSnew
    clear hHeld
    have hHeld := hHeld10
    clear hHeld10
    try simp only [Act.put, List.setIfInBounds_toArray, List.set_cons_zero, List.set_cons_succ]
    refine wpAnyH_take (i := 11) (oi := { dst := some 28, op := Op.build 36 #[(0, Operand.tmp 22), (1, Operand.tmp 27)], type := 36, pos := "law.go:41", after := #[{ on := 5, ground := Ground.data }, { on := 10, ground := Ground.data }], guard := none }) (v := ?v11) rfl (by kernel_rfl) (by kernel_rfl) (by kernel_rfl) (fun _ _ _ h => h) (Or.inl ⟨by rfl, ?y11⟩) (by assumption) ?r11
    case y11 => (intro x hx; (try dsimp only at hx); go_simp; try with_reducible rfl)
    try simp only [Act.put, List.setIfInBounds_toArray, List.set_cons_zero, List.set_cons_succ]
    refine wpAnyH_ready (rs := [12]) (by kernel_rfl) (by simp) ?_
    refine AllReadyH.cons (o := { dst := none, op := Op.store 36 (Operand.tmp 4) (Operand.tmp 28), type := 0, pos := "law.go:41", after := #[{ on := 11, ground := Ground.data }, { on := 10, ground := Ground.chain }, { on := 0, ground := Ground.phase }, { on := 1, ground := Ground.phase }, { on := 2, ground := Ground.phase }, { on := 3, ground := Ground.phase }, { on := 4, ground := Ground.phase }, { on := 5, ground := Ground.phase }, { on := 6, ground := Ground.phase }, { on := 7, ground := Ground.phase }, { on := 8, ground := Ground.phase }, { on := 9, ground := Ground.phase }, { on := 10, ground := Ground.phase }, { on := 11, ground := Ground.phase }], guard := none }) rfl (fun K hK => ?_) AllReadyH.nil
    go_simp
    go_wp2_with fail
    have HST := H5.out.store (.slice (some ⟨g1, 0, none⟩) n1 c1) (.slice (some ⟨g2, 0, none⟩) n2 c2)
    have HS1 := hide HST
    have hSnew := pb_s H5.out HST.2.2
    clear HST
    refine hK.out _ _ hSnew (fun hHeld12 => ?_)
    clear hK K hSnew
    clear hHeld
    have hHeld := hHeld12
    clear hHeld12
    try simp only [Act.put, List.setIfInBounds_toArray, List.set_cons_zero, List.set_cons_succ]
    refine wpAnyH_done (by kernel_rfl) ?_ _
    clear hHeld x0 x1 fx
    obtain ⟨st1, st2, st3⟩ := HS1.out
    generalize hU : World.setCell _ ⟨w.heap.size + 1 + 1, 1, none⟩ _ = U9 at st1 st2 st3 ⊢
    obtain ⟨y0, y1⟩ := cells2 st2
    go_wp2
    refine bodyPost_ret (v := .agg #[.slice (some ⟨g1, 0, none⟩) n1 c1, .slice (some ⟨g2, 0, none⟩) n2 c2]) (by simp [results, Try.results27, go_sem, y0, y1]) rfl ?_
    have e1 := HE.out.1
    have e2 := HE.out.2
    have q1 : Reads u5 (some ⟨g1, 0, none⟩) n1 (fitL o.d n1) := own_reads' HO1b.out (fitL_range' HDr.out.2.1 _)
    have q2 : Reads u5 (some ⟨g2, 0, none⟩) n2 (fitL o.z n2) := own_reads' HO2.out (fitL_range' HZ.out.2.1 _)
    have hw3 := lt_of_block H3.out.br
    have hw4 := lt_of_block H4.out.br
    have hg1 : u3.heap.size ≤ g1 := HO1b.out.lt.1
    have hg2 : u4.heap.size ≤ g2 := (HO2.out.lt g2 rfl).1
    refine ⟨⟨_, _, _, _, _, _, fitL o.d n1, fitL o.z n2, rfl, by simp [Opc.n1, HFI.out, e1], by simp [Opc.n2, HFI.out, e2], by simp [Opc.want, HFI.out, e1, e2], reads_only q1 st3 H5.out.br (fun y hy _ => by cases hy; show g1 ≠ _; omega), reads_only q2 st3 H5.out.br (fun y hy _ => by cases hy; show g2 ≠ _; omega), fun y hy => ?_, fun y hy => ?_⟩, st1⟩
    · cases hy; exact Or.inr (show w.heap.size ≤ g1 by omega)
    · cases hy; exact Or.inr (show w.heap.size ≤ g2 by omega)
end Go.Proofs.Ytadlkikjfonkgaa
namespace Go.Proofs.Ytadlkikjfonkgaa
open Go.RowKit Go.Conc
set_option linter.unusedVariables false

theorem Program_any0 (w : World) (p : Nat) (F : Nat → Prop) (C : Ch) (h : ChipAt w p F C) (hok : C.Ok) (pb pp : Int) (da sa : Option Addr) (n1 dc n2 sc : Nat) (hl1 : n1 ≤ 140737488355000) (hl2 : n2 ≤ 140737488355000) (htr : C.tr.length ≤ 3000000000000) (zd zp : List Int) (hD : Reads w da n1 zd) (hZ : Reads w sa n2 zp) (hdF : ∀ y, da = some y → 0 < n1 → ¬ F y.block) (hzF : ∀ y, sa = some y → 0 < n2 → ¬ F y.block) :
    Calls Try.prog 53 #[.pointer (some ⟨p, 0, none⟩), .agg #[.int .i64 pb, .int .i64 pp], .agg #[.slice da n1 dc, .slice sa n2 sc]] w fun e w' => e = .returned (.int .i64 (ProgramC C pb pp n1 n2 (zd ++ zp)).1) ∧ ChipAt w' p (Fx F w w') (ProgramC C pb pp n1 n2 (zd ++ zp)).2 ∧ Only F w w' := by
  unfold ProgramC
  cases hd : C.dark with
  | true =>
    refine (Program_dark w p F C h hok pb pp da sa n1 dc n2 sc hd).mono ?_
    rintro e w' ⟨rfl, hb⟩
    exact ⟨rfl, h.fx hb, Only.ofB hb⟩
  | false =>
    simp only [Bool.false_eq_true, if_false]
    by_cases e1 : n1 = 256 * C.S
    · have d1 : ((n1 : Int) != 256 * (C.S : Int)) = false := by have : (n1 : Int) = 256 * C.S := by omega
                                                                simpa using this
      by_cases e2 : n2 = 54 + 3 * C.S
      · have d2 : ((n2 : Int) != 54 + 3 * (C.S : Int)) = false := by have : (n2 : Int) = 54 + 3 * C.S := by omega
                                                                     simpa using this
        rw [if_neg (by omega)]
        exact Program_ok w p F C h hok pb pp da sa n1 dc n2 sc hl1 hl2 htr hd d1 d2 zd zp hD hZ (fun y hy => hdF y hy (by have := hok.s; omega)) (fun y hy => hzF y hy (by omega))
      · have d2 : ((n2 : Int) != 54 + 3 * (C.S : Int)) = true := by have : ¬ (n2 : Int) = 54 + 3 * C.S := by omega
                                                                    simpa using this
        rw [if_pos (Or.inr e2)]
        refine (Program_n2 w p F C h hok pb pp da sa n1 dc n2 sc hl1 hl2 hd d1 d2).mono ?_
        rintro e w' ⟨rfl, hb⟩
        exact ⟨rfl, h.fx hb, Only.ofB hb⟩
    · have d1 : ((n1 : Int) != 256 * (C.S : Int)) = true := by have : ¬ (n1 : Int) = 256 * C.S := by omega
                                                               simpa using this
      rw [if_pos (Or.inl e1)]
      refine (Program_n1 w p F C h hok pb pp da sa n1 dc n2 sc hl1 hd d1).mono ?_
      rintro e w' ⟨rfl, hb⟩
      exact ⟨rfl, h.fx hb, Only.ofB hb⟩
theorem fx_up {w u v : World} {p : Nat} {F : Nat → Prop} {C : Ch} (h : ChipAt v p (Fx F u v) C) (hb : w.heap.size ≤ u.heap.size) : ChipAt v p (Fx F w v) C :=
  h.grow (Below.refl _ _) (fun k hk => hk.imp (fun h => h) (fun h9 => ⟨Nat.le_trans hb h9.1, h9.2⟩)) (fun k hk => hk.elim (fun h9 => h.fin k (Or.inl h9)) (fun h9 => h9.2))
def DoesV (w w' : World) (p : Nat) (F : Nat → Prop) (C : Ch) (o : Opc) (e : Ending) : Prop := e = .returned (.int .i64 (doesC C o).1) ∧ ChipAt w' p (Fx F w w') (doesC C o).2 ∧ Only F w w'
theorem doesV_of {w u v : World} {p : Nat} {F : Nat → Prop} {C : Ch} {o : Opc} {r : Int × Ch} (hr : doesC C o = r) (hb : Below w.heap.size w u) (hc : ChipAt v p (Fx F u v) r.2) (ho : Only F u v) : DoesV w v p F C o (.returned (.int .i64 r.1)) :=
  ⟨by rw [hr], by rw [hr]; exact fx_up hc hb.size, (Only.ofB hb).trans' ho⟩
set_option maxHeartbeats 4000000 in
set_option maxRecDepth 100000 in
theorem does_any (w : World) (p : Nat) (F : Nat → Prop) (C : Ch) (h : ChipAt w p F C) (hok : C.Ok) (htr : C.tr.length ≤ 3000000000000) (hln : FlN C 4000000000000) (o : Opc) (da : Option Addr) (dn dc : Nat) (za : Option Addr) (zn zc : Nat) (hD : Reads w da dn o.d) (hZ : Reads w za zn o.z) (hdl : dn ≤ 140737488355000) (hzl : zn ≤ 140737488355000) (hdF : ∀ y, da = some y → 0 < dn → ¬ F y.block) (hzF : ∀ y, za = some y → 0 < zn → ¬ F y.block) (hbit : o.bit ≤ 9223372036854775807) :
    Calls Try.prog 22 #[.pointer (some ⟨p, 0, none⟩), .agg #[.int .i64 o.k, .int .i64 o.b, .int .i64 o.p, .int .i64 o.bit, .bool o.fit, .slice da dn dc, .slice za zn zc]] w fun e w' => DoesV w w' p F C o e := by
  have HC := hide h
  have HDr := hide hD
  have HZ := hide hZ
  have hbel := below_alloc w (.cells #[.int .i64 o.k, .int .i64 o.b, .int .i64 o.p, .int .i64 o.bit, .bool o.fit, .slice da dn dc, .slice za zn zc] 56)
  have HB0 := hide hbel
  have HX0 := hide (alloc_new w (.cells #[.int .i64 o.k, .int .i64 o.b, .int .i64 o.p, .int .i64 o.bit, .bool o.fit, .slice da dn dc, .slice za zn zc] 56))
  have HNF : Hid (¬ F w.heap.size) := fun hf => by have := h.fin _ hf; omega
  clear h hD hZ hbel
  by_cases k1 : o.k = 1
  · have hdc : doesC C o = ProgramC C o.b o.p (o.n1 C.S) (o.n2 C.S) (o.want C.S) := if_pos k1
    have HDC := hide hdc
    have d1 : (o.k == 1) = true := by simp [k1]
    have HB1 : Hid (Below w.heap.size w (w.alloc (.cells #[.int .i64 o.k, .int .i64 o.b, .int .i64 o.p, .int .i64 o.bit, .bool o.fit, .slice da dn dc, .slice za zn zc] 56)).drew) := below_trans HB0.out (drew_below _)
    have HX1 : Hid ((w.alloc (.cells #[.int .i64 o.k, .int .i64 o.b, .int .i64 o.p, .int .i64 o.bit, .bool o.fit, .slice da dn dc, .slice za zn zc] 56)).drew.heap[w.heap.size]? = some (.cells #[.int .i64 o.k, .int .i64 o.b, .int .i64 o.p, .int .i64 o.bit, .bool o.fit, .slice da dn dc, .slice za zn zc] 56 (0, 0))) := HX0.out
    have HK1 := hide k1
    clear hdc k1
    go_enter Try.func22, Try.ntmps22
    go_upto_region 3 with fail
    refine wp_region_held_drew (S := (fun u => u.cell? ⟨w.heap.size, 0, none⟩ = some (.int .i64 o.k) ∧ u.cell? ⟨w.heap.size, 1, none⟩ = some (.int .i64 o.b) ∧ u.cell? ⟨w.heap.size, 2, none⟩ = some (.int .i64 o.p) ∧ u.cell? ⟨w.heap.size, 3, none⟩ = some (.int .i64 o.bit) ∧ u.cell? ⟨w.heap.size, 4, none⟩ = some (.bool o.fit) ∧ u.cell? ⟨w.heap.size, 5, none⟩ = some (.slice da dn dc) ∧ u.cell? ⟨w.heap.size, 6, none⟩ = some (.slice za zn zc))) (by kernel_rfl) (cells7 HX1.out) (fun hHeld => ?_)
    refine wpAnyH_take (i := 0) (oi := { dst := some 9, op := Op.move (Operand.tmp 0), type := 29, pos := "outright.go:69", after := #[], guard := none }) (v := ?v0) rfl (by kernel_rfl) (by kernel_rfl) (by kernel_rfl) (fun _ _ _ h => h) (Or.inl ⟨by rfl, ?y0⟩) (by assumption) ?r0
    case y0 => (intro x hx; (try dsimp only at hx); go_simp; try with_reducible rfl)
    try simp only [Act.put, List.setIfInBounds_toArray, List.set_cons_zero, List.set_cons_succ]
    refine wpAnyH_take (i := 1) (oi := { dst := some 10, op := Op.fieldAddr 56 (Operand.tmp 3) 1, type := 0, pos := "outright.go:69", after := #[], guard := none }) (v := ?v1) rfl (by kernel_rfl) (by kernel_rfl) (by kernel_rfl) (fun _ _ _ h => h) (Or.inl ⟨by rfl, ?y1⟩) (by assumption) ?r1
    case y1 => (intro x hx; (try dsimp only at hx); go_simp; try with_reducible rfl)
    try simp only [Act.put, List.setIfInBounds_toArray, List.set_cons_zero, List.set_cons_succ]
    refine wpAnyH_take (i := 2) (oi := { dst := some 11, op := Op.load 41 (Operand.tmp 10), type := 41, pos := "outright.go:69", after := #[{ on := 1, ground := Ground.data }], guard := none }) (v := ?v2) rfl (by kernel_rfl) (by kernel_rfl) (by kernel_rfl) (fun _ _ _ h => h) (Or.inl ⟨by rfl, ?y2⟩) (by assumption) ?r2
    case y2 => (intro x hx; (try dsimp only at hx); go_simp; try with_reducible rfl)
    try simp only [Act.put, List.setIfInBounds_toArray, List.set_cons_zero, List.set_cons_succ]
    refine wpAnyH_take (i := 3) (oi := { dst := some 12, op := Op.load 56 (Operand.tmp 3), type := 56, pos := "outright.go:69", after := #[], guard := none }) (v := ?v3) rfl (by kernel_rfl) (by kernel_rfl) (by kernel_rfl) (fun _ _ _ h => h) (Or.inl ⟨by rfl, ?y3⟩) (by assumption) ?r3
    case y3 => (intro x hx; (try dsimp only at hx); go_simp; try with_reducible rfl)
    try simp only [Act.put, List.setIfInBounds_toArray, List.set_cons_zero, List.set_cons_succ]
    refine wpAnyH_take (i := 4) (oi := { dst := some 13, op := Op.move (Operand.tmp 0), type := 29, pos := "outright.go:69", after := #[], guard := none }) (v := ?v4) rfl (by kernel_rfl) (by kernel_rfl) (by kernel_rfl) (fun _ _ _ h => h) (Or.inl ⟨by rfl, ?y4⟩) (by assumption) ?r4
    case y4 => (intro x hx; (try dsimp only at hx); go_simp; try with_reducible rfl)
    try simp only [Act.put, List.setIfInBounds_toArray, List.set_cons_zero, List.set_cons_succ]
    refine wpAnyH_ready (rs := [5]) (by kernel_rfl) (by simp) ?_
    refine AllReadyH.cons (o := { dst := some 14, op := Op.call { callee := Callee.value (Operand.func 60), args := #[Operand.tmp 13], argTypes := #[29] }, type := 23, pos := "outright.go:69", after := #[{ on := 4, ground := Ground.data }], guard := none }) rfl (fun K hK => ?_) AllReadyH.nil
    go_simp
    go_at_call 60
    refine (geometry_any _ p F C (HC.out.below HB1.out)).mono ?_
    rintro e u2 ⟨rfl, b2⟩
    have HB2 := hide (below_trans HB1.out b2)
    have HX2 := hide ((b2.block _ (lt_of_block HX1.out)).trans HX1.out)
    have hSnew := cells7 HX2.out
    clear b2
    go_wp2_with fail
    refine hK.out _ _ hSnew (fun hHeld5 => ?_)
    clear hK K hSnew
    clear hHeld
    have hHeld := hHeld5
    clear hHeld5
    try simp only [Act.put, List.setIfInBounds_toArray, List.set_cons_zero, List.set_cons_succ]
    refine wpAnyH_ready (rs := [6]) (by kernel_rfl) (by simp) ?_
    refine AllReadyH.cons (o := { dst := some 15, op := Op.call { callee := Callee.value (Operand.func 27), args := #[Operand.tmp 12, Operand.tmp 14], argTypes := #[56, 23] }, type := 36, pos := "outright.go:69", after := #[{ on := 3, ground := Ground.data }, { on := 5, ground := Ground.data }, { on := 5, ground := Ground.chain }], guard := none }) rfl (fun K hK => ?_) AllReadyH.nil
    go_simp
    go_at_call 27
    refine (page_any _ C.B C.P C.S hok.fits o da dn dc za zn zc (HDr.out.below HB2.out) (HZ.out.below HB2.out) (by omega) (by omega)).mono ?_
    rintro e u3 hpg
    obtain ⟨⟨a1, n1, c1, a2, n2, c2, D, Z, rfl, hn1, hn2, hwt, rd1, rd2, w1, w2⟩, b3⟩ := hpg
    have HB3 := hide (below_trans HB2.out b3)
    have HX3 := hide ((b3.block _ (lt_of_block HX2.out)).trans HX2.out)
    have HR1 := hide rd1
    have HR2 := hide rd2
    have HNN := hide (And.intro hn1 (And.intro hn2 hwt))
    have HF1 : Hid (∀ y, a1 = some y → 0 < n1 → ¬ F y.block) := fun y hy h0 hf => (w1 y hy).elim (fun h9 => hdF y h9.1 (by have := h9.2; omega) hf) (fun h9 => by have h8 := HC.out.fin _ hf; have h7 := HB2.out.size; omega)
    have HF2 : Hid (∀ y, a2 = some y → 0 < n2 → ¬ F y.block) := fun y hy h0 hf => (w2 y hy).elim (fun h9 => hzF y h9.1 (by have := h9.2; omega) hf) (fun h9 => by have h8 := HC.out.fin _ hf; have h7 := HB2.out.size; omega)
    have hl1 : n1 ≤ 140737488355000 := by rw [hn1]; unfold Opc.n1; have h6 := HDr.out.1; have h5 := hok.s; split <;> omega
    have hl2 : n2 ≤ 140737488355000 := by rw [hn2]; unfold Opc.n2; have h6 := HZ.out.1; have h5 := hok.s; split <;> omega
    have hSnew := cells7 HX3.out
    clear rd1 rd2 hn1 hn2 hwt w1 w2 b3
    go_wp2_with fail
    refine hK.out _ _ hSnew (fun hHeld6 => ?_)
    clear hK K hSnew
    clear hHeld
    have hHeld := hHeld6
    clear hHeld6
    try simp only [Act.put, List.setIfInBounds_toArray, List.set_cons_zero, List.set_cons_succ]
    refine wpAnyH_ready (rs := [7]) (by kernel_rfl) (by simp) ?_
    refine AllReadyH.cons (o := { dst := some 16, op := Op.call { callee := Callee.value (Operand.func 53), args := #[Operand.tmp 9, Operand.tmp 11, Operand.tmp 15], argTypes := #[29, 41, 36] }, type := 30, pos := "outright.go:69", after := #[{ on := 0, ground := Ground.data }, { on := 2, ground := Ground.data }, { on := 6, ground := Ground.data }, { on := 6, ground := Ground.chain }], guard := none }) rfl (fun K hK => ?_) AllReadyH.nil
    go_simp
    go_at_call 53
    refine (Program_any0 _ p F C (HC.out.below HB3.out) hok o.b o.p a1 a2 n1 c1 n2 c2 hl1 hl2 htr D Z HR1.out HR2.out HF1.out HF2.out).mono ?_
    rintro e u4 ⟨rfl, hc4, ho4⟩
    have HC4 := hide hc4
    have HO4 := hide ho4
    have hSnew := cells7 ((ho4.block _ (lt_of_block HX3.out) HNF.out).trans HX3.out)
    clear hc4 ho4
    go_wp2_with fail
    refine hK.out _ _ hSnew (fun hHeld7 => ?_)
    clear hK K hSnew
    clear hHeld
    have hHeld := hHeld7
    clear hHeld7
    try simp only [Act.put, List.setIfInBounds_toArray, List.set_cons_zero, List.set_cons_succ]
    refine wpAnyH_take (i := 8) (oi := { dst := some 4, op := Op.assign (Operand.tmp 16), type := 30, pos := "outright.go:69", after := #[{ on := 7, ground := Ground.data }, { on := 7, ground := Ground.chain }, { on := 0, ground := Ground.phase }, { on := 1, ground := Ground.phase }, { on := 2, ground := Ground.phase }, { on := 3, ground := Ground.phase }, { on := 4, ground := Ground.phase }, { on := 5, ground := Ground.phase }, { on := 6, ground := Ground.phase }, { on := 7, ground := Ground.phase }], guard := none }) (v := ?v8) rfl (by kernel_rfl) (by kernel_rfl) (by kernel_rfl) (fun _ _ _ h => h) (Or.inl ⟨by rfl, ?y8⟩) (by assumption) ?r8
    case y8 => (intro x hx; (try dsimp only at hx); go_simp; try with_reducible rfl)
    try simp only [Act.put, List.setIfInBounds_toArray, List.set_cons_zero, List.set_cons_succ]
    refine wpAnyH_done (by kernel_rfl) ?_ _
    clear hHeld
    go_wp2
    go_ret
    refine doesV_of (r := ProgramC C o.b o.p n1 n2 (D ++ Z)) ?_ HB3.out HC4.out HO4.out
    rw [HDC.out, ← HNN.out.1, ← HNN.out.2.1, ← HNN.out.2.2]
  have d1 : (o.k == 1) = false := by simp [k1]
  by_cases k2 : o.k = 2
  · have HDC : Hid (doesC C o = EraseC C o.b) := (if_neg k1).trans (if_pos k2)
    have d2 : (o.k == 2) = true := by simp [k2]
    clear k1 k2
    go_enter Try.func22, Try.ntmps22
    go_wp2_with (first | (go_at_call 51; refine (Erase_any _ p F C (HC.out.below HB0.out) hok htr o.b).mono ?_; rintro e u4 ⟨rfl, hc4, ho4⟩; have HC4 := hide hc4; have HO4 := hide ho4; clear hc4 ho4))
    go_ret
    exact doesV_of HDC.out HB0.out HC4.out HO4.out
  have d2 : (o.k == 2) = false := by simp [k2]
  by_cases k3 : o.k = 3
  · have HDC : Hid (doesC C o = MarkC C o.b) := (if_neg k1).trans ((if_neg k2).trans (if_pos k3))
    have d3 : (o.k == 3) = true := by simp [k3]
    clear k1 k2 k3
    go_enter Try.func22, Try.ntmps22
    go_wp2_with (first | (go_at_call 52; refine (Mark_any _ p F C (HC.out.below HB0.out) hok htr o.b).mono ?_; rintro e u4 ⟨rfl, hc4, ho4⟩; have HC4 := hide hc4; have HO4 := hide ho4; clear hc4 ho4))
    go_ret
    exact doesV_of HDC.out HB0.out HC4.out HO4.out
  have d3 : (o.k == 3) = false := by simp [k3]
  by_cases k4 : o.k = 4
  · have HDC : Hid (doesC C o = FlipC C o.b o.p o.bit) := (if_neg k1).trans ((if_neg k2).trans ((if_neg k3).trans (if_pos k4)))
    have d4 : (o.k == 4) = true := by simp [k4]
    clear k1 k2 k3 k4
    go_enter Try.func22, Try.ntmps22
    go_wp2_with (first | (go_at_call 56; refine (Flip_any _ p F C (HC.out.below HB0.out) hok hln o.b o.p o.bit hbit).mono ?_; rintro e u4 ⟨rfl, hc4, ho4⟩; have HC4 := hide hc4; have HO4 := hide ho4; clear hc4 ho4))
    go_ret
    exact doesV_of HDC.out HB0.out HC4.out HO4.out
  have d4 : (o.k == 4) = false := by simp [k4]
  by_cases k5 : o.k = 5
  · have HDC : Hid (doesC C o = ((0 : Int), { C with dark := false })) := (if_neg k1).trans ((if_neg k2).trans ((if_neg k3).trans ((if_neg k4).trans (if_pos k5))))
    have d5 : (o.k == 5) = true := by simp [k5]
    clear k1 k2 k3 k4 k5
    go_enter Try.func22, Try.ntmps22
    go_wp2_with (first | (go_at_call 25; refine (On_any _ p F C (HC.out.below HB0.out)).mono ?_; rintro e u4 ⟨rfl, hc4, ho4⟩; have HC4 := hide hc4; have HO4 := hide ho4; clear hc4 ho4))
    go_ret
    exact doesV_of (r := ((0 : Int), { C with dark := false })) HDC.out HB0.out (HC4.out.grow (Below.refl _ _) (fun k hk => Or.inl hk) (fun k hk => hk.elim (fun h9 => HC4.out.fin k h9) (fun h9 => h9.2))) HO4.out
  have d5 : (o.k == 5) = false := by simp [k5]
  have HDC : Hid (doesC C o = ((0 : Int), C)) := (if_neg k1).trans ((if_neg k2).trans ((if_neg k3).trans ((if_neg k4).trans (if_neg k5))))
  clear k1 k2 k3 k4 k5
  go_enter Try.func22, Try.ntmps22
  go_wp2
  go_ret
  exact doesV_of (r := ((0 : Int), C)) HDC.out HB0.out ((HC.out.below HB0.out).fx (Below.refl _ _)) (Only.refl _ _)
end Go.Proofs.Ytadlkikjfonkgaa
namespace Go.Proofs.Ytadlkikjfonkgaa
open Go.RowKit Go.Conc
set_option linter.unusedVariables false

theorem tr_cells {w : World} {B g n c : Nat} {tr : List Cmd} (h : w.ownsRow B 120 4 (.slice (some ⟨g, 0, none⟩) n c) n (tr.flatMap Cmd.cells)) {m : Nat} {x : Cmd} (hx : tr[m]? = some x) : w.cell? ⟨g, m * 4, none⟩ = some (.int .i64 x.k) ∧ w.cell? ⟨g, m * 4 + 1, none⟩ = some (.int .i64 x.b) ∧ w.cell? ⟨g, m * 4 + 2, none⟩ = some (.int .i64 x.p) ∧ w.cell? ⟨g, m * 4 + 3, none⟩ = some (.int .i64 x.s) := by
  have hm : m < tr.length := (List.getElem?_eq_some_iff.1 hx).1
  have hl := flat_len Cmd.cells 4 Cmd.cells_len tr
  have c : ∀ j, j < 4 → w.cell? ⟨g, m * 4 + j, none⟩ = x.cells[j]? := fun j hj => by
    rw [World.ownsRow.cellAt h (m * 4 + j) (by have := h.1; omega)]
    exact flat_get Cmd.cells 4 Cmd.cells_len j hj tr m x hx
  exact ⟨c 0 (by omega), c 1 (by omega), c 2 (by omega), c 3 (by omega)⟩
set_option maxHeartbeats 4000000 in
set_option maxRecDepth 100000 in
theorem sameTrace_eq (w : World) (a1 a2 : Option Addr) (n c1 c2 B1 B2 : Nat) (tr : List Cmd) (h1 : w.ownsRow B1 120 4 (.slice a1 n c1) n (tr.flatMap Cmd.cells)) (h2 : w.ownsRow B2 120 4 (.slice a2 n c2) n (tr.flatMap Cmd.cells)) (hn : n ≤ 9223372036854775806) :
    Calls Try.prog 23 #[.slice a1 n c1, .slice a2 n c2] w fun e w' => e = .returned (.bool true) ∧ Below w.heap.size w w' := by
  have HL : Hid (tr.length = n) := by
    unfold Hid
    have h3 := h1.1
    rw [flat_len Cmd.cells 4 Cmd.cells_len] at h3
    omega
  have HH1 := hide h1
  have HH2 := hide h2
  clear h1 h2
  go_enter Try.func23, Try.ntmps23
  go_wp2
  go_loopw [5] (fun i wr => ∃ m : Nat, m ≤ n ∧ i = .int .i64 m ∧ Hid (Below w.heap.size w wr)) (fun i _ => n - (intOf i).toNat)
  case atStart => exact ⟨0, Nat.zero_le _, rfl, Below.refl _ _⟩
  case round =>
    obtain ⟨m, hm, rfl, HBr⟩ := hrel
    by_cases hlt : m < n
    · have dm : decide ((m : Int) < (n : Int)) = true := decide_eq_true (by omega)
      have m1 : (m : Int) < (n : Int) := by omega
      have hml : m < tr.length := by rw [HL.out]; exact hlt
      obtain ⟨x, hx⟩ : ∃ x, tr[m]? = some x := ⟨_, List.getElem?_eq_getElem hml⟩
      obtain ⟨g1, d1, q1, _⟩ := HH1.out.form (by omega)
      obtain ⟨g2, d2, q2, _⟩ := HH2.out.form (by omega)
      cases q1
      cases q2
      obtain ⟨a0, a1, a2, a3⟩ := tr_cells HH1.out hx
      obtain ⟨e0, e1, e2, e3⟩ := tr_cells HH2.out hx
      have a0 := (HBr.out.cell (block_lt_of_cell a0)).trans a0
      have a1 := (HBr.out.cell (block_lt_of_cell a1)).trans a1
      have a2 := (HBr.out.cell (block_lt_of_cell a2)).trans a2
      have a3 := (HBr.out.cell (block_lt_of_cell a3)).trans a3
      have e0 := (HBr.out.cell (block_lt_of_cell e0)).trans e0
      have e1 := (HBr.out.cell (block_lt_of_cell e1)).trans e1
      have e2 := (HBr.out.cell (block_lt_of_cell e2)).trans e2
      have e3 := (HBr.out.cell (block_lt_of_cell e3)).trans e3
      clear hx hml
      go_wp2
      refine wp_region_held_drew (S := (fun u => u.cell? ⟨g1, m * 4, none⟩ = some (.int .i64 x.k) ∧ u.cell? ⟨g1, m * 4 + 1, none⟩ = some (.int .i64 x.b) ∧ u.cell? ⟨g1, m * 4 + 2, none⟩ = some (.int .i64 x.p) ∧ u.cell? ⟨g1, m * 4 + 3, none⟩ = some (.int .i64 x.s) ∧ u.cell? ⟨g2, m * 4, none⟩ = some (.int .i64 x.k) ∧ u.cell? ⟨g2, m * 4 + 1, none⟩ = some (.int .i64 x.b) ∧ u.cell? ⟨g2, m * 4 + 2, none⟩ = some (.int .i64 x.p) ∧ u.cell? ⟨g2, m * 4 + 3, none⟩ = some (.int .i64 x.s))) (by kernel_rfl) (⟨a0, a1, a2, a3, e0, e1, e2, e3⟩) (fun hHeld => ?_)
      refine wpAnyH_take (i := 0) (oi := { dst := some 17, op := Op.move (Operand.tmp 0), type := 45, pos := "law.go:117", after := #[], guard := none }) (v := ?v0) rfl (by kernel_rfl) (by kernel_rfl) (by kernel_rfl) (fun _ _ _ h => h) (Or.inl ⟨by rfl, ?y0⟩) (by assumption) ?r0
      case y0 => (intro x hx; (try dsimp only at hx); go_simp; try with_reducible rfl)
      try simp only [Act.put, List.setIfInBounds_toArray, List.set_cons_zero, List.set_cons_succ]
      refine wpAnyH_take (i := 1) (oi := { dst := some 18, op := Op.move (Operand.tmp 5), type := 3, pos := "law.go:117", after := #[], guard := none }) (v := ?v1) rfl (by kernel_rfl) (by kernel_rfl) (by kernel_rfl) (fun _ _ _ h => h) (Or.inl ⟨by rfl, ?y1⟩) (by assumption) ?r1
      case y1 => (intro x hx; (try dsimp only at hx); go_simp; try with_reducible rfl)
      try simp only [Act.put, List.setIfInBounds_toArray, List.set_cons_zero, List.set_cons_succ]
      refine wpAnyH_take (i := 2) (oi := { dst := some 19, op := Op.indexAddr 45 (Operand.tmp 17) (Operand.tmp 18), type := 0, pos := "law.go:117", after := #[{ on := 0, ground := Ground.data }, { on := 1, ground := Ground.data }], guard := none }) (v := ?v2) rfl (by kernel_rfl) (by kernel_rfl) (by kernel_rfl) (fun _ _ _ h => h) (Or.inl ⟨by rfl, ?y2⟩) (by assumption) ?r2
      case y2 => (intro x hx; (try dsimp only at hx); go_simp; try with_reducible rfl)
      try simp only [Act.put, List.setIfInBounds_toArray, List.set_cons_zero, List.set_cons_succ]
      refine wpAnyH_take (i := 3) (oi := { dst := some 20, op := Op.load 120 (Operand.tmp 19), type := 120, pos := "law.go:117", after := #[{ on := 2, ground := Ground.data }], guard := none }) (v := ?v3) rfl (by kernel_rfl) (by kernel_rfl) (by kernel_rfl) (fun _ _ _ h => h) (Or.inl ⟨by rfl, ?y3⟩) (by assumption) ?r3
      case y3 => (intro x hx; (try dsimp only at hx); go_simp; try with_reducible rfl)
      try simp only [Act.put, List.setIfInBounds_toArray, List.set_cons_zero, List.set_cons_succ]
      refine wpAnyH_take (i := 4) (oi := { dst := some 21, op := Op.move (Operand.tmp 1), type := 45, pos := "law.go:117", after := #[], guard := none }) (v := ?v4) rfl (by kernel_rfl) (by kernel_rfl) (by kernel_rfl) (fun _ _ _ h => h) (Or.inl ⟨by rfl, ?y4⟩) (by assumption) ?r4
      case y4 => (intro x hx; (try dsimp only at hx); go_simp; try with_reducible rfl)
      try simp only [Act.put, List.setIfInBounds_toArray, List.set_cons_zero, List.set_cons_succ]
      refine wpAnyH_take (i := 5) (oi := { dst := some 22, op := Op.move (Operand.tmp 5), type := 3, pos := "law.go:117", after := #[], guard := none }) (v := ?v5) rfl (by kernel_rfl) (by kernel_rfl) (by kernel_rfl) (fun _ _ _ h => h) (Or.inl ⟨by rfl, ?y5⟩) (by assumption) ?r5
      case y5 => (intro x hx; (try dsimp only at hx); go_simp; try with_reducible rfl)
      try simp only [Act.put, List.setIfInBounds_toArray, List.set_cons_zero, List.set_cons_succ]
      refine wpAnyH_take (i := 6) (oi := { dst := some 23, op := Op.indexAddr 45 (Operand.tmp 21) (Operand.tmp 22), type := 0, pos := "law.go:117", after := #[{ on := 4, ground := Ground.data }, { on := 5, ground := Ground.data }], guard := none }) (v := ?v6) rfl (by kernel_rfl) (by kernel_rfl) (by kernel_rfl) (fun _ _ _ h => h) (Or.inl ⟨by rfl, ?y6⟩) (by assumption) ?r6
      case y6 => (intro x hx; (try dsimp only at hx); go_simp; try with_reducible rfl)
      try simp only [Act.put, List.setIfInBounds_toArray, List.set_cons_zero, List.set_cons_succ]
      refine wpAnyH_take (i := 7) (oi := { dst := some 24, op := Op.load 120 (Operand.tmp 23), type := 120, pos := "law.go:117", after := #[{ on := 6, ground := Ground.data }], guard := none }) (v := ?v7) rfl (by kernel_rfl) (by kernel_rfl) (by kernel_rfl) (fun _ _ _ h => h) (Or.inl ⟨by rfl, ?y7⟩) (by assumption) ?r7
      case y7 => (intro x hx; (try dsimp only at hx); go_simp; try with_reducible rfl)
      try simp only [Act.put, List.setIfInBounds_toArray, List.set_cons_zero, List.set_cons_succ]
      refine wpAnyH_take (i := 8) (oi := { dst := some 25, op := Op.binOp BinOp.neq 120 (Operand.tmp 20) (Operand.tmp 24) 120, type := 4, pos := "law.go:117", after := #[{ on := 3, ground := Ground.data }, { on := 7, ground := Ground.data }], guard := none }) (v := ?v8) rfl (by kernel_rfl) (by kernel_rfl) (by kernel_rfl) (fun _ _ _ h => h) (Or.inl ⟨by rfl, ?y8⟩) (by assumption) ?r8
      case y8 => (intro x hx; (try dsimp only at hx); go_simp; try with_reducible rfl)
      try simp only [Act.put, List.setIfInBounds_toArray, List.set_cons_zero, List.set_cons_succ]
      refine wpAnyH_done (by kernel_rfl) ?_ _
      clear hHeld
      go_wp2
      go_roundw
      case rel => exact ⟨m + 1, by omega, by go_num, below_trans HBr.out (drew_below _)⟩
      case measure => simp [intOf]; omega
    · have dm : decide ((m : Int) < (n : Int)) = false := decide_eq_false (by omega)
      go_wp2
      go_ret
      exact ⟨rfl, HBr.out⟩

/-- The records of calls, as they are handed in. -/
structure Ox where
  o : Opc
  da : Option Addr
  dn : Nat
  dc : Nat
  za : Option Addr
  zn : Nat
  zc : Nat
def Ox.zero : Ox := ⟨⟨0, 0, 0, 0, false, [], []⟩, none, 0, 0, none, 0, 0⟩
def Ox.cell (x : Ox) : Nat → Value
  | 0 => .int .i64 x.o.k
  | 1 => .int .i64 x.o.b
  | 2 => .int .i64 x.o.p
  | 3 => .int .i64 x.o.bit
  | 4 => .bool x.o.fit
  | 5 => .slice x.da x.dn x.dc
  | _ => .slice x.za x.zn x.zc
structure OxOk (w : World) (x : Ox) : Prop where
  d : Reads w x.da x.dn x.o.d
  z : Reads w x.za x.zn x.o.z
  dl : x.dn ≤ 140737488351232
  zl : x.zn ≤ 140737488351232
  bit : x.o.bit ≤ 9223372036854775807
def ReadsO (w : World) (a : Option Addr) (len : Nat) (xs : List Ox) : Prop :=
  xs.length = len ∧ (∀ x ∈ xs, OxOk w x) ∧ (a = none → len = 0) ∧ ∀ y, a = some y → ∀ i, i < len → ∀ j, j < 7 → w.cell? (y.add (i * 7 + j)) = some ((xs.getD i Ox.zero).cell j)
theorem OxOk.below {w w' : World} {x : Ox} (h : OxOk w x) (hb : Below w.heap.size w w') : OxOk w' x := ⟨h.d.below hb, h.z.below hb, h.dl, h.zl, h.bit⟩
theorem reads_low {w : World} {a : Option Addr} {l : Nat} {zs : List Int} (h : Reads w a l zs) {y : Addr} (hy : a = some y) (h0 : 0 < l) : y.block < w.heap.size := by
  obtain ⟨b, off, e, hb, _⟩ := h.pos h0
  rw [hy] at e
  cases e
  exact hb
theorem ReadsO.pos {w : World} {a : Option Addr} {len : Nat} {xs : List Ox} (h : ReadsO w a len xs) {i : Nat} (hi : i < len) : ∃ b off x, a = some ⟨b, off, none⟩ ∧ b < w.heap.size ∧ xs[i]? = some x ∧ OxOk w x ∧ w.cell? ⟨b, off + i * 7, none⟩ = some (.int .i64 x.o.k) ∧ w.cell? ⟨b, off + i * 7 + 1, none⟩ = some (.int .i64 x.o.b) ∧ w.cell? ⟨b, off + i * 7 + 2, none⟩ = some (.int .i64 x.o.p) ∧ w.cell? ⟨b, off + i * 7 + 3, none⟩ = some (.int .i64 x.o.bit) ∧ w.cell? ⟨b, off + i * 7 + 4, none⟩ = some (.bool x.o.fit) ∧ w.cell? ⟨b, off + i * 7 + 5, none⟩ = some (.slice x.da x.dn x.dc) ∧ w.cell? ⟨b, off + i * 7 + 6, none⟩ = some (.slice x.za x.zn x.zc) := by
  obtain ⟨hl, hok, hn, hc⟩ := h
  cases a with
  | none => have := hn rfl; omega
  | some y =>
    obtain ⟨b, off, spot⟩ := y
    have h0 := hc _ rfl 0 (by omega) 0 (by omega)
    have hspot : spot = none := by simpa [Addr.add] using World.cell?_spot h0
    subst hspot
    have hil : i < xs.length := by omega
    have e : xs.getD i Ox.zero = xs[i] := by rw [List.getD_eq_getElem?_getD, List.getElem?_eq_getElem hil]; rfl
    have k : ∀ j, j < 7 → w.cell? ⟨b, off + i * 7 + j, none⟩ = some (xs[i].cell j) := fun j hj => by
      have h1 := hc _ rfl i hi j hj
      rw [plain_add, e] at h1
      rw [Nat.add_assoc]
      exact h1
    refine ⟨b, off, xs[i], rfl, by simpa [Addr.add] using block_lt_of_cell h0, List.getElem?_eq_getElem hil, hok _ (List.getElem_mem hil), k 0 (by omega), k 1 (by omega), k 2 (by omega), k 3 (by omega), k 4 (by omega), k 5 (by omega), k 6 (by omega)⟩
end Go.Proofs.Ytadlkikjfonkgaa
namespace Go.Proofs.Ytadlkikjfonkgaa
open Go.RowKit Go.Conc
set_option linter.unusedVariables false

theorem noteC_len (k a b : Int) (r : Int × Ch) : (noteC k a b r).2.tr.length = r.2.tr.length + 1 := by simp [noteC]
theorem ProgramC_tr (C : Ch) (pb pp : Int) (n1 n2 : Nat) (want : List Int) : (ProgramC C pb pp n1 n2 want).2.tr.length ≤ C.tr.length + 1 := by
  unfold ProgramC
  split
  · exact Nat.le_succ _
  split
  · exact Nat.le_succ _
  rw [noteC_len]
  unfold progC
  split
  · exact Nat.le_refl _
  split
  · exact Nat.le_refl _
  split
  · exact Nat.le_refl _
  split <;> exact Nat.le_refl _
theorem EraseC_tr (C : Ch) (pb : Int) : (EraseC C pb).2.tr.length ≤ C.tr.length + 1 := by
  unfold EraseC
  split
  · exact Nat.le_succ _
  rw [noteC_len, eraseC_tr]
  exact Nat.le_refl _
theorem MarkC_tr (C : Ch) (pb : Int) : (MarkC C pb).2.tr.length ≤ C.tr.length + 1 := by
  unfold MarkC
  split
  · exact Nat.le_succ _
  rw [noteC_len, markC_tr]
  exact Nat.le_refl _
theorem FlipC_tr (C : Ch) (pb pp bit : Int) : (FlipC C pb pp bit).2.tr = C.tr := by
  unfold FlipC
  split
  · rfl
  split
  · rfl
  split
  · rfl
  split <;> rfl
/-- What a chip keeps through calls. -/
structure Life (C : Ch) (n : Nat) : Prop where
  ok : C.Ok
  tr : C.tr.length ≤ n
  fl : FlN C n
theorem Life.does {C : Ch} {n : Nat} (h : Life C n) (o : Opc) : Life (doesC C o).2 (n + 1) := by
  have hl : Life C (n + 1) := ⟨h.ok, Nat.le_succ_of_le h.tr, h.fl.mono (Nat.le_succ _)⟩
  have htr := h.tr
  unfold doesC
  split
  · exact ⟨ProgramC_ok _ h.ok _ _ _ _ _, Nat.le_trans (ProgramC_tr _ _ _ _ _ _) (by omega), fun b p => by rw [ProgramC_fl]; exact hl.fl b p⟩
  split
  · exact ⟨EraseC_ok _ h.ok _, Nat.le_trans (EraseC_tr _ _) (by omega), EraseC_fl hl.fl _⟩
  split
  · exact ⟨MarkC_ok _ h.ok _, Nat.le_trans (MarkC_tr _ _) (by omega), fun b p => by rw [MarkC_fl]; exact hl.fl b p⟩
  split
  · exact ⟨FlipC_ok _ h.ok _ _ _, by rw [FlipC_tr]; omega, FlipC_fl h.fl _ _ _⟩
  split
  · exact ⟨On_ok _ h.ok, hl.tr, hl.fl⟩
  · exact hl
theorem newC_life (B P S : Nat) (bad : List Int) (q : List Ft) (hf : Fits B P S = true) : Life (newC B P S bad q) 0 := ⟨newC_ok B P S bad q hf, Nat.le_refl _, newC_fl B P S bad q⟩
theorem Life.play {C : Ch} {n : Nat} (h : Life C n) (ops : List Opc) : Life (playC C ops) (n + ops.length) := by
  induction ops generalizing C n with
  | nil => exact h
  | cons o r ih =>
    have h1 := ih (h.does o)
    rw [List.length_cons, show n + (r.length + 1) = n + 1 + r.length by omega]
    exact h1
theorem toldC_len (ops : List Opc) : ∀ C, (toldC C ops).length = ops.length := by
  induction ops with
  | nil => intro C; rfl
  | cons o r ih => intro C; simp [toldC, ih]
theorem toldC_get (ops : List Opc) : ∀ (C : Ch) (i : Nat) (o : Opc), ops[i]? = some o → (toldC C ops)[i]? = some (doesC (playC C (ops.take i)) o).1 := by
  induction ops with
  | nil => intro C i o h; simp at h
  | cons a r ih =>
    intro C i o h
    cases i with
    | zero => simp at h; subst h; rfl
    | succ i =>
      have h1 := ih (doesC C a).2 i o (by simpa using h)
      simpa [toldC, playC] using h1
theorem toldC_take {ops : List Opc} {C : Ch} {i : Nat} {o : Opc} (h : ops[i]? = some o) : (toldC C ops).take (i + 1) = (toldC C ops).take i ++ [(doesC (playC C (ops.take i)) o).1] := by
  rw [List.take_add_one, toldC_get ops C i o h]
  rfl
theorem playC_take {ops : List Opc} {C : Ch} {i : Nat} {o : Opc} (h : ops[i]? = some o) : playC C (ops.take (i + 1)) = (doesC (playC C (ops.take i)) o).2 := by
  rw [List.take_add_one, h]
  exact playC_snoc C _ o

/-! ### Faults in order -/
theorem fmb_cons {l : Int} {c : Fc} {r : List Fc} (h : fmb l (c :: r) = true) : (decide (c.a ≤ l) || (c.k != 1 && c.k != 2)) = false ∧ fmb c.a r = true := by
  unfold fmb at h
  split at h
  · cases h
  · rename_i h1
    exact ⟨by simpa using h1, h⟩
theorem fmb_mono {l l' : Int} (hl : l' ≤ l) : ∀ {fs : List Fc}, fmb l fs = true → fmb l' fs = true
  | [], _ => rfl
  | c :: r, h => by
    obtain ⟨h1, h2⟩ := fmb_cons h
    have h3 : (decide (c.a ≤ l') || (c.k != 1 && c.k != 2)) = false := by
      rw [Bool.or_eq_false_iff] at h1 ⊢
      refine ⟨decide_eq_false (fun h9 => ?_), h1.2⟩
      have := of_decide_eq_false h1.1
      omega
    unfold fmb
    rw [if_neg (by rw [h3]; decide)]
    exact h2
theorem fmb_rises : ∀ (fs : List Fc) (last : Int), fmb last fs = true → (∀ f ∈ fs, last < f.a) ∧ fs.Pairwise (fun f g => f.a < g.a) ∧ ∀ n : Int, fmb last (fs.filter (fun f => decide (f.a < n))) = true
  | [], last, _ => ⟨(fun f hf => by cases hf), List.Pairwise.nil, fun _ => rfl⟩
  | c :: r, last, h => by
    obtain ⟨h1, h2⟩ := fmb_cons h
    obtain ⟨i1, i2, i3⟩ := fmb_rises r c.a h2
    have hc : last < c.a := by
      rw [Bool.or_eq_false_iff] at h1
      have := of_decide_eq_false h1.1
      omega
    refine ⟨fun f hf => ?_, List.pairwise_cons.2 ⟨i1, i2⟩, fun n => ?_⟩
    · rcases List.mem_cons.1 hf with rfl | hf
      · exact hc
      · have := i1 f hf; omega
    · by_cases hn : c.a < n
      · rw [List.filter_cons_of_pos (by simpa using hn)]
        unfold fmb
        rw [if_neg (by rw [h1]; decide)]
        exact i3 n
      · rw [List.filter_cons_of_neg (by simpa using hn)]
        exact fmb_mono (by omega) (i3 n)
def cutF (n : Nat) (fs : List Fc) : List Fc := fs.filter (fun f => decide (f.a < (n : Int)))
theorem cutF_t (n : Nat) (fs : List Fc) : (cutF n fs).map Fc.t = cutQ n (fs.map Fc.t) := by
  unfold cutF cutQ
  rw [List.filter_map]
  rfl
theorem faults_cut {fs : List Fc} (h : faultsB fs = true) (n : Nat) : faultsB (cutF n fs) = true ∧ Rises 0 (fs.map Fc.t) := by
  unfold faultsB at h
  rw [Bool.and_eq_true] at h
  obtain ⟨h1, h2⟩ := h
  obtain ⟨i1, i2, i3⟩ := fmb_rises fs (-1) h2
  refine ⟨?_, ?_, ?_⟩
  · unfold faultsB
    rw [Bool.and_eq_true]
    have h3 := of_decide_eq_true h1
    exact ⟨decide_eq_true (Nat.le_trans (List.length_filter_le _ _) h3), i3 n⟩
  · intro f hf
    obtain ⟨c, hc, rfl⟩ := List.mem_map.1 hf
    have := i1 c hc
    show (0 : Int) ≤ c.a
    omega
  · rw [List.pairwise_map]
    exact i2
theorem newC_cut (bad : List Int) (fs : List Fc) (n : Nat) : newC 8 4 1 bad ((cutF n fs).map Fc.t) = setQ (newC 8 4 1 bad (fs.map Fc.t)) (cutQ n (newC 8 4 1 bad (fs.map Fc.t)).q) := by
  rw [cutF_t]
  rfl
/-- The whole of it: with those faults alone that were reached. -/
theorem faults_same (bad : List Int) (fs : List Fc) (h : faultsB fs = true) (ops : List Opc) (n : Nat) (hn : (playC (newC 8 4 1 bad (fs.map Fc.t)) ops).cnt = n) :
    toldC (newC 8 4 1 bad ((cutF n fs).map Fc.t)) ops = toldC (newC 8 4 1 bad (fs.map Fc.t)) ops ∧ ∃ q, playC (newC 8 4 1 bad ((cutF n fs).map Fc.t)) ops = setQ (playC (newC 8 4 1 bad (fs.map Fc.t)) ops) q := by
  rw [newC_cut]
  exact play_cut n ops _ (faults_cut h n).2 (Nat.le_of_eq hn)

/-! ### In memory -/
theorem HD.keepO {w u v : World} {p : Nat} {F G : Nat → Prop} {K : List (Nat × Obj)} {C : Ch} (h : HD w u p F K C) (ho : Only G u v) (hF : ∀ k, F k → ¬ G k) (hK : ∀ x ∈ K, ¬ G x.1) (hw : ∀ k, G k → w.heap.size ≤ k) : HD w v p F K C :=
  ⟨h.bel.trans (ho.below hw h.bel.size), h.ch.only ho hF, h.lo, fun x hx => ⟨(ho.block _ (lt_of_block (h.kp x hx).1) (hK x hx)).trans (h.kp x hx).1, (h.kp x hx).2⟩⟩
def box8 : Obj := .cells #[.int .i64 8, .int .i64 4, .int .i64 1] 23 (0, 0)
/-- What was told so far, beside a chip. -/
structure FA (w u : World) (p b7 : Nat) (F : Nat → Prop) (C : Ch) (v : Value) (i : Nat) (ts : List Int) : Prop where
  hd : HD w u p F [(b7, box8)] C
  told : u.ownsRow w.heap.size 30 1 v i (ts.map (Value.int .i64))
  tf : ∀ g, v.ownBlock = some g → ¬ F g
theorem FA.does {w u v' : World} {p b7 : Nat} {F : Nat → Prop} {C C' : Ch} {v : Value} {i : Nat} {ts : List Int} (h : FA w u p b7 F C v i ts) (hc : ChipAt v' p (Fx F u v') C') (ho : Only F u v') : FA w v' p b7 (Fx F u v') C' v i ts := by
  refine ⟨h.hd.step hc ho, ?_, fun g hg hf => ?_⟩
  · refine owns_keep h.told (fun g hg => ?_)
    obtain ⟨cs, hcs⟩ := own_tag h.told hg
    exact ho.block g (lt_of_block hcs) (h.tf g hg)
  · obtain ⟨cs, hcs⟩ := own_tag h.told hg
    have hl := lt_of_block hcs
    exact hf.elim (h.tf g hg) (fun h9 => by omega)
theorem FA.app {w u w1 : World} {p b7 : Nat} {F : Nat → Prop} {C : Ch} {v : Value} {i : Nat} {ts : List Int} {r : Int} {o : Obj} {g c : Nat} (h : FA w u p b7 F C v i ts) (ho : w1.ownsRow w.heap.size 30 1 (.slice (some ⟨g, 0, none⟩) (i + 1) c) (i + 1) (ts.map (Value.int .i64) ++ [.int .i64 r])) (hg : (u.alloc o).grownBy w1 v.ownBlock) (hl : v.ownBlock = some g ∨ g = u.heap.size + 1) :
    FA w w1 p b7 F C (.slice (some ⟨g, 0, none⟩) (i + 1) c) (i + 1) (ts ++ [r]) := by
  have hal := below_alloc u o
  have hd1 := h.hd.below hal
  have hG : Only (fun k => v.ownBlock = some k) (u.alloc o) w1 := Only.ofG hg (fun j hj => hj)
  refine ⟨hd1.keepO hG (fun k hk hv => h.tf k hv hk) (fun x hx hv => ?_) (fun k hk => ?_), ?_, fun k hk hf => ?_⟩
  · simp at hx
    subst hx
    obtain ⟨cs, hcs⟩ := own_tag h.told hv
    exact tag_ne (h.hd.blk (List.mem_cons_self)) hcs (t := 23) (u := 30) rfl rfl (by decide) rfl
  · obtain ⟨cs, hcs⟩ := own_tag h.told hk
    rcases h.told.2 with ⟨hv, _⟩ | ⟨g', cap, cur, hv, hb, _⟩
    · rw [hv] at hk; cases hk
    · rw [hv] at hk; cases hk; exact hb
  · rw [List.map_append]
    exact ho
  · cases hk
    rcases hl with hl | hl
    · exact h.tf g hl hf
    · have h9 : g < u.heap.size := h.hd.ch.fin g hf
      omega
theorem FA.below {w u v' : World} {p b7 : Nat} {F : Nat → Prop} {C : Ch} {v : Value} {i : Nat} {ts : List Int} (h : FA w u p b7 F C v i ts) (hb : Below u.heap.size u v') : FA w v' p b7 F C v i ts :=
  ⟨h.hd.below hb, owns_keep h.told (fun g hg => by obtain ⟨cs, hcs⟩ := own_tag h.told hg; exact hb.block g (lt_of_block hcs)), h.tf⟩
theorem info30 : (Try.prog.info? 30).map (fun i => (i.zero, i.size, i.bytes)) = some (some (.int .i64 0), 1, 8) := by kernel_rfl
theorem news_int (w : World) (z : Int) : ∀ j u, [Value.int .i64 z][j]? = some u → (w.alloc (.cells #[.int .i64 z] 30)).cell? ((⟨w.heap.size, 0, none⟩ : Addr).add j) = some u := by
  intro j u hj
  cases j with
  | succ j => simp at hj
  | zero =>
  simp at hj
  subst hj
  rw [plain_add]
  exact cells1 (alloc_new w (.cells #[.int .i64 z] 30))
def Fc.row (c : Fc) : List Value := [.int .i64 c.a, .int .i64 c.k, .slice c.ma c.ml c.mc, .int .u8 c.f]
theorem Fc.row_len (c : Fc) : c.row.length = 4 := rfl
/-- Faults that were picked, beside what was told. -/
structure FS (w u : World) (p b7 : Nat) (F : Nat → Prop) (C : Ch) (v : Value) (i : Nat) (ts : List Int) (v2 : Value) (xs : List Fc) : Prop where
  fa : FA w u p b7 F C v i ts
  own : u.ownsRow w.heap.size 58 4 v2 xs.length (xs.flatMap Fc.row)
  sf : ∀ g, v2.ownBlock = some g → ¬ F g
theorem own_lo {u : World} {B e size n g : Nat} {v : Value} {xs : List Value} (h : u.ownsRow B e size v n xs) (hg : v.ownBlock = some g) : B ≤ g := by
  rcases h.2 with ⟨hv, _⟩ | ⟨g', cap, cur, hv, hb, _⟩
  · rw [hv] at hg; cases hg
  · rw [hv] at hg; cases hg; exact hb
theorem FS.app {w u w1 : World} {p b7 : Nat} {F : Nat → Prop} {C : Ch} {v : Value} {i : Nat} {ts : List Int} {v2 : Value} {xs : List Fc} {x : Fc} {o : Obj} {g c : Nat} (h : FS w u p b7 F C v i ts v2 xs) (ho : w1.ownsRow w.heap.size 58 4 (.slice (some ⟨g, 0, none⟩) (xs.length + 1) c) (xs.length + 1) (xs.flatMap Fc.row ++ x.row)) (hg : (u.alloc o).grownBy w1 v2.ownBlock) (hl : v2.ownBlock = some g ∨ g = u.heap.size + 1) :
    FS w w1 p b7 F C v i ts (.slice (some ⟨g, 0, none⟩) (xs.length + 1) c) (xs ++ [x]) := by
  have hal := below_alloc u o
  have fa1 := h.fa.below hal
  have hG : Only (fun k => v2.ownBlock = some k) (u.alloc o) w1 := Only.ofG hg (fun j hj => hj)
  refine ⟨⟨fa1.hd.keepO hG (fun k hk hv => h.sf k hv hk) (fun y hy hv => ?_) (fun k hk => own_lo h.own hk), ?_, h.fa.tf⟩, ?_, fun k hk hf => ?_⟩
  · simp at hy
    subst hy
    obtain ⟨cs, hcs⟩ := own_tag h.own hv
    exact tag_ne (h.fa.hd.blk (List.mem_cons_self)) hcs (t := 23) (u := 58) rfl rfl (by decide) rfl
  · refine owns_keep fa1.told (fun k hk => ?_)
    obtain ⟨cs, hcs⟩ := own_tag fa1.told hk
    refine hG.block k (lt_of_block hcs) (fun hv => ?_)
    obtain ⟨cs2, hcs2⟩ := own_tag h.own hv
    have hcs3 : (u.alloc o).heap[k]? = some (.cells cs2 58 (0, 0)) := (alloc_old _ _ (lt_of_block hcs2)).trans hcs2
    exact tag_ne hcs hcs3 (t := 30) (u := 58) rfl rfl (by decide) rfl
  · rw [List.length_append, List.flatMap_append]
    simp only [List.length_cons, List.length_nil, List.flatMap_cons, List.flatMap_nil, List.append_nil]
    exact ho
  · cases hk
    rcases hl with hl | hl
    · exact h.sf g hl hf
    · have h9 : g < u.heap.size := h.fa.hd.ch.fin g hf
      omega
theorem FS.drew {w u : World} {p b7 : Nat} {F : Nat → Prop} {C : Ch} {v : Value} {i : Nat} {ts : List Int} {v2 : Value} {xs : List Fc} (h : FS w u p b7 F C v i ts v2 xs) : FS w u.drew p b7 F C v i ts v2 xs := ⟨h.fa.below (drew_below u), h.own, h.sf⟩
theorem FcOk.below {w w' : World} {c : Fc} (h : FcOk w c) (hb : Below w.heap.size w w') : FcOk w' c := ⟨h.rd.below hb, h.le, h.cap, h.fill, h.a, h.k⟩
theorem readsF_own {u : World} {B n c : Nat} {a : Option Addr} {xs : List Fc} (h : u.ownsRow B 58 4 (.slice a n c) n (xs.flatMap Fc.row)) (hok : ∀ x ∈ xs, FcOk u x) : ReadsF u a n xs := by
  have hl := flat_len Fc.row 4 Fc.row_len xs
  have hn : xs.length = n := by have := h.1; omega
  refine ⟨hn, hok, ?_, fun y hy i hi j hj => ?_⟩
  · intro ha
    rcases h.2 with ⟨_, h0⟩ | ⟨g, cap, cur, hv, _⟩
    · exact h0
    · rw [ha] at hv; cases hv
  · obtain ⟨g, c', hv, _⟩ := h.form (by omega)
    cases hv
    cases hy
    rw [plain_add, Nat.zero_add]
    have hil : i < xs.length := by omega
    rw [World.ownsRow.cellAt h (i * 4 + j) (by omega), flat_get Fc.row 4 Fc.row_len j hj xs i xs[i] (List.getElem?_eq_getElem hil)]
    rw [List.getD_eq_getElem?_getD, List.getElem?_eq_getElem hil]
    simp only [Option.getD_some]
    rcases j with _ | _ | _ | _ | j
    · rfl
    · rfl
    · rfl
    · rfl
    · omega
theorem news_fault (w : World) (x : Fc) : ∀ j u, x.row[j]? = some u → (w.alloc (.cells #[.int .i64 x.a, .int .i64 x.k, .slice x.ma x.ml x.mc, .int .u8 x.f] 58)).cell? ((⟨w.heap.size, 0, none⟩ : Addr).add j) = some u := by
  intro j u hj
  rw [plain_add, Nat.zero_add]
  have h := alloc_new w (.cells #[.int .i64 x.a, .int .i64 x.k, .slice x.ma x.ml x.mc, .int .u8 x.f] 58)
  simp only [World.cell?, h]
  rw [← hj]
  rcases j with _ | _ | _ | _ | j <;> rfl
theorem ReadsF.get {w : World} {a : Option Addr} {len : Nat} {fs : List Fc} (h : ReadsF w a len fs) {i : Nat} (hi : i < len) : ∃ b off x, a = some ⟨b, off, none⟩ ∧ b < w.heap.size ∧ fs[i]? = some x ∧ w.cell? ⟨b, off + i * 4, none⟩ = some (.int .i64 x.a) ∧ w.cell? ⟨b, off + i * 4 + 1, none⟩ = some (.int .i64 x.k) ∧ w.cell? ⟨b, off + i * 4 + 2, none⟩ = some (.slice x.ma x.ml x.mc) ∧ w.cell? ⟨b, off + i * 4 + 3, none⟩ = some (.int .u8 x.f) := by
  obtain ⟨b, off, ha, hb, hc⟩ := h.pos (by omega)
  have hil : i < fs.length := by rw [h.1]; exact hi
  have e : fs.getD i Fc.zero = fs[i] := by rw [List.getD_eq_getElem?_getD, List.getElem?_eq_getElem hil]; rfl
  obtain ⟨c0, c1, c2, c3⟩ := hc i hi
  rw [e] at c0 c1 c2 c3
  exact ⟨b, off, fs[i], ha, hb, List.getElem?_eq_getElem hil, c0, c1, c2, c3⟩
/-- Two chips, and what was told. -/
structure FD (w u : World) (p p2 b7 : Nat) (F F2 : Nat → Prop) (C D : Ch) (v : Value) (i : Nat) (ts : List Int) : Prop where
  fa : FA w u p2 b7 F2 D v i ts
  c : ChipAt u p F C
  dj : ∀ k, F k → ¬ F2 k
theorem FD.does {w u v' : World} {p p2 b7 : Nat} {F F2 : Nat → Prop} {C D D' : Ch} {v : Value} {i : Nat} {ts : List Int} (h : FD w u p p2 b7 F F2 C D v i ts) (hc : ChipAt v' p2 (Fx F2 u v') D') (ho : Only F2 u v') : FD w v' p p2 b7 F (Fx F2 u v') C D' v i ts :=
  ⟨h.fa.does hc ho, h.c.only ho h.dj, fun k hk hf => hf.elim (h.dj k hk) (fun h9 => by have := h.c.fin k hk; omega)⟩
theorem FD.below {w u v' : World} {p p2 b7 : Nat} {F F2 : Nat → Prop} {C D : Ch} {v : Value} {i : Nat} {ts : List Int} (h : FD w u p p2 b7 F F2 C D v i ts) (hb : Below u.heap.size u v') : FD w v' p p2 b7 F F2 C D v i ts := ⟨h.fa.below hb, h.c.below hb, h.dj⟩
theorem fd_start {w u v' : World} {p p2 b7 : Nat} {F : Nat → Prop} {C D : Ch} {v : Value} {i : Nat} {ts : List Int} (h : FA w u p b7 F C v i ts) (hc : ChipAt v' p2 (fun k => u.heap.size ≤ k ∧ k < v'.heap.size) D) (hb : Below u.heap.size u v') : FD w v' p p2 b7 F (fun k => u.heap.size ≤ k ∧ k < v'.heap.size) C D v i ts := by
  have h1 := h.below hb
  refine ⟨⟨⟨h1.hd.bel, hc, fun k hk => Nat.le_trans h.hd.bel.size hk.1, fun x hx => ⟨(h1.hd.kp x hx).1, fun hf => ?_, (h1.hd.kp x hx).2.2⟩⟩, h1.told, fun g hg hf => ?_⟩, h1.hd.ch, fun k hk hf => ?_⟩
  · have := lt_of_block (h.hd.kp x hx).1
    have := hf.1
    omega
  · obtain ⟨cs, hcs⟩ := own_tag h.told hg
    have := lt_of_block hcs
    have := hf.1
    omega
  · have := h.hd.ch.fin k hk
    have := hf.1
    omega
theorem told_cell {u : World} {B n g c : Nat} {ts : List Int} (h : u.ownsRow B 30 1 (.slice (some ⟨g, 0, none⟩) n c) n (ts.map (Value.int .i64))) {m : Nat} {z : Int} (hz : ts[m]? = some z) : u.cell? ⟨g, m, none⟩ = some (.int .i64 z) := by
  have hm : m < ts.length := (List.getElem?_eq_some_iff.1 hz).1
  have hl : ts.length = n := by have := h.1; simpa using this
  rw [World.ownsRow.cellAt h m (by omega), List.getElem?_map, hz]
  rfl
theorem owns_bel {u v' : World} {B e size n : Nat} {v : Value} {xs : List Value} (h : u.ownsRow B e size v n xs) (hb : Below u.heap.size u v') : v'.ownsRow B e size v n xs := owns_keep h (fun g hg => by obtain ⟨cs, hcs⟩ := own_tag h hg; exact hb.block g (lt_of_block hcs))
end Go.Proofs.Ytadlkikjfonkgaa
