/-
  SEAT Ytjhphkfpcpfdnaa: what an erase leaves of a page.
-/
import Derived.Test.YtjhphkfpcpfdnaaMp
namespace Go.Proofs.Ytjhphkfpcpfdnaa
open Go.RowKit Go.Conc
set_option linter.unusedVariables false

/-- Where a slice's tail lies. -/
def tailA (a : Option Addr) (c k : Nat) : Option Addr := if c = k then a else a.map (·.add k)
theorem tail_run (w : World) (a : Option Addr) (l c k : Nat) (hk : k ≤ l) (hl : l ≤ c) : (Instr.sliceAt 32 (.slice a l c) (some (.int .i64 (k : Int))) none none).run Try.prog w = .ok (.slice (tailA a c k) (l - k) (c - k)) w := by
  have h1 : (k : Int) ≤ l := by omega
  have h2 : (k : Int) ≤ c := by omega
  have h3 : (0 : Int) ≤ k := by omega
  simp [go_sem, tailA]
  intro h9
  omega
theorem tail_reads {w : World} {a : Option Addr} {l c k : Nat} {zs : List Int} (h : Reads w a l zs) (hk : k ≤ l) (hl : l ≤ c) : Reads w (tailA a c k) (l - k) (zs.drop k) := by
  have hlen := h.1
  by_cases h0 : l - k = 0
  · rw [h0]
    exact ⟨by simp; omega, fun x hx => h.2.1 x (List.mem_of_mem_drop hx), fun _ => rfl, fun _ _ i hi => absurd hi (Nat.not_lt_zero _)⟩
  · obtain ⟨b, off, rfl, hb, hc⟩ := h.pos (by omega)
    unfold tailA
    rw [if_neg (by omega)]
    refine ⟨by simp; omega, fun x hx => h.2.1 x (List.mem_of_mem_drop hx), by simp, fun x hx i hi => ?_⟩
    simp only [Option.map_some] at hx
    cases hx
    rw [plain_add, plain_add]
    have := hc (k + i) (by omega)
    rw [← Nat.add_assoc] at this
    rw [this]
    simp [List.getD_eq_getElem?_getD]

/-- What an erase leaves of a page. -/
def rsP (L : Nat) (k : Int) (m : List Int) (f : Int) (i : Nat) (bits : List Int) : List Int :=
  if k = 0 then List.replicate L 255 else riseL bits (m.drop (min (i * L) m.length)) f L
theorem or_ones {m : Int} (h : 0 ≤ m ∧ m ≤ 255) : bits .or .u8 255 m = 255 := by
  obtain ⟨n, rfl, hn⟩ := nat_of h
  have e : ∀ n, n < 256 → bits .or .u8 255 ((n : Nat) : Int) = 255 := by decide +kernel
  exact e n hn
theorem rise_ones (L : Nat) (m : List Int) (f : Int) (hm : ∀ x ∈ m, 0 ≤ x ∧ x ≤ 255) (hf : 0 ≤ f ∧ f ≤ 255) : ∀ k, k ≤ L → riseL (List.replicate L 255) m f k = List.replicate k 255
  | 0, _ => rfl
  | k + 1, hk => by
    rw [riseL, rise_ones L m f hm hf k (by omega), List.replicate_succ']
    congr 1
    have e : (List.replicate L (255 : Int)).getD k 0 = 255 := by rw [List.getD_eq_getElem?_getD, List.getElem?_replicate, if_pos (by omega)]; rfl
    rw [e, or_ones (mk_range hm hf k)]

theorem risen_nil (p : Nat) (w : World) (n c : Nat) (i : Int) (fa fk : Int) (ma : Option Addr) (ml mc : Nat) (ff : Int) :
    Calls Try.prog 62 #[.pointer (some ⟨p, 0, none⟩), .slice none n c, .int .i64 i, .agg #[.int .i64 fa, .int .i64 fk, .slice ma ml mc, .int .u8 ff]] w fun e w' => e = .returned (.slice none 0 0) ∧ Below w.heap.size w w' := by
  have hnil := fun w : World => _root_.Go.run_eql_slice_nil (P := Try.prog) w 32 5 none n c Try.underlying32
  go_enter Try.func62, Try.ntmps62
  go_wp2
  go_ret
  exact ⟨rfl, below_alloc _ _⟩
theorem risen_ok (p : Nat) (w : World) (a : Addr) (n c : Nat) (i : Int) (fa : Int) (ma : Option Addr) (ml mc : Nat) (ff : Int) :
    Calls Try.prog 62 #[.pointer (some ⟨p, 0, none⟩), .slice (some a) n c, .int .i64 i, .agg #[.int .i64 fa, .int .i64 0, .slice ma ml mc, .int .u8 ff]] w fun e w' => e = .returned (.slice none 0 0) ∧ Below w.heap.size w w' := by
  have hnil := fun w : World => _root_.Go.run_eql_slice_nil (P := Try.prog) w 32 5 (some a) n c Try.underlying32
  go_enter Try.func62, Try.ntmps62
  go_wp2
  go_ret
  exact ⟨rfl, below_alloc _ _⟩
theorem r3_keep {p g : Nat} {C : Ch} {ma : Option Addr} {ml mc : Nat} {ff : Int} {u u' : World} (h : u.cell? ⟨p, 0, none⟩ = some (.int .i64 (C.B : Int)) ∧ u.cell? ⟨p, 1, none⟩ = some (.int .i64 (C.P : Int)) ∧ u.cell? ⟨p, 2, none⟩ = some (.int .i64 (C.S : Int)) ∧ u.cell? ⟨g, 2, none⟩ = some (.slice ma ml mc) ∧ u.cell? ⟨g, 3, none⟩ = some (.int .u8 ff)) (hb : Below u.heap.size u u') :
    u'.cell? ⟨p, 0, none⟩ = some (.int .i64 (C.B : Int)) ∧ u'.cell? ⟨p, 1, none⟩ = some (.int .i64 (C.P : Int)) ∧ u'.cell? ⟨p, 2, none⟩ = some (.int .i64 (C.S : Int)) ∧ u'.cell? ⟨g, 2, none⟩ = some (.slice ma ml mc) ∧ u'.cell? ⟨g, 3, none⟩ = some (.int .u8 ff) := by
  obtain ⟨h0, h1, h2, h3, h4⟩ := h
  exact ⟨(hb.cell (block_lt_of_cell h0)).trans h0, (hb.cell (block_lt_of_cell h1)).trans h1, (hb.cell (block_lt_of_cell h2)).trans h2, (hb.cell (block_lt_of_cell h3)).trans h3, (hb.cell (block_lt_of_cell h4)).trans h4⟩

set_option maxRecDepth 100000 in
set_option maxHeartbeats 1000000 in
theorem risen_any (w : World) (p : Nat) (F : Nat → Prop) (C : Ch) (x : Bx) (bs : List Bc) (fe : List Fe) (h : CAt w p F C x bs fe) (hS : 1 ≤ C.S ∧ C.S ≤ 8) (a : Addr) (c i : Nat) (hi : i ≤ 256) (zs : List Int) (hz : Reads w (some a) (pgB C.S) zs) (fa fk : Int) (ma : Option Addr) (ml mc : Nat) (ff : Int) (fm : List Int) (hk : (fk == 0) = false) (hm : MaskOk w F ma ml fm) (hmc : ml ≤ mc) :
    Calls Try.prog 62 #[.pointer (some ⟨p, 0, none⟩), .slice (some a) (pgB C.S) c, .int .i64 (i : Int), .agg #[.int .i64 fa, .int .i64 fk, .slice ma ml mc, .int .u8 ff]] w fun e w' => ∃ g cr, e = .returned (.slice (some ⟨g, 0, none⟩) (pgB C.S) cr) ∧ Own w' w.heap.size g (pgB C.S) cr (riseL zs (fm.drop (min (i * pgB C.S) fm.length)) ff (pgB C.S)) ∧ Below w.heap.size w w' := by
  have hL := pgB_le hS.2
  obtain ⟨L, hLe⟩ : ∃ L, pgB C.S = L := ⟨_, rfl⟩
  rw [hLe] at hL hz ⊢
  have HL := hide hLe
  clear hLe
  have hml : fm.length = ml := hm.rd.1
  rw [hml]
  obtain ⟨ah, hah⟩ : ∃ z, z = min (i * L) ml := ⟨_, rfl⟩
  rw [← hah]
  have hmin : ((i : Int) * (L : Int)) = ((i * L : Nat) : Int) := by simp
  have hah2 : ah ≤ ml := by omega
  have hiL : i * L ≤ 544256 := Nat.le_trans (Nat.mul_le_mul hi hL) (by omega)
  have hwr : IntKind.i64.wrap ((i : Int) * (L : Int)) = ((i * L : Nat) : Int) := by rw [hmin]; simp only [IntKind.wrap_i64]; omega
  have hK := h.below (below_alloc w (.cells #[.int .i64 fa, .int .i64 fk, .slice ma ml mc, .int .u8 ff] 67))
  have hle := hm.le
  have hnil := fun w : World => _root_.Go.run_eql_slice_nil (P := Try.prog) w 32 5 (some a) L c Try.underlying32
  have htl := fun w : World => tail_run w ma ml mc ah hah2 hmc
  have HM := hide hm
  have HZ := hide hz
  have HMT := hide (tail_reads hm.rd hah2 hmc)
  have HLL : Hid (L ≤ 140737488351232) := by unfold Hid; omega
  have HS : Hid ((w.alloc (.cells #[.int .i64 fa, .int .i64 fk, .slice ma ml mc, .int .u8 ff] 67)).cell? ⟨p, 0, none⟩ = some (.int .i64 (C.B : Int)) ∧ (w.alloc (.cells #[.int .i64 fa, .int .i64 fk, .slice ma ml mc, .int .u8 ff] 67)).cell? ⟨p, 1, none⟩ = some (.int .i64 (C.P : Int)) ∧ (w.alloc (.cells #[.int .i64 fa, .int .i64 fk, .slice ma ml mc, .int .u8 ff] 67)).cell? ⟨p, 2, none⟩ = some (.int .i64 (C.S : Int)) ∧ (w.alloc (.cells #[.int .i64 fa, .int .i64 fk, .slice ma ml mc, .int .u8 ff] 67)).cell? ⟨w.heap.size, 2, none⟩ = some (.slice ma ml mc) ∧ (w.alloc (.cells #[.int .i64 fa, .int .i64 fk, .slice ma ml mc, .int .u8 ff] 67)).cell? ⟨w.heap.size, 3, none⟩ = some (.int .u8 ff)) := by
    have b0 := hK.box.c0
    have b1 := hK.box.c1
    have b2 := hK.box.c2
    rw [hK.B] at b0
    rw [hK.P] at b1
    rw [hK.S] at b2
    obtain ⟨_, _, e2, e3⟩ := cells4 (alloc_new w (.cells #[.int .i64 fa, .int .i64 fk, .slice ma ml mc, .int .u8 ff] 67))
    exact ⟨b0, b1, b2, e2, e3⟩
  have hmn : (if (ml : Int) < (i : Int) * (L : Int) then (ml : Int) else (i : Int) * (L : Int)) = (ah : Int) := by
    rw [hmin]
    split <;> omega
  have HMN := hide hmn
  have HAH := hide hah
  clear h hK hm hz hml hah hmin hmn
  go_enter Try.func62, Try.ntmps62
  go_wp2
  refine wp_region_held_drew (S := (fun u => u.cell? ⟨p, 0, none⟩ = some (.int .i64 (C.B : Int)) ∧ u.cell? ⟨p, 1, none⟩ = some (.int .i64 (C.P : Int)) ∧ u.cell? ⟨p, 2, none⟩ = some (.int .i64 (C.S : Int)) ∧ u.cell? ⟨w.heap.size, 2, none⟩ = some (.slice ma ml mc) ∧ u.cell? ⟨w.heap.size, 3, none⟩ = some (.int .u8 ff))) (by kernel_rfl) (HS.out) (fun hHeld => ?_)
  refine wpAnyH_take (i := 0) (oi := { dst := some 17, op := Op.move (Operand.tmp 2), type := 3, pos := "commands.go:66", after := #[], guard := none }) (v := ?v0) rfl (by kernel_rfl) (by kernel_rfl) (by kernel_rfl) (fun _ _ _ h => h) (Or.inl ⟨by rfl, ?y0⟩) (by assumption) ?r0
  case y0 => (intro x hx; (try dsimp only at hx); go_simp; try with_reducible rfl)
  try simp only [Act.put, List.setIfInBounds_toArray, List.set_cons_zero, List.set_cons_succ]
  refine wpAnyH_take (i := 1) (oi := { dst := some 18, op := Op.move (Operand.tmp 0), type := 27, pos := "commands.go:66", after := #[], guard := none }) (v := ?v1) rfl (by kernel_rfl) (by kernel_rfl) (by kernel_rfl) (fun _ _ _ h => h) (Or.inl ⟨by rfl, ?y1⟩) (by assumption) ?r1
  case y1 => (intro x hx; (try dsimp only at hx); go_simp; try with_reducible rfl)
  try simp only [Act.put, List.setIfInBounds_toArray, List.set_cons_zero, List.set_cons_succ]
  refine wpAnyH_take (i := 2) (oi := { dst := some 19, op := Op.nilCheck (Operand.tmp 18), type := 0, pos := "commands.go:66", after := #[{ on := 1, ground := Ground.data }], guard := none }) (v := ?v2) rfl (by kernel_rfl) (by kernel_rfl) (by kernel_rfl) (fun _ _ _ h => h) (Or.inl ⟨by rfl, ?y2⟩) (by assumption) ?r2
  case y2 => (intro x hx; (try dsimp only at hx); go_simp; try with_reducible rfl)
  try simp only [Act.put, List.setIfInBounds_toArray, List.set_cons_zero, List.set_cons_succ]
  refine wpAnyH_take (i := 3) (oi := { dst := some 20, op := Op.fieldAddr 71 (Operand.tmp 19) 0, type := 0, pos := "commands.go:66", after := #[{ on := 2, ground := Ground.data }], guard := none }) (v := ?v3) rfl (by kernel_rfl) (by kernel_rfl) (by kernel_rfl) (fun _ _ _ h => h) (Or.inl ⟨by rfl, ?y3⟩) (by assumption) ?r3
  case y3 => (intro x hx; (try dsimp only at hx); go_simp; try with_reducible rfl)
  try simp only [Act.put, List.setIfInBounds_toArray, List.set_cons_zero, List.set_cons_succ]
  refine wpAnyH_take (i := 4) (oi := { dst := some 21, op := Op.load 23 (Operand.tmp 20), type := 23, pos := "commands.go:66", after := #[{ on := 3, ground := Ground.data }], guard := none }) (v := ?v4) rfl (by kernel_rfl) (by kernel_rfl) (by kernel_rfl) (fun _ _ _ h => h) (Or.inl ⟨by rfl, ?y4⟩) (by assumption) ?r4
  case y4 => (intro x hx; (try dsimp only at hx); go_simp; try with_reducible rfl)
  try simp only [Act.put, List.setIfInBounds_toArray, List.set_cons_zero, List.set_cons_succ]
  refine wpAnyH_take (i := 7) (oi := { dst := some 24, op := Op.fieldAddr 67 (Operand.tmp 7) 2, type := 0, pos := "commands.go:66", after := #[], guard := none }) (v := ?v7) rfl (by kernel_rfl) (by kernel_rfl) (by kernel_rfl) (fun _ _ _ h => h) (Or.inl ⟨by rfl, ?y7⟩) (by assumption) ?r7
  case y7 => (intro x hx; (try dsimp only at hx); go_simp; try with_reducible rfl)
  try simp only [Act.put, List.setIfInBounds_toArray, List.set_cons_zero, List.set_cons_succ]
  refine wpAnyH_take (i := 8) (oi := { dst := some 25, op := Op.load 32 (Operand.tmp 24), type := 32, pos := "commands.go:66", after := #[{ on := 7, ground := Ground.data }], guard := none }) (v := ?v8) rfl (by kernel_rfl) (by kernel_rfl) (by kernel_rfl) (fun _ _ _ h => h) (Or.inl ⟨by rfl, ?y8⟩) (by assumption) ?r8
  case y8 => (intro x hx; (try dsimp only at hx); go_simp; try with_reducible rfl)
  try simp only [Act.put, List.setIfInBounds_toArray, List.set_cons_zero, List.set_cons_succ]
  refine wpAnyH_take (i := 9) (oi := { dst := some 26, op := Op.call { callee := Callee.builtin Builtin.len, args := #[Operand.tmp 25], argTypes := #[32] }, type := 3, pos := "commands.go:66", after := #[{ on := 8, ground := Ground.data }], guard := none }) (v := ?v9) rfl (by kernel_rfl) (by kernel_rfl) (by kernel_rfl) (fun _ _ _ h => h) (Or.inl ⟨by rfl, ?y9⟩) (by assumption) ?r9
  case y9 => (intro x hx; (try dsimp only at hx); go_simp; try with_reducible rfl)
  try simp only [Act.put, List.setIfInBounds_toArray, List.set_cons_zero, List.set_cons_succ]
  refine wpAnyH_ready (rs := [5]) (by kernel_rfl) (by simp) ?_
  refine AllReadyH.cons (o := { dst := some 22, op := Op.call { callee := Callee.value (Operand.func 29), args := #[Operand.tmp 21], argTypes := #[23] }, type := 3, pos := "commands.go:66", after := #[{ on := 4, ground := Ground.data }], guard := none }) rfl (fun K hK => ?_) AllReadyH.nil
  go_simp
  go_at_call 29
  refine (pageB_any _ _ C.S _ hS.1 hS.2).mono ?_
  rintro e u1 ⟨rfl, b1⟩
  rw [HL.out]
  have HB1 := hide (below_trans (drew_below _) b1)
  have hSnew := r3_keep HS.out HB1.out
  clear b1
  go_wp2_with fail
  refine hK.out _ _ hSnew (fun hHeld5 => ?_)
  clear hK K hSnew
  clear hHeld
  have hHeld := hHeld5
  clear hHeld5
  try simp only [Act.put, List.setIfInBounds_toArray, List.set_cons_zero, List.set_cons_succ]
  refine wpAnyH_take (i := 6) (oi := { dst := some 23, op := Op.binOp BinOp.mul 3 (Operand.tmp 17) (Operand.tmp 22) 3, type := 3, pos := "commands.go:66", after := #[{ on := 0, ground := Ground.data }, { on := 5, ground := Ground.data }], guard := none }) (v := ?v6) rfl (by kernel_rfl) (by kernel_rfl) (by kernel_rfl) (fun _ _ _ h => h) (Or.inl ⟨by rfl, ?y6⟩) (by assumption) ?r6
  case y6 => (intro x hx; (try dsimp only at hx); go_simp; try with_reducible rfl)
  try simp only [Act.put, List.setIfInBounds_toArray, List.set_cons_zero, List.set_cons_succ]
  refine wpAnyH_take (i := 10) (oi := { dst := some 27, op := Op.call { callee := Callee.builtin Builtin.min, args := #[Operand.tmp 23, Operand.tmp 26], argTypes := #[3, 3] }, type := 3, pos := "commands.go:66", after := #[{ on := 6, ground := Ground.data }, { on := 9, ground := Ground.data }], guard := none }) (v := ?v10) rfl (by kernel_rfl) (by kernel_rfl) (by kernel_rfl) (fun _ _ _ h => h) (Or.inl ⟨by rfl, ?y10⟩) (by assumption) ?r10
  case y10 => (intro x hx; (try dsimp only at hx); go_simp; try with_reducible rfl)
  try simp only [Act.put, List.setIfInBounds_toArray, List.set_cons_zero, List.set_cons_succ]
  refine wpAnyH_take (i := 11) (oi := { dst := some 9, op := Op.assign (Operand.tmp 27), type := 3, pos := "commands.go:66", after := #[{ on := 10, ground := Ground.data }, { on := 5, ground := Ground.chain }, { on := 0, ground := Ground.phase }, { on := 1, ground := Ground.phase }, { on := 2, ground := Ground.phase }, { on := 3, ground := Ground.phase }, { on := 4, ground := Ground.phase }, { on := 5, ground := Ground.phase }, { on := 6, ground := Ground.phase }, { on := 7, ground := Ground.phase }, { on := 8, ground := Ground.phase }, { on := 9, ground := Ground.phase }, { on := 10, ground := Ground.phase }], guard := none }) (v := ?v11) rfl (by kernel_rfl) (by kernel_rfl) (by kernel_rfl) (fun _ _ _ h => h) (Or.inl ⟨by rfl, ?y11⟩) (by assumption) ?r11
  case y11 => (intro x hx; (try dsimp only at hx); go_simp; try with_reducible rfl)
  try simp only [Act.put, List.setIfInBounds_toArray, List.set_cons_zero, List.set_cons_succ]
  refine wpAnyH_done (by kernel_rfl) ?_ _
  clear hHeld
  rw [HMN.out]
  have HB1e := hide (below_trans HB1.out (drew_below u1))
  have HB1d := hide (below_trans (below_alloc w (.cells #[.int .i64 fa, .int .i64 fk, .slice ma ml mc, .int .u8 ff] 67)) HB1e.out)
  have HSd := hide (r3_keep HS.out HB1e.out)
  go_wp2
  refine wp_region_held_drew (S := (fun u => u.cell? ⟨p, 0, none⟩ = some (.int .i64 (C.B : Int)) ∧ u.cell? ⟨p, 1, none⟩ = some (.int .i64 (C.P : Int)) ∧ u.cell? ⟨p, 2, none⟩ = some (.int .i64 (C.S : Int)) ∧ u.cell? ⟨w.heap.size, 2, none⟩ = some (.slice ma ml mc) ∧ u.cell? ⟨w.heap.size, 3, none⟩ = some (.int .u8 ff))) (by kernel_rfl) (HSd.out) (fun hHeld => ?_)
  refine wpAnyH_take (i := 0) (oi := { dst := some 28, op := Op.move (Operand.tmp 1), type := 32, pos := "commands.go:67", after := #[], guard := none }) (v := ?v0b) rfl (by kernel_rfl) (by kernel_rfl) (by kernel_rfl) (fun _ _ _ h => h) (Or.inl ⟨by rfl, ?y0b⟩) (by assumption) ?r0b
  case y0b => (intro x hx; (try dsimp only at hx); go_simp; try with_reducible rfl)
  try simp only [Act.put, List.setIfInBounds_toArray, List.set_cons_zero, List.set_cons_succ]
  refine wpAnyH_take (i := 1) (oi := { dst := some 29, op := Op.fieldAddr 67 (Operand.tmp 7) 2, type := 0, pos := "commands.go:67", after := #[], guard := none }) (v := ?v1b) rfl (by kernel_rfl) (by kernel_rfl) (by kernel_rfl) (fun _ _ _ h => h) (Or.inl ⟨by rfl, ?y1b⟩) (by assumption) ?r1b
  case y1b => (intro x hx; (try dsimp only at hx); go_simp; try with_reducible rfl)
  try simp only [Act.put, List.setIfInBounds_toArray, List.set_cons_zero, List.set_cons_succ]
  refine wpAnyH_take (i := 2) (oi := { dst := some 30, op := Op.load 32 (Operand.tmp 29), type := 32, pos := "commands.go:67", after := #[{ on := 1, ground := Ground.data }], guard := none }) (v := ?v2b) rfl (by kernel_rfl) (by kernel_rfl) (by kernel_rfl) (fun _ _ _ h => h) (Or.inl ⟨by rfl, ?y2b⟩) (by assumption) ?r2b
  case y2b => (intro x hx; (try dsimp only at hx); go_simp; try with_reducible rfl)
  try simp only [Act.put, List.setIfInBounds_toArray, List.set_cons_zero, List.set_cons_succ]
  refine wpAnyH_take (i := 3) (oi := { dst := some 31, op := Op.move (Operand.tmp 9), type := 3, pos := "commands.go:67", after := #[], guard := none }) (v := ?v3b) rfl (by kernel_rfl) (by kernel_rfl) (by kernel_rfl) (fun _ _ _ h => h) (Or.inl ⟨by rfl, ?y3b⟩) (by assumption) ?r3b
  case y3b => (intro x hx; (try dsimp only at hx); go_simp; try with_reducible rfl)
  try simp only [Act.put, List.setIfInBounds_toArray, List.set_cons_zero, List.set_cons_succ]
  refine wpAnyH_take (i := 4) (oi := { dst := some 32, op := Op.slice 32 (Operand.tmp 30) (some (Operand.tmp 31)) none none, type := 32, pos := "commands.go:67", after := #[{ on := 2, ground := Ground.data }, { on := 3, ground := Ground.data }], guard := none }) (v := ?v4b) rfl (by kernel_rfl) (by kernel_rfl) (by kernel_rfl) (fun _ _ _ h => h) (Or.inl ⟨by rfl, ?y4b⟩) (by assumption) ?r4b
  case y4b => (intro x hx; (try dsimp only at hx); go_simp; try with_reducible rfl)
  try simp only [Act.put, List.setIfInBounds_toArray, List.set_cons_zero, List.set_cons_succ]
  refine wpAnyH_take (i := 5) (oi := { dst := some 33, op := Op.fieldAddr 67 (Operand.tmp 7) 3, type := 0, pos := "commands.go:67", after := #[], guard := none }) (v := ?v5b) rfl (by kernel_rfl) (by kernel_rfl) (by kernel_rfl) (fun _ _ _ h => h) (Or.inl ⟨by rfl, ?y5b⟩) (by assumption) ?r5b
  case y5b => (intro x hx; (try dsimp only at hx); go_simp; try with_reducible rfl)
  try simp only [Act.put, List.setIfInBounds_toArray, List.set_cons_zero, List.set_cons_succ]
  refine wpAnyH_take (i := 6) (oi := { dst := some 34, op := Op.load 5 (Operand.tmp 33), type := 5, pos := "commands.go:67", after := #[{ on := 5, ground := Ground.data }], guard := none }) (v := ?v6b) rfl (by kernel_rfl) (by kernel_rfl) (by kernel_rfl) (fun _ _ _ h => h) (Or.inl ⟨by rfl, ?y6b⟩) (by assumption) ?r6b
  case y6b => (intro x hx; (try dsimp only at hx); go_simp; try with_reducible rfl)
  try simp only [Act.put, List.setIfInBounds_toArray, List.set_cons_zero, List.set_cons_succ]
  refine wpAnyH_ready (rs := [7]) (by kernel_rfl) (by simp) ?_
  refine AllReadyH.cons (o := { dst := some 35, op := Op.call { callee := Callee.value (Operand.func 63), args := #[Operand.tmp 28, Operand.tmp 32, Operand.tmp 34], argTypes := #[32, 32, 5] }, type := 32, pos := "commands.go:67", after := #[{ on := 0, ground := Ground.data }, { on := 4, ground := Ground.data }, { on := 6, ground := Ground.data }], guard := none }) rfl (fun K hK => ?_) AllReadyH.nil
  go_simp
  go_at_call 63
  refine (rise_any (some a) _ c zs (tailA ma mc ah) (ml - ah) (mc - ah) (fm.drop ah) ff _ HLL.out (by have := HM.out.le; omega) (HZ.out.below HB1d.out) (HMT.out.below HB1d.out)).mono ?_
  rintro e u2 ⟨gr, cr, rfl, o2, b2⟩
  have HO2 := hide o2
  have HB2 := hide (below_trans HB1e.out b2)
  have HB2d := hide (below_trans HB1d.out b2)
  have hSnew := r3_keep HS.out HB2.out
  clear o2 b2
  go_wp2_with fail
  refine hK.out _ _ hSnew (fun hHeld7 => ?_)
  clear hK K hSnew
  clear hHeld
  have hHeld := hHeld7
  clear hHeld7
  try simp only [Act.put, List.setIfInBounds_toArray, List.set_cons_zero, List.set_cons_succ]
  refine wpAnyH_take (i := 8) (oi := { dst := some 8, op := Op.assign (Operand.tmp 35), type := 32, pos := "commands.go:67", after := #[{ on := 7, ground := Ground.data }, { on := 7, ground := Ground.chain }, { on := 0, ground := Ground.phase }, { on := 1, ground := Ground.phase }, { on := 2, ground := Ground.phase }, { on := 3, ground := Ground.phase }, { on := 4, ground := Ground.phase }, { on := 5, ground := Ground.phase }, { on := 6, ground := Ground.phase }, { on := 7, ground := Ground.phase }], guard := none }) (v := ?v8b) rfl (by kernel_rfl) (by kernel_rfl) (by kernel_rfl) (fun _ _ _ h => h) (Or.inl ⟨by rfl, ?y8b⟩) (by assumption) ?r8b
  case y8b => (intro x hx; (try dsimp only at hx); go_simp; try with_reducible rfl)
  try simp only [Act.put, List.setIfInBounds_toArray, List.set_cons_zero, List.set_cons_succ]
  refine wpAnyH_done (by kernel_rfl) ?_ _
  clear hHeld
  go_wp2
  go_ret
  exact ⟨gr, cr, rfl, own_base HO2.out HB1d.out.size, HB2d.out⟩
end Go.Proofs.Ytjhphkfpcpfdnaa
