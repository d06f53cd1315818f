/-
  SEAT Ytjhphkfpcpfdnaa: empty: its region.
-/
import Derived.Test.YtjhphkfpcpfdnaaEc
namespace Go.Proofs.Ytjhphkfpcpfdnaa
open Go.RowKit Go.Conc
set_option linter.unusedVariables false

structure E0 (w U : World) (B P S : Nat) : Prop where
  bel : Below w.heap.size w U
  bx : U.heap[w.heap.size]? = some (.cells #[.int .i64 (B : Int), .int .i64 (P : Int), .int .i64 (S : Int)] 23 (0, 0))
def EA (w U : World) (gb B : Nat) : Prop := U.heap[gb]? = some (.cells (rowB B) 74 (0, 0)) ∧ w.heap.size ≤ gb
def EB (w U : World) (gm : Nat) : Prop := U.heap[gm]? = some (.map #[] 0) ∧ w.heap.size ≤ gm
def EC (w U : World) (x : Bx) (q : List Ft) : Prop := QAt U (fun k => w.heap.size ≤ k ∧ k < U.heap.size) x q
theorem E0.keep {w U V : World} {B P S : Nat} (h : E0 w U B P S) (hb : Below U.heap.size U V) : E0 w V B P S := ⟨h.bel.trans (hb.mono h.bel.size), (hb.block _ (lt_of_block h.bx)).trans h.bx⟩
theorem EA.keep {w U V : World} {gb B : Nat} (h : EA w U gb B) (hb : Below U.heap.size U V) : EA w V gb B := ⟨(hb.block _ (lt_of_block h.1)).trans h.1, h.2⟩
theorem EB.keep {w U V : World} {gm : Nat} (h : EB w U gm) (hb : Below U.heap.size U V) : EB w V gm := ⟨(hb.block _ (lt_of_block h.1)).trans h.1, h.2⟩
theorem EC.keep {w U V : World} {x : Bx} {q : List Ft} (h : EC w U x q) (hb : Below U.heap.size U V) : EC w V x q :=
  QAt.keep (T := fun _ => False) h (KeepT.of (fun k hk => hb.block k hk.2) _) (fun h => h) (fun h => h) (fun k hk => ⟨hk.1, Nat.lt_of_lt_of_le hk.2 hb.size⟩) ⟨rfl, rfl, rfl, rfl, rfl, rfl, rfl⟩ rfl
theorem EC.of {w U V : World} {x : Bx} {q : List Ft} (h : QAt V (fun k => U.heap.size ≤ k ∧ k < V.heap.size) x q) (hb : w.heap.size ≤ U.heap.size) : EC w V x q :=
  QAt.keep (T := fun _ => False) h (KeepT.of (fun k hk => rfl) _) (fun h => h) (fun h => h) (fun k hk => ⟨Nat.le_trans hb hk.1, hk.2⟩) ⟨rfl, rfl, rfl, rfl, rfl, rfl, rfl⟩ rfl
theorem E0.s {w U : World} {B P S : Nat} (h : E0 w U B P S) : U.cell? ⟨w.heap.size, 0, none⟩ = some (.int .i64 (B : Int)) ∧ U.cell? ⟨w.heap.size, 1, none⟩ = some (.int .i64 (P : Int)) ∧ U.cell? ⟨w.heap.size, 2, none⟩ = some (.int .i64 (S : Int)) := by
  have hb := h.bx
  refine ⟨?_, ?_, ?_⟩ <;> simp [World.cell?, hb]
theorem ReadsF.below {w w' : World} {a : Option Addr} {len : Nat} {fs : List Fc} (h : ReadsF w a len fs) (hb : Below w.heap.size w w') : ReadsF w' a len fs :=
  ⟨h.1, fun c hc => ⟨(h.2.1 c hc).rd.below hb, (h.2.1 c hc).le, (h.2.1 c hc).cap, (h.2.1 c hc).fill, (h.2.1 c hc).a, (h.2.1 c hc).k⟩, h.2.2.1, fun x hx i hi j hj => (hb.cell (block_lt_of_cell (h.2.2.2 x hx i hi j hj))).trans (h.2.2.2 x hx i hi j hj)⟩

theorem el_start {w U : World} {gb gm B P S : Nat} {x : Bx} {q : List Ft} (h0 : E0 w U B P S) (ha : EA w U gb B) (hb : EB w U gm) (hc : EC w U x q) :
    EL w (U.alloc (.cells #[.int .i64 (B : Int), .int .i64 (P : Int), .int .i64 (S : Int), .slice (some ⟨gb, 0, none⟩) B B, .map (some gm), .chan (some x.c), .int .i64 x.fa, .int .i64 x.fk, .slice x.ma x.ml x.mc, .int .u8 x.ff, .bool x.hn, .bool false, .int .i64 0, .slice none 0 0] 71)) U.heap.size gb gm x (boxY x B P S gb gm) B P S q 0 [] := by
  have hk := below_alloc U (.cells #[.int .i64 (B : Int), .int .i64 (P : Int), .int .i64 (S : Int), .slice (some ⟨gb, 0, none⟩) B B, .map (some gm), .chan (some x.c), .int .i64 x.fa, .int .i64 x.fk, .slice x.ma x.ml x.mc, .int .u8 x.ff, .bool x.hn, .bool false, .int .i64 0, .slice none 0 0] 71)
  exact ⟨(h0.keep hk).bel, (h0.keep hk).bx, alloc_new _ _, h0.bel.size, (ha.keep hk).1, ha.2, (hb.keep hk).1, hb.2, hc.keep hk, (fun b hb => by cases hb), rfl, rfl, List.Pairwise.nil⟩
theorem EL.s {w u : World} {p gb gm : Nat} {x : Bx} {B P S : Nat} {q : List Ft} {m : Nat} {bs : List Bc} (h : EL w u p gb gm x (boxY x B P S gb gm) B P S q m bs) : u.cell? ⟨p, 3, none⟩ = some (.slice (some ⟨gb, 0, none⟩) B B) ∧ u.cell? ⟨w.heap.size, 1, none⟩ = some (.int .i64 (P : Int)) := by
  have hb := h.bx
  exact ⟨h.box.c3, by simp [World.cell?, hb]⟩
theorem e5_keep {w u u' : World} {p gb B P : Nat} (h : u.cell? ⟨p, 3, none⟩ = some (.slice (some ⟨gb, 0, none⟩) B B) ∧ u.cell? ⟨w.heap.size, 1, none⟩ = some (.int .i64 (P : Int))) (hb : Below u.heap.size u u') : u'.cell? ⟨p, 3, none⟩ = some (.slice (some ⟨gb, 0, none⟩) B B) ∧ u'.cell? ⟨w.heap.size, 1, none⟩ = some (.int .i64 (P : Int)) :=
  ⟨(hb.cell (block_lt_of_cell h.1)).trans h.1, (hb.cell (block_lt_of_cell h.2)).trans h.2⟩
theorem row_cell {u : World} {gb B m : Nat} {bs : List Bc} (h : u.heap[gb]? = some (.cells (rowM bs (B - m)).toArray 74 (0, 0))) (hl : bs.length = m) (hm : m < B) : u.cell? ⟨gb, m * 4 + 3, none⟩ = some (.slice none 0 0) := by
  rw [show B - m = (B - (m + 1)) + 1 by omega] at h
  have h1 := rowM_get bs (B - (m + 1))
  rw [hl] at h1
  simp [World.cell?, h, h1]

set_option maxHeartbeats 4000000 in
set_option maxRecDepth 100000 in
theorem empty_any (w : World) (B P S : Nat) (hB : B ≤ 4096) (hP : P ≤ 4096) (sa : Option Addr) (n c : Nat) (fs : List Fc) (hR : ReadsF w sa n fs) (hn : n ≤ 4096) :
    Calls Try.prog 21 #[.agg #[.int .i64 (B : Int), .int .i64 (P : Int), .int .i64 (S : Int)], .slice sa n c] w fun e w' => ∃ p, e = .returned (.pointer (some ⟨p, 0, none⟩)) ∧ ChipAt w' p (fun k => w.heap.size ≤ k ∧ k < w'.heap.size) (emptyC B P S (fs.map Fc.t)) ∧ Below w.heap.size w w' := by
  have hmk := fun w => mk96 w B hB
  have hmk2 := fun w => mk104 w P hP
  have HR := hide hR
  clear hR
  have H0 : Hid (E0 w (w.alloc (.cells #[.int .i64 (B : Int), .int .i64 (P : Int), .int .i64 (S : Int)] 23)).drew B P S) := ⟨below_trans (below_alloc _ _) (drew_below _), alloc_new _ _⟩
  go_enter Try.func21, Try.ntmps21
  go_wp2
  rename_i K0 hK0
  have hrest : ∀ (gb gm : Nat) (x : Bx) (U : World), E0 w U B P S → EA w U gb B → EB w U gm → EC w U x (fs.map Fc.t) → K0 { tmps := #[.agg #[.int .i64 (B : Int), .int .i64 (P : Int), .int .i64 (S : Int)], .slice sa n c, .pointer (some ⟨w.heap.size, 0, none⟩), undef, .pointer none, .pointer (some ⟨U.heap.size, 0, none⟩), undef, .agg #[.int .i64 (B : Int), .int .i64 (P : Int), .int .i64 (S : Int)], .pointer (some ⟨w.heap.size, 0, none⟩), .int .i64 (B : Int), .slice (some ⟨gb, 0, none⟩) B B, .map (some gm), .slice sa n c, .agg #[.chan (some x.c), .int .i64 x.fa, .int .i64 x.fk, .slice x.ma x.ml x.mc, .int .u8 x.ff, .bool x.hn], .agg #[.int .i64 (B : Int), .int .i64 (P : Int), .int .i64 (S : Int), .slice (some ⟨gb, 0, none⟩) B B, .map (some gm), .chan (some x.c), .int .i64 x.fa, .int .i64 x.fk, .slice x.ma x.ml x.mc, .int .u8 x.ff, .bool x.hn, .bool false, .int .i64 0, .slice none 0 0], .pointer (some ⟨U.heap.size, 0, none⟩), undef, undef, undef, undef, undef, undef, undef, undef, undef, undef, undef, undef, undef, undef, undef, undef, undef, undef, undef, undef], defers := [] } (U.alloc (.cells #[.int .i64 (B : Int), .int .i64 (P : Int), .int .i64 (S : Int), .slice (some ⟨gb, 0, none⟩) B B, .map (some gm), .chan (some x.c), .int .i64 x.fa, .int .i64 x.fk, .slice x.ma x.ml x.mc, .int .u8 x.ff, .bool x.hn, .bool false, .int .i64 0, .slice none 0 0] 71)) := by
    intro gb gm x U h0 ha hb hc
    have HL := hide (el_start h0 ha hb hc)
    obtain ⟨p, hp⟩ : ∃ p, p = U.heap.size := ⟨_, rfl⟩
    refine hK0 _ _ ?_
    clear hK0
    obtain ⟨V, hV⟩ : ∃ V, V = U.alloc (.cells #[.int .i64 (B : Int), .int .i64 (P : Int), .int .i64 (S : Int), .slice (some ⟨gb, 0, none⟩) B B, .map (some gm), .chan (some x.c), .int .i64 x.fa, .int .i64 x.fk, .slice x.ma x.ml x.mc, .int .u8 x.ff, .bool x.hn, .bool false, .int .i64 0, .slice none 0 0] 71) := ⟨_, rfl⟩
    rw [← hV] at HL ⊢
    rw [← hp] at HL ⊢
    clear hV hp h0 ha hb hc
    obtain ⟨a0, a1⟩ := HL.out.s
    go_wp2
    clear a0 a1
    go_loopw [6, 21] (fun s6 s21 wr => ∃ (m : Nat) (bs : List Bc), m ≤ B ∧ s21 = .int .i64 m ∧ Hid (EL w wr p gb gm x (boxY x B P S gb gm) B P S (fs.map Fc.t) m bs)) (fun s6 s21 _ => B - (intOf s21).toNat)
    case atStart => exact ⟨0, [], Nat.zero_le _, rfl, HL⟩
    case round =>
      obtain ⟨m, bs, hm, rfl, HE⟩ := hrel
      by_cases hlt : m < B
      · have dm : decide ((m : Int) < (B : Int)) = true := decide_eq_true (by omega)
        have m1 : (m : Int) < (B : Int) := by omega
        go_wp2
        refine wp_region_held_drew (S := (fun u => u.cell? ⟨p, 3, none⟩ = some (.slice (some ⟨gb, 0, none⟩) B B) ∧ u.cell? ⟨w.heap.size, 1, none⟩ = some (.int .i64 (P : Int)))) (by kernel_rfl) (HE.out.s) (fun hHeld => ?_)
        refine wpAnyH_take (i := 0) (oi := { dst := some 24, op := Op.move (Operand.tmp 5), type := 27, pos := "chip.go:86", after := #[], guard := none }) (v := ?v0e) rfl (by kernel_rfl) (by kernel_rfl) (by kernel_rfl) (fun _ _ _ h => h) (Or.inl ⟨by rfl, ?y0e⟩) (by assumption) ?r0e
        case y0e => (intro x hx; (try dsimp only at hx); go_simp; try with_reducible rfl)
        try simp only [Act.put, List.setIfInBounds_toArray, List.set_cons_zero, List.set_cons_succ]
        refine wpAnyH_take (i := 1) (oi := { dst := some 25, op := Op.nilCheck (Operand.tmp 24), type := 0, pos := "chip.go:86", after := #[{ on := 0, ground := Ground.data }], guard := none }) (v := ?v1e) rfl (by kernel_rfl) (by kernel_rfl) (by kernel_rfl) (fun _ _ _ h => h) (Or.inl ⟨by rfl, ?y1e⟩) (by assumption) ?r1e
        case y1e => (intro x hx; (try dsimp only at hx); go_simp; try with_reducible rfl)
        try simp only [Act.put, List.setIfInBounds_toArray, List.set_cons_zero, List.set_cons_succ]
        refine wpAnyH_take (i := 2) (oi := { dst := some 26, op := Op.fieldAddr 71 (Operand.tmp 25) 1, type := 0, pos := "chip.go:86", after := #[{ on := 1, ground := Ground.data }], guard := none }) (v := ?v2e) rfl (by kernel_rfl) (by kernel_rfl) (by kernel_rfl) (fun _ _ _ h => h) (Or.inl ⟨by rfl, ?y2e⟩) (by assumption) ?r2e
        case y2e => (intro x hx; (try dsimp only at hx); go_simp; try with_reducible rfl)
        try simp only [Act.put, List.setIfInBounds_toArray, List.set_cons_zero, List.set_cons_succ]
        refine wpAnyH_take (i := 3) (oi := { dst := some 27, op := Op.load 63 (Operand.tmp 26), type := 63, pos := "chip.go:86", after := #[{ on := 2, ground := Ground.data }], guard := none }) (v := ?v3e) rfl (by kernel_rfl) (by kernel_rfl) (by kernel_rfl) (fun _ _ _ h => h) (Or.inl ⟨by rfl, ?y3e⟩) (by assumption) ?r3e
        case y3e => (intro x hx; (try dsimp only at hx); go_simp; try with_reducible rfl)
        try simp only [Act.put, List.setIfInBounds_toArray, List.set_cons_zero, List.set_cons_succ]
        refine wpAnyH_take (i := 4) (oi := { dst := some 28, op := Op.move (Operand.tmp 6), type := 3, pos := "chip.go:86", after := #[], guard := none }) (v := ?v4e) rfl (by kernel_rfl) (by kernel_rfl) (by kernel_rfl) (fun _ _ _ h => h) (Or.inl ⟨by rfl, ?y4e⟩) (by assumption) ?r4e
        case y4e => (intro x hx; (try dsimp only at hx); go_simp; try with_reducible rfl)
        try simp only [Act.put, List.setIfInBounds_toArray, List.set_cons_zero, List.set_cons_succ]
        refine wpAnyH_take (i := 5) (oi := { dst := some 29, op := Op.fieldAddr 23 (Operand.tmp 2) 1, type := 0, pos := "chip.go:86", after := #[], guard := none }) (v := ?v5e) rfl (by kernel_rfl) (by kernel_rfl) (by kernel_rfl) (fun _ _ _ h => h) (Or.inl ⟨by rfl, ?y5e⟩) (by assumption) ?r5e
        case y5e => (intro x hx; (try dsimp only at hx); go_simp; try with_reducible rfl)
        try simp only [Act.put, List.setIfInBounds_toArray, List.set_cons_zero, List.set_cons_succ]
        refine wpAnyH_take (i := 6) (oi := { dst := some 30, op := Op.load 3 (Operand.tmp 29), type := 3, pos := "chip.go:86", after := #[{ on := 5, ground := Ground.data }], guard := none }) (v := ?v6e) rfl (by kernel_rfl) (by kernel_rfl) (by kernel_rfl) (fun _ _ _ h => h) (Or.inl ⟨by rfl, ?y6e⟩) (by assumption) ?r6e
        case y6e => (intro x hx; (try dsimp only at hx); go_simp; try with_reducible rfl)
        try simp only [Act.put, List.setIfInBounds_toArray, List.set_cons_zero, List.set_cons_succ]
        refine wpAnyH_ready (rs := [7]) (by kernel_rfl) (by simp) ?_
        refine AllReadyH.cons (o := { dst := some 31, op := Op.makeSlice 72 (Operand.tmp 30) (Operand.tmp 30), type := 72, pos := "chip.go:86", after := #[{ on := 6, ground := Ground.data }, { on := 6, ground := Ground.data }], guard := none }) rfl (fun K hK => ?_) AllReadyH.nil
        go_simp
        go_wp2_with fail
        change K _ (wr.drew.alloc (.cells (rowP P) 117))
        have hb7 : Below wr.heap.size wr (wr.drew.alloc (.cells (rowP P) 117)) := below_trans (drew_below _) (below_alloc _ _)
        have hSnew := e5_keep HE.out.s hb7
        have HST := hide (HE.out.step hlt)
        have HR7 := hide ((hb7.block _ (lt_of_block HE.out.row)).trans HE.out.row)
        clear hb7
        refine hK.out _ _ hSnew (fun hHeld7 => ?_)
        clear hK K hSnew
        clear hHeld
        have hHeld := hHeld7
        clear hHeld7
        try simp only [Act.put, List.setIfInBounds_toArray, List.set_cons_zero, List.set_cons_succ]
        obtain ⟨V7, hV7⟩ : ∃ V, V = wr.drew.alloc (.cells (rowP P) 117) := ⟨_, rfl⟩
        rw [← hV7] at hHeld HST HR7 ⊢
        clear hV7
        have z3 := row_cell HR7.out HE.out.len hlt
        have fzr := fun j => frozen_of_row V7 gb j _ 74 HR7.out
        refine wpAnyH_take (i := 8) (oi := { dst := some 32, op := Op.indexAddr 63 (Operand.tmp 27) (Operand.tmp 28), type := 0, pos := "chip.go:86", after := #[{ on := 3, ground := Ground.data }, { on := 4, ground := Ground.data }, { on := 0, ground := Ground.phase }, { on := 1, ground := Ground.phase }, { on := 2, ground := Ground.phase }, { on := 3, ground := Ground.phase }, { on := 4, ground := Ground.phase }, { on := 5, ground := Ground.phase }, { on := 6, ground := Ground.phase }, { on := 7, ground := Ground.phase }], guard := none }) (v := ?v8e) rfl (by kernel_rfl) (by kernel_rfl) (by kernel_rfl) (fun _ _ _ h => h) (Or.inl ⟨by rfl, ?y8e⟩) (by assumption) ?r8e
        case y8e => (intro x hx; (try dsimp only at hx); go_simp; try with_reducible rfl)
        try simp only [Act.put, List.setIfInBounds_toArray, List.set_cons_zero, List.set_cons_succ]
        refine wpAnyH_take (i := 9) (oi := { dst := some 33, op := Op.fieldAddr 74 (Operand.tmp 32) 3, type := 0, pos := "chip.go:86", after := #[{ on := 8, ground := Ground.data }, { on := 0, ground := Ground.phase }, { on := 1, ground := Ground.phase }, { on := 2, ground := Ground.phase }, { on := 3, ground := Ground.phase }, { on := 4, ground := Ground.phase }, { on := 5, ground := Ground.phase }, { on := 6, ground := Ground.phase }, { on := 7, ground := Ground.phase }], guard := none }) (v := ?v9e) rfl (by kernel_rfl) (by kernel_rfl) (by kernel_rfl) (fun _ _ _ h => h) (Or.inl ⟨by rfl, ?y9e⟩) (by assumption) ?r9e
        case y9e => (intro x hx; (try dsimp only at hx); go_simp; try with_reducible rfl)
        try simp only [Act.put, List.setIfInBounds_toArray, List.set_cons_zero, List.set_cons_succ]
        refine wpAnyH_ready (rs := [10]) (by kernel_rfl) (by simp) ?_
        refine AllReadyH.cons (o := { dst := none, op := Op.store 72 (Operand.tmp 33) (Operand.tmp 31), type := 0, pos := "chip.go:86", after := #[{ on := 9, ground := Ground.data }, { on := 7, ground := Ground.data }, { on := 0, ground := Ground.phase }, { on := 1, ground := Ground.phase }, { on := 2, ground := Ground.phase }, { on := 3, ground := Ground.phase }, { on := 4, ground := Ground.phase }, { on := 5, ground := Ground.phase }, { on := 6, ground := Ground.phase }, { on := 7, ground := Ground.phase }], guard := none }) rfl (fun K hK => ?_) AllReadyH.nil
        go_simp
        go_wp2_with fail
        have hSnew := HST.out.s
        refine hK.out _ _ hSnew (fun hHeld10 => ?_)
        clear hK K hSnew
        clear hHeld
        have hHeld := hHeld10
        clear hHeld10
        try simp only [Act.put, List.setIfInBounds_toArray, List.set_cons_zero, List.set_cons_succ]
        refine wpAnyH_done (by kernel_rfl) ?_ _
        clear hHeld
        go_wp2
        exact ⟨⟨m + 1, _, hlt, by simp, HST⟩, by simp [intOf]; omega⟩
      · have dm : decide ((m : Int) < (B : Int)) = false := decide_eq_false (by omega)
        go_wp2
        go_ret
        have em : m = B := by omega
        subst em
        exact ⟨p, rfl, ⟨_, _, _, HE.out.chip⟩, HE.out.e0⟩
  clear hK0
  refine wp_region_held_drew (S := (fun u => u.cell? ⟨w.heap.size, 0, none⟩ = some (.int .i64 (B : Int)) ∧ u.cell? ⟨w.heap.size, 1, none⟩ = some (.int .i64 (P : Int)) ∧ u.cell? ⟨w.heap.size, 2, none⟩ = some (.int .i64 (S : Int)))) (by kernel_rfl) (H0.out.s) (fun hHeld => ?_)
  refine wpAnyH_take (i := 0) (oi := { dst := some 7, op := Op.load 23 (Operand.tmp 2), type := 23, pos := "chip.go:79", after := #[], guard := none }) (v := ?v0) rfl (by kernel_rfl) (by kernel_rfl) (by kernel_rfl) (fun _ _ _ h => h) (Or.inl ⟨by rfl, ?y0⟩) (by assumption) ?r0
  case y0 => (intro x hx; (try dsimp only at hx); go_simp; try with_reducible rfl)
  try simp only [Act.put, List.setIfInBounds_toArray, List.set_cons_zero, List.set_cons_succ]
  refine wpAnyH_take (i := 1) (oi := { dst := some 8, op := Op.fieldAddr 23 (Operand.tmp 2) 0, type := 0, pos := "chip.go:79", after := #[], guard := none }) (v := ?v1) rfl (by kernel_rfl) (by kernel_rfl) (by kernel_rfl) (fun _ _ _ h => h) (Or.inl ⟨by rfl, ?y1⟩) (by assumption) ?r1
  case y1 => (intro x hx; (try dsimp only at hx); go_simp; try with_reducible rfl)
  try simp only [Act.put, List.setIfInBounds_toArray, List.set_cons_zero, List.set_cons_succ]
  refine wpAnyH_take (i := 2) (oi := { dst := some 9, op := Op.load 3 (Operand.tmp 8), type := 3, pos := "chip.go:79", after := #[{ on := 1, ground := Ground.data }], guard := none }) (v := ?v2) rfl (by kernel_rfl) (by kernel_rfl) (by kernel_rfl) (fun _ _ _ h => h) (Or.inl ⟨by rfl, ?y2⟩) (by assumption) ?r2
  case y2 => (intro x hx; (try dsimp only at hx); go_simp; try with_reducible rfl)
  try simp only [Act.put, List.setIfInBounds_toArray, List.set_cons_zero, List.set_cons_succ]
  refine wpAnyH_take (i := 5) (oi := { dst := some 12, op := Op.move (Operand.tmp 1), type := 25, pos := "chip.go:79", after := #[], guard := none }) (v := ?v5) rfl (by kernel_rfl) (by kernel_rfl) (by kernel_rfl) (fun _ _ _ h => h) (Or.inl ⟨by rfl, ?y5⟩) (by assumption) ?r5
  case y5 => (intro x hx; (try dsimp only at hx); go_simp; try with_reducible rfl)
  try simp only [Act.put, List.setIfInBounds_toArray, List.set_cons_zero, List.set_cons_succ]
  obtain ⟨U0, hU0⟩ : ∃ u, u = (w.alloc (.cells #[.int .i64 (B : Int), .int .i64 (P : Int), .int .i64 (S : Int)] 23)).drew := ⟨_, rfl⟩
  rw [← hU0] at hHeld H0 ⊢
  clear hU0
  refine wpAnyH_ready (rs := [3, 4, 6]) (by kernel_rfl) (by simp) ?_
  refine AllReadyH.cons (o := { dst := some 10, op := Op.makeSlice 63 (Operand.tmp 9) (Operand.tmp 9), type := 63, pos := "chip.go:79", after := #[{ on := 2, ground := Ground.data }, { on := 2, ground := Ground.data }], guard := none }) rfl (fun K hK => ?_) (AllReadyH.cons (o := { dst := some 11, op := Op.makeMap 64 none, type := 64, pos := "chip.go:79", after := #[], guard := none }) rfl (fun K hK => ?_) (AllReadyH.cons (o := { dst := some 13, op := Op.call { callee := Callee.value (Operand.func 48), args := #[Operand.tmp 12], argTypes := #[25] }, type := 69, pos := "chip.go:83", after := #[{ on := 5, ground := Ground.data }], guard := none }) rfl (fun K hK => ?_) AllReadyH.nil))
  · go_simp
    go_wp2_with fail
    change K _ ((U0).alloc (.cells (rowB B) 74))
    have hbk : Below (U0).heap.size (U0) ((U0).alloc (.cells (rowB B) 74)) := below_alloc _ _
    have HAk : Hid (EA w ((U0).alloc (.cells (rowB B) 74)) (U0).heap.size B) := ⟨alloc_new _ _, H0.out.bel.size⟩
    have H0k := hide (H0.out.keep hbk)
    have hSnew := H0k.out.s
    clear hbk
    clear H0
    refine hK.out _ _ hSnew (fun hHeld3 => ?_)
    clear hK K hSnew hHeld
    have hHeld := hHeld3
    clear hHeld3
    try simp only [Act.put, List.setIfInBounds_toArray, List.set_cons_zero, List.set_cons_succ]
    obtain ⟨gU1, hgU1⟩ : ∃ g, g = (U0).heap.size := ⟨_, rfl⟩
    obtain ⟨U1, hU1⟩ : ∃ u, u = ((U0).alloc (.cells (rowB B) 74)) := ⟨_, rfl⟩
    rw [← hgU1] at HAk ⊢
    rw [← hU1] at hHeld H0k HAk ⊢
    clear hU1 hgU1
    have H0 := H0k
    have HA := HAk
    clear H0k HAk
    refine wpAnyH_ready (rs := [4, 6]) (by kernel_rfl) (by simp) ?_
    refine AllReadyH.cons (o := { dst := some 11, op := Op.makeMap 64 none, type := 64, pos := "chip.go:79", after := #[], guard := none }) rfl (fun K hK => ?_) (AllReadyH.cons (o := { dst := some 13, op := Op.call { callee := Callee.value (Operand.func 48), args := #[Operand.tmp 12], argTypes := #[25] }, type := 69, pos := "chip.go:83", after := #[{ on := 5, ground := Ground.data }], guard := none }) rfl (fun K hK => ?_) AllReadyH.nil)
    · go_simp
      go_wp2_with fail
      change K _ ((U1).alloc (.map #[] 0))
      have hbk : Below (U1).heap.size (U1) ((U1).alloc (.map #[] 0)) := below_alloc _ _
      have HBk : Hid (EB w ((U1).alloc (.map #[] 0)) (U1).heap.size) := ⟨alloc_new _ _, H0.out.bel.size⟩
      have H0k := hide (H0.out.keep hbk)
      have HAk := hide (HA.out.keep hbk)
      have hSnew := H0k.out.s
      clear hbk
      clear H0 HA
      refine hK.out _ _ hSnew (fun hHeld4 => ?_)
      clear hK K hSnew hHeld
      have hHeld := hHeld4
      clear hHeld4
      try simp only [Act.put, List.setIfInBounds_toArray, List.set_cons_zero, List.set_cons_succ]
      obtain ⟨gU2, hgU2⟩ : ∃ g, g = (U1).heap.size := ⟨_, rfl⟩
      obtain ⟨U2, hU2⟩ : ∃ u, u = ((U1).alloc (.map #[] 0)) := ⟨_, rfl⟩
      rw [← hgU2] at HBk ⊢
      rw [← hU2] at hHeld H0k HAk HBk ⊢
      clear hU2 hgU2
      have H0 := H0k
      have HA := HAk
      have HB := HBk
      clear H0k HAk HBk
      refine wpAnyH_ready (rs := [6]) (by kernel_rfl) (by simp) ?_
      refine AllReadyH.cons (o := { dst := some 13, op := Op.call { callee := Callee.value (Operand.func 48), args := #[Operand.tmp 12], argTypes := #[25] }, type := 69, pos := "chip.go:83", after := #[{ on := 5, ground := Ground.data }], guard := none }) rfl (fun K hK => ?_) AllReadyH.nil
      go_simp
      go_at_call 48
      refine (waiting_any _ sa n c fs (HR.out.below H0.out.bel) hn).mono ?_
      rintro e U3 ⟨x, rfl, hq, hbk⟩
      go_wp2_with fail
      have HCk := hide (EC.of (w := w) hq H0.out.bel.size)
      clear hq
      have H0k := hide (H0.out.keep hbk)
      have HAk := hide (HA.out.keep hbk)
      have HBk := hide (HB.out.keep hbk)
      have hSnew := H0k.out.s
      clear hbk
      clear H0 HA HB
      refine hK.out _ _ hSnew (fun hHeld6 => ?_)
      clear hK K hSnew hHeld
      have hHeld := hHeld6
      clear hHeld6
      try simp only [Act.put, List.setIfInBounds_toArray, List.set_cons_zero, List.set_cons_succ]
      have H0 := H0k
      have HA := HAk
      have HB := HBk
      have HC := HCk
      clear H0k HAk HBk HCk
      refine wpAnyH_take (i := 7) (oi := { dst := some 14, op := Op.build 71 #[(0, Operand.tmp 7), (1, Operand.tmp 10), (2, Operand.tmp 11), (3, Operand.tmp 13)], type := 71, pos := "chip.go:79", after := #[{ on := 0, ground := Ground.data }, { on := 3, ground := Ground.data }, { on := 4, ground := Ground.data }, { on := 6, ground := Ground.data }], guard := none }) (v := ?v7p346) rfl (by kernel_rfl) (by kernel_rfl) (by kernel_rfl) (fun _ _ _ h => h) (Or.inl ⟨by rfl, ?y7p346⟩) (by assumption) ?r7p346
      case y7p346 => (intro x hx; (try dsimp only at hx); go_simp; try with_reducible rfl)
      try simp only [Act.put, List.setIfInBounds_toArray, List.set_cons_zero, List.set_cons_succ]
      refine wpAnyH_ready (rs := [8]) (by kernel_rfl) (by simp) ?_
      refine AllReadyH.cons (o := { dst := some 15, op := Op.box 71 (Operand.tmp 14), type := 27, pos := "chip.go:79", after := #[{ on := 7, ground := Ground.data }], guard := none }) rfl (fun K hK => ?_) AllReadyH.nil
      go_simp
      go_wp2_with fail
      have hSnew := (H0.out.keep (below_alloc U3 (.cells #[.int .i64 (B : Int), .int .i64 (P : Int), .int .i64 (S : Int), .slice (some ⟨gU1, 0, none⟩) B B, .map (some gU2), .chan (some x.c), .int .i64 x.fa, .int .i64 x.fk, .slice x.ma x.ml x.mc, .int .u8 x.ff, .bool x.hn, .bool false, .int .i64 0, .slice none 0 0] 71))).s
      refine hK.out _ _ hSnew (fun hHeld8 => ?_)
      clear hK K hSnew hHeld
      have hHeld := hHeld8
      clear hHeld8
      try simp only [Act.put, List.setIfInBounds_toArray, List.set_cons_zero, List.set_cons_succ]
      refine wpAnyH_take (i := 9) (oi := { dst := some 5, op := Op.assign (Operand.tmp 15), type := 27, pos := "chip.go:79", after := #[{ on := 8, ground := Ground.data }, { on := 6, ground := Ground.chain }, { on := 0, ground := Ground.phase }, { on := 1, ground := Ground.phase }, { on := 2, ground := Ground.phase }, { on := 3, ground := Ground.phase }, { on := 4, ground := Ground.phase }, { on := 5, ground := Ground.phase }, { on := 6, ground := Ground.phase }, { on := 7, ground := Ground.phase }, { on := 8, ground := Ground.phase }], guard := none }) (v := ?v9q346) rfl (by kernel_rfl) (by kernel_rfl) (by kernel_rfl) (fun _ _ _ h => h) (Or.inl ⟨by rfl, ?y9q346⟩) (by assumption) ?r9q346
      case y9q346 => (intro x hx; (try dsimp only at hx); go_simp; try with_reducible rfl)
      try simp only [Act.put, List.setIfInBounds_toArray, List.set_cons_zero, List.set_cons_succ]
      refine wpAnyH_done (by kernel_rfl) ?_ _
      exact hrest gU1 gU2 x U3 H0.out HA.out HB.out HC.out
    · go_simp
      go_at_call 48
      refine (waiting_any _ sa n c fs (HR.out.below H0.out.bel) hn).mono ?_
      rintro e U2 ⟨x, rfl, hq, hbk⟩
      go_wp2_with fail
      have HCk := hide (EC.of (w := w) hq H0.out.bel.size)
      clear hq
      have H0k := hide (H0.out.keep hbk)
      have HAk := hide (HA.out.keep hbk)
      have hSnew := H0k.out.s
      clear hbk
      clear H0 HA
      refine hK.out _ _ hSnew (fun hHeld6 => ?_)
      clear hK K hSnew hHeld
      have hHeld := hHeld6
      clear hHeld6
      try simp only [Act.put, List.setIfInBounds_toArray, List.set_cons_zero, List.set_cons_succ]
      have H0 := H0k
      have HA := HAk
      have HC := HCk
      clear H0k HAk HCk
      refine wpAnyH_ready (rs := [4]) (by kernel_rfl) (by simp) ?_
      refine AllReadyH.cons (o := { dst := some 11, op := Op.makeMap 64 none, type := 64, pos := "chip.go:79", after := #[], guard := none }) rfl (fun K hK => ?_) AllReadyH.nil
      go_simp
      go_wp2_with fail
      change K _ ((U2).alloc (.map #[] 0))
      have hbk : Below (U2).heap.size (U2) ((U2).alloc (.map #[] 0)) := below_alloc _ _
      have HBk : Hid (EB w ((U2).alloc (.map #[] 0)) (U2).heap.size) := ⟨alloc_new _ _, H0.out.bel.size⟩
      have H0k := hide (H0.out.keep hbk)
      have HAk := hide (HA.out.keep hbk)
      have HCk := hide (HC.out.keep hbk)
      have hSnew := H0k.out.s
      clear hbk
      clear H0 HA HC
      refine hK.out _ _ hSnew (fun hHeld4 => ?_)
      clear hK K hSnew hHeld
      have hHeld := hHeld4
      clear hHeld4
      try simp only [Act.put, List.setIfInBounds_toArray, List.set_cons_zero, List.set_cons_succ]
      obtain ⟨gU3, hgU3⟩ : ∃ g, g = (U2).heap.size := ⟨_, rfl⟩
      obtain ⟨U3, hU3⟩ : ∃ u, u = ((U2).alloc (.map #[] 0)) := ⟨_, rfl⟩
      rw [← hgU3] at HBk ⊢
      rw [← hU3] at hHeld H0k HAk HCk HBk ⊢
      clear hU3 hgU3
      have H0 := H0k
      have HA := HAk
      have HC := HCk
      have HB := HBk
      clear H0k HAk HCk HBk
      refine wpAnyH_take (i := 7) (oi := { dst := some 14, op := Op.build 71 #[(0, Operand.tmp 7), (1, Operand.tmp 10), (2, Operand.tmp 11), (3, Operand.tmp 13)], type := 71, pos := "chip.go:79", after := #[{ on := 0, ground := Ground.data }, { on := 3, ground := Ground.data }, { on := 4, ground := Ground.data }, { on := 6, ground := Ground.data }], guard := none }) (v := ?v7p364) rfl (by kernel_rfl) (by kernel_rfl) (by kernel_rfl) (fun _ _ _ h => h) (Or.inl ⟨by rfl, ?y7p364⟩) (by assumption) ?r7p364
      case y7p364 => (intro x hx; (try dsimp only at hx); go_simp; try with_reducible rfl)
      try simp only [Act.put, List.setIfInBounds_toArray, List.set_cons_zero, List.set_cons_succ]
      refine wpAnyH_ready (rs := [8]) (by kernel_rfl) (by simp) ?_
      refine AllReadyH.cons (o := { dst := some 15, op := Op.box 71 (Operand.tmp 14), type := 27, pos := "chip.go:79", after := #[{ on := 7, ground := Ground.data }], guard := none }) rfl (fun K hK => ?_) AllReadyH.nil
      go_simp
      go_wp2_with fail
      have hSnew := (H0.out.keep (below_alloc U3 (.cells #[.int .i64 (B : Int), .int .i64 (P : Int), .int .i64 (S : Int), .slice (some ⟨gU1, 0, none⟩) B B, .map (some gU3), .chan (some x.c), .int .i64 x.fa, .int .i64 x.fk, .slice x.ma x.ml x.mc, .int .u8 x.ff, .bool x.hn, .bool false, .int .i64 0, .slice none 0 0] 71))).s
      refine hK.out _ _ hSnew (fun hHeld8 => ?_)
      clear hK K hSnew hHeld
      have hHeld := hHeld8
      clear hHeld8
      try simp only [Act.put, List.setIfInBounds_toArray, List.set_cons_zero, List.set_cons_succ]
      refine wpAnyH_take (i := 9) (oi := { dst := some 5, op := Op.assign (Operand.tmp 15), type := 27, pos := "chip.go:79", after := #[{ on := 8, ground := Ground.data }, { on := 6, ground := Ground.chain }, { on := 0, ground := Ground.phase }, { on := 1, ground := Ground.phase }, { on := 2, ground := Ground.phase }, { on := 3, ground := Ground.phase }, { on := 4, ground := Ground.phase }, { on := 5, ground := Ground.phase }, { on := 6, ground := Ground.phase }, { on := 7, ground := Ground.phase }, { on := 8, ground := Ground.phase }], guard := none }) (v := ?v9q364) rfl (by kernel_rfl) (by kernel_rfl) (by kernel_rfl) (fun _ _ _ h => h) (Or.inl ⟨by rfl, ?y9q364⟩) (by assumption) ?r9q364
      case y9q364 => (intro x hx; (try dsimp only at hx); go_simp; try with_reducible rfl)
      try simp only [Act.put, List.setIfInBounds_toArray, List.set_cons_zero, List.set_cons_succ]
      refine wpAnyH_done (by kernel_rfl) ?_ _
      exact hrest gU1 gU3 x U3 H0.out HA.out HB.out HC.out
  · go_simp
    go_wp2_with fail
    change K _ ((U0).alloc (.map #[] 0))
    have hbk : Below (U0).heap.size (U0) ((U0).alloc (.map #[] 0)) := below_alloc _ _
    have HBk : Hid (EB w ((U0).alloc (.map #[] 0)) (U0).heap.size) := ⟨alloc_new _ _, H0.out.bel.size⟩
    have H0k := hide (H0.out.keep hbk)
    have hSnew := H0k.out.s
    clear hbk
    clear H0
    refine hK.out _ _ hSnew (fun hHeld4 => ?_)
    clear hK K hSnew hHeld
    have hHeld := hHeld4
    clear hHeld4
    try simp only [Act.put, List.setIfInBounds_toArray, List.set_cons_zero, List.set_cons_succ]
    obtain ⟨gU1, hgU1⟩ : ∃ g, g = (U0).heap.size := ⟨_, rfl⟩
    obtain ⟨U1, hU1⟩ : ∃ u, u = ((U0).alloc (.map #[] 0)) := ⟨_, rfl⟩
    rw [← hgU1] at HBk ⊢
    rw [← hU1] at hHeld H0k HBk ⊢
    clear hU1 hgU1
    have H0 := H0k
    have HB := HBk
    clear H0k HBk
    refine wpAnyH_ready (rs := [3, 6]) (by kernel_rfl) (by simp) ?_
    refine AllReadyH.cons (o := { dst := some 10, op := Op.makeSlice 63 (Operand.tmp 9) (Operand.tmp 9), type := 63, pos := "chip.go:79", after := #[{ on := 2, ground := Ground.data }, { on := 2, ground := Ground.data }], guard := none }) rfl (fun K hK => ?_) (AllReadyH.cons (o := { dst := some 13, op := Op.call { callee := Callee.value (Operand.func 48), args := #[Operand.tmp 12], argTypes := #[25] }, type := 69, pos := "chip.go:83", after := #[{ on := 5, ground := Ground.data }], guard := none }) rfl (fun K hK => ?_) AllReadyH.nil)
    · go_simp
      go_wp2_with fail
      change K _ ((U1).alloc (.cells (rowB B) 74))
      have hbk : Below (U1).heap.size (U1) ((U1).alloc (.cells (rowB B) 74)) := below_alloc _ _
      have HAk : Hid (EA w ((U1).alloc (.cells (rowB B) 74)) (U1).heap.size B) := ⟨alloc_new _ _, H0.out.bel.size⟩
      have H0k := hide (H0.out.keep hbk)
      have HBk := hide (HB.out.keep hbk)
      have hSnew := H0k.out.s
      clear hbk
      clear H0 HB
      refine hK.out _ _ hSnew (fun hHeld3 => ?_)
      clear hK K hSnew hHeld
      have hHeld := hHeld3
      clear hHeld3
      try simp only [Act.put, List.setIfInBounds_toArray, List.set_cons_zero, List.set_cons_succ]
      obtain ⟨gU2, hgU2⟩ : ∃ g, g = (U1).heap.size := ⟨_, rfl⟩
      obtain ⟨U2, hU2⟩ : ∃ u, u = ((U1).alloc (.cells (rowB B) 74)) := ⟨_, rfl⟩
      rw [← hgU2] at HAk ⊢
      rw [← hU2] at hHeld H0k HBk HAk ⊢
      clear hU2 hgU2
      have H0 := H0k
      have HB := HBk
      have HA := HAk
      clear H0k HBk HAk
      refine wpAnyH_ready (rs := [6]) (by kernel_rfl) (by simp) ?_
      refine AllReadyH.cons (o := { dst := some 13, op := Op.call { callee := Callee.value (Operand.func 48), args := #[Operand.tmp 12], argTypes := #[25] }, type := 69, pos := "chip.go:83", after := #[{ on := 5, ground := Ground.data }], guard := none }) rfl (fun K hK => ?_) AllReadyH.nil
      go_simp
      go_at_call 48
      refine (waiting_any _ sa n c fs (HR.out.below H0.out.bel) hn).mono ?_
      rintro e U3 ⟨x, rfl, hq, hbk⟩
      go_wp2_with fail
      have HCk := hide (EC.of (w := w) hq H0.out.bel.size)
      clear hq
      have H0k := hide (H0.out.keep hbk)
      have HBk := hide (HB.out.keep hbk)
      have HAk := hide (HA.out.keep hbk)
      have hSnew := H0k.out.s
      clear hbk
      clear H0 HB HA
      refine hK.out _ _ hSnew (fun hHeld6 => ?_)
      clear hK K hSnew hHeld
      have hHeld := hHeld6
      clear hHeld6
      try simp only [Act.put, List.setIfInBounds_toArray, List.set_cons_zero, List.set_cons_succ]
      have H0 := H0k
      have HB := HBk
      have HA := HAk
      have HC := HCk
      clear H0k HBk HAk HCk
      refine wpAnyH_take (i := 7) (oi := { dst := some 14, op := Op.build 71 #[(0, Operand.tmp 7), (1, Operand.tmp 10), (2, Operand.tmp 11), (3, Operand.tmp 13)], type := 71, pos := "chip.go:79", after := #[{ on := 0, ground := Ground.data }, { on := 3, ground := Ground.data }, { on := 4, ground := Ground.data }, { on := 6, ground := Ground.data }], guard := none }) (v := ?v7p436) rfl (by kernel_rfl) (by kernel_rfl) (by kernel_rfl) (fun _ _ _ h => h) (Or.inl ⟨by rfl, ?y7p436⟩) (by assumption) ?r7p436
      case y7p436 => (intro x hx; (try dsimp only at hx); go_simp; try with_reducible rfl)
      try simp only [Act.put, List.setIfInBounds_toArray, List.set_cons_zero, List.set_cons_succ]
      refine wpAnyH_ready (rs := [8]) (by kernel_rfl) (by simp) ?_
      refine AllReadyH.cons (o := { dst := some 15, op := Op.box 71 (Operand.tmp 14), type := 27, pos := "chip.go:79", after := #[{ on := 7, ground := Ground.data }], guard := none }) rfl (fun K hK => ?_) AllReadyH.nil
      go_simp
      go_wp2_with fail
      have hSnew := (H0.out.keep (below_alloc U3 (.cells #[.int .i64 (B : Int), .int .i64 (P : Int), .int .i64 (S : Int), .slice (some ⟨gU2, 0, none⟩) B B, .map (some gU1), .chan (some x.c), .int .i64 x.fa, .int .i64 x.fk, .slice x.ma x.ml x.mc, .int .u8 x.ff, .bool x.hn, .bool false, .int .i64 0, .slice none 0 0] 71))).s
      refine hK.out _ _ hSnew (fun hHeld8 => ?_)
      clear hK K hSnew hHeld
      have hHeld := hHeld8
      clear hHeld8
      try simp only [Act.put, List.setIfInBounds_toArray, List.set_cons_zero, List.set_cons_succ]
      refine wpAnyH_take (i := 9) (oi := { dst := some 5, op := Op.assign (Operand.tmp 15), type := 27, pos := "chip.go:79", after := #[{ on := 8, ground := Ground.data }, { on := 6, ground := Ground.chain }, { on := 0, ground := Ground.phase }, { on := 1, ground := Ground.phase }, { on := 2, ground := Ground.phase }, { on := 3, ground := Ground.phase }, { on := 4, ground := Ground.phase }, { on := 5, ground := Ground.phase }, { on := 6, ground := Ground.phase }, { on := 7, ground := Ground.phase }, { on := 8, ground := Ground.phase }], guard := none }) (v := ?v9q436) rfl (by kernel_rfl) (by kernel_rfl) (by kernel_rfl) (fun _ _ _ h => h) (Or.inl ⟨by rfl, ?y9q436⟩) (by assumption) ?r9q436
      case y9q436 => (intro x hx; (try dsimp only at hx); go_simp; try with_reducible rfl)
      try simp only [Act.put, List.setIfInBounds_toArray, List.set_cons_zero, List.set_cons_succ]
      refine wpAnyH_done (by kernel_rfl) ?_ _
      exact hrest gU2 gU1 x U3 H0.out HA.out HB.out HC.out
    · go_simp
      go_at_call 48
      refine (waiting_any _ sa n c fs (HR.out.below H0.out.bel) hn).mono ?_
      rintro e U2 ⟨x, rfl, hq, hbk⟩
      go_wp2_with fail
      have HCk := hide (EC.of (w := w) hq H0.out.bel.size)
      clear hq
      have H0k := hide (H0.out.keep hbk)
      have HBk := hide (HB.out.keep hbk)
      have hSnew := H0k.out.s
      clear hbk
      clear H0 HB
      refine hK.out _ _ hSnew (fun hHeld6 => ?_)
      clear hK K hSnew hHeld
      have hHeld := hHeld6
      clear hHeld6
      try simp only [Act.put, List.setIfInBounds_toArray, List.set_cons_zero, List.set_cons_succ]
      have H0 := H0k
      have HB := HBk
      have HC := HCk
      clear H0k HBk HCk
      refine wpAnyH_ready (rs := [3]) (by kernel_rfl) (by simp) ?_
      refine AllReadyH.cons (o := { dst := some 10, op := Op.makeSlice 63 (Operand.tmp 9) (Operand.tmp 9), type := 63, pos := "chip.go:79", after := #[{ on := 2, ground := Ground.data }, { on := 2, ground := Ground.data }], guard := none }) rfl (fun K hK => ?_) AllReadyH.nil
      go_simp
      go_wp2_with fail
      change K _ ((U2).alloc (.cells (rowB B) 74))
      have hbk : Below (U2).heap.size (U2) ((U2).alloc (.cells (rowB B) 74)) := below_alloc _ _
      have HAk : Hid (EA w ((U2).alloc (.cells (rowB B) 74)) (U2).heap.size B) := ⟨alloc_new _ _, H0.out.bel.size⟩
      have H0k := hide (H0.out.keep hbk)
      have HBk := hide (HB.out.keep hbk)
      have HCk := hide (HC.out.keep hbk)
      have hSnew := H0k.out.s
      clear hbk
      clear H0 HB HC
      refine hK.out _ _ hSnew (fun hHeld3 => ?_)
      clear hK K hSnew hHeld
      have hHeld := hHeld3
      clear hHeld3
      try simp only [Act.put, List.setIfInBounds_toArray, List.set_cons_zero, List.set_cons_succ]
      obtain ⟨gU3, hgU3⟩ : ∃ g, g = (U2).heap.size := ⟨_, rfl⟩
      obtain ⟨U3, hU3⟩ : ∃ u, u = ((U2).alloc (.cells (rowB B) 74)) := ⟨_, rfl⟩
      rw [← hgU3] at HAk ⊢
      rw [← hU3] at hHeld H0k HBk HCk HAk ⊢
      clear hU3 hgU3
      have H0 := H0k
      have HB := HBk
      have HC := HCk
      have HA := HAk
      clear H0k HBk HCk HAk
      refine wpAnyH_take (i := 7) (oi := { dst := some 14, op := Op.build 71 #[(0, Operand.tmp 7), (1, Operand.tmp 10), (2, Operand.tmp 11), (3, Operand.tmp 13)], type := 71, pos := "chip.go:79", after := #[{ on := 0, ground := Ground.data }, { on := 3, ground := Ground.data }, { on := 4, ground := Ground.data }, { on := 6, ground := Ground.data }], guard := none }) (v := ?v7p463) rfl (by kernel_rfl) (by kernel_rfl) (by kernel_rfl) (fun _ _ _ h => h) (Or.inl ⟨by rfl, ?y7p463⟩) (by assumption) ?r7p463
      case y7p463 => (intro x hx; (try dsimp only at hx); go_simp; try with_reducible rfl)
      try simp only [Act.put, List.setIfInBounds_toArray, List.set_cons_zero, List.set_cons_succ]
      refine wpAnyH_ready (rs := [8]) (by kernel_rfl) (by simp) ?_
      refine AllReadyH.cons (o := { dst := some 15, op := Op.box 71 (Operand.tmp 14), type := 27, pos := "chip.go:79", after := #[{ on := 7, ground := Ground.data }], guard := none }) rfl (fun K hK => ?_) AllReadyH.nil
      go_simp
      go_wp2_with fail
      have hSnew := (H0.out.keep (below_alloc U3 (.cells #[.int .i64 (B : Int), .int .i64 (P : Int), .int .i64 (S : Int), .slice (some ⟨gU3, 0, none⟩) B B, .map (some gU1), .chan (some x.c), .int .i64 x.fa, .int .i64 x.fk, .slice x.ma x.ml x.mc, .int .u8 x.ff, .bool x.hn, .bool false, .int .i64 0, .slice none 0 0] 71))).s
      refine hK.out _ _ hSnew (fun hHeld8 => ?_)
      clear hK K hSnew hHeld
      have hHeld := hHeld8
      clear hHeld8
      try simp only [Act.put, List.setIfInBounds_toArray, List.set_cons_zero, List.set_cons_succ]
      refine wpAnyH_take (i := 9) (oi := { dst := some 5, op := Op.assign (Operand.tmp 15), type := 27, pos := "chip.go:79", after := #[{ on := 8, ground := Ground.data }, { on := 6, ground := Ground.chain }, { on := 0, ground := Ground.phase }, { on := 1, ground := Ground.phase }, { on := 2, ground := Ground.phase }, { on := 3, ground := Ground.phase }, { on := 4, ground := Ground.phase }, { on := 5, ground := Ground.phase }, { on := 6, ground := Ground.phase }, { on := 7, ground := Ground.phase }, { on := 8, ground := Ground.phase }], guard := none }) (v := ?v9q463) rfl (by kernel_rfl) (by kernel_rfl) (by kernel_rfl) (fun _ _ _ h => h) (Or.inl ⟨by rfl, ?y9q463⟩) (by assumption) ?r9q463
      case y9q463 => (intro x hx; (try dsimp only at hx); go_simp; try with_reducible rfl)
      try simp only [Act.put, List.setIfInBounds_toArray, List.set_cons_zero, List.set_cons_succ]
      refine wpAnyH_done (by kernel_rfl) ?_ _
      exact hrest gU3 gU1 x U3 H0.out HA.out HB.out HC.out
  · go_simp
    go_at_call 48
    refine (waiting_any _ sa n c fs (HR.out.below H0.out.bel) hn).mono ?_
    rintro e U1 ⟨x, rfl, hq, hbk⟩
    go_wp2_with fail
    have HCk := hide (EC.of (w := w) hq H0.out.bel.size)
    clear hq
    have H0k := hide (H0.out.keep hbk)
    have hSnew := H0k.out.s
    clear hbk
    clear H0
    refine hK.out _ _ hSnew (fun hHeld6 => ?_)
    clear hK K hSnew hHeld
    have hHeld := hHeld6
    clear hHeld6
    try simp only [Act.put, List.setIfInBounds_toArray, List.set_cons_zero, List.set_cons_succ]
    have H0 := H0k
    have HC := HCk
    clear H0k HCk
    refine wpAnyH_ready (rs := [3, 4]) (by kernel_rfl) (by simp) ?_
    refine AllReadyH.cons (o := { dst := some 10, op := Op.makeSlice 63 (Operand.tmp 9) (Operand.tmp 9), type := 63, pos := "chip.go:79", after := #[{ on := 2, ground := Ground.data }, { on := 2, ground := Ground.data }], guard := none }) rfl (fun K hK => ?_) (AllReadyH.cons (o := { dst := some 11, op := Op.makeMap 64 none, type := 64, pos := "chip.go:79", after := #[], guard := none }) rfl (fun K hK => ?_) AllReadyH.nil)
    · go_simp
      go_wp2_with fail
      change K _ ((U1).alloc (.cells (rowB B) 74))
      have hbk : Below (U1).heap.size (U1) ((U1).alloc (.cells (rowB B) 74)) := below_alloc _ _
      have HAk : Hid (EA w ((U1).alloc (.cells (rowB B) 74)) (U1).heap.size B) := ⟨alloc_new _ _, H0.out.bel.size⟩
      have H0k := hide (H0.out.keep hbk)
      have HCk := hide (HC.out.keep hbk)
      have hSnew := H0k.out.s
      clear hbk
      clear H0 HC
      refine hK.out _ _ hSnew (fun hHeld3 => ?_)
      clear hK K hSnew hHeld
      have hHeld := hHeld3
      clear hHeld3
      try simp only [Act.put, List.setIfInBounds_toArray, List.set_cons_zero, List.set_cons_succ]
      obtain ⟨gU2, hgU2⟩ : ∃ g, g = (U1).heap.size := ⟨_, rfl⟩
      obtain ⟨U2, hU2⟩ : ∃ u, u = ((U1).alloc (.cells (rowB B) 74)) := ⟨_, rfl⟩
      rw [← hgU2] at HAk ⊢
      rw [← hU2] at hHeld H0k HCk HAk ⊢
      clear hU2 hgU2
      have H0 := H0k
      have HC := HCk
      have HA := HAk
      clear H0k HCk HAk
      refine wpAnyH_ready (rs := [4]) (by kernel_rfl) (by simp) ?_
      refine AllReadyH.cons (o := { dst := some 11, op := Op.makeMap 64 none, type := 64, pos := "chip.go:79", after := #[], guard := none }) rfl (fun K hK => ?_) AllReadyH.nil
      go_simp
      go_wp2_with fail
      change K _ ((U2).alloc (.map #[] 0))
      have hbk : Below (U2).heap.size (U2) ((U2).alloc (.map #[] 0)) := below_alloc _ _
      have HBk : Hid (EB w ((U2).alloc (.map #[] 0)) (U2).heap.size) := ⟨alloc_new _ _, H0.out.bel.size⟩
      have H0k := hide (H0.out.keep hbk)
      have HCk := hide (HC.out.keep hbk)
      have HAk := hide (HA.out.keep hbk)
      have hSnew := H0k.out.s
      clear hbk
      clear H0 HC HA
      refine hK.out _ _ hSnew (fun hHeld4 => ?_)
      clear hK K hSnew hHeld
      have hHeld := hHeld4
      clear hHeld4
      try simp only [Act.put, List.setIfInBounds_toArray, List.set_cons_zero, List.set_cons_succ]
      obtain ⟨gU3, hgU3⟩ : ∃ g, g = (U2).heap.size := ⟨_, rfl⟩
      obtain ⟨U3, hU3⟩ : ∃ u, u = ((U2).alloc (.map #[] 0)) := ⟨_, rfl⟩
      rw [← hgU3] at HBk ⊢
      rw [← hU3] at hHeld H0k HCk HAk HBk ⊢
      clear hU3 hgU3
      have H0 := H0k
      have HC := HCk
      have HA := HAk
      have HB := HBk
      clear H0k HCk HAk HBk
      refine wpAnyH_take (i := 7) (oi := { dst := some 14, op := Op.build 71 #[(0, Operand.tmp 7), (1, Operand.tmp 10), (2, Operand.tmp 11), (3, Operand.tmp 13)], type := 71, pos := "chip.go:79", after := #[{ on := 0, ground := Ground.data }, { on := 3, ground := Ground.data }, { on := 4, ground := Ground.data }, { on := 6, ground := Ground.data }], guard := none }) (v := ?v7p634) rfl (by kernel_rfl) (by kernel_rfl) (by kernel_rfl) (fun _ _ _ h => h) (Or.inl ⟨by rfl, ?y7p634⟩) (by assumption) ?r7p634
      case y7p634 => (intro x hx; (try dsimp only at hx); go_simp; try with_reducible rfl)
      try simp only [Act.put, List.setIfInBounds_toArray, List.set_cons_zero, List.set_cons_succ]
      refine wpAnyH_ready (rs := [8]) (by kernel_rfl) (by simp) ?_
      refine AllReadyH.cons (o := { dst := some 15, op := Op.box 71 (Operand.tmp 14), type := 27, pos := "chip.go:79", after := #[{ on := 7, ground := Ground.data }], guard := none }) rfl (fun K hK => ?_) AllReadyH.nil
      go_simp
      go_wp2_with fail
      have hSnew := (H0.out.keep (below_alloc U3 (.cells #[.int .i64 (B : Int), .int .i64 (P : Int), .int .i64 (S : Int), .slice (some ⟨gU2, 0, none⟩) B B, .map (some gU3), .chan (some x.c), .int .i64 x.fa, .int .i64 x.fk, .slice x.ma x.ml x.mc, .int .u8 x.ff, .bool x.hn, .bool false, .int .i64 0, .slice none 0 0] 71))).s
      refine hK.out _ _ hSnew (fun hHeld8 => ?_)
      clear hK K hSnew hHeld
      have hHeld := hHeld8
      clear hHeld8
      try simp only [Act.put, List.setIfInBounds_toArray, List.set_cons_zero, List.set_cons_succ]
      refine wpAnyH_take (i := 9) (oi := { dst := some 5, op := Op.assign (Operand.tmp 15), type := 27, pos := "chip.go:79", after := #[{ on := 8, ground := Ground.data }, { on := 6, ground := Ground.chain }, { on := 0, ground := Ground.phase }, { on := 1, ground := Ground.phase }, { on := 2, ground := Ground.phase }, { on := 3, ground := Ground.phase }, { on := 4, ground := Ground.phase }, { on := 5, ground := Ground.phase }, { on := 6, ground := Ground.phase }, { on := 7, ground := Ground.phase }, { on := 8, ground := Ground.phase }], guard := none }) (v := ?v9q634) rfl (by kernel_rfl) (by kernel_rfl) (by kernel_rfl) (fun _ _ _ h => h) (Or.inl ⟨by rfl, ?y9q634⟩) (by assumption) ?r9q634
      case y9q634 => (intro x hx; (try dsimp only at hx); go_simp; try with_reducible rfl)
      try simp only [Act.put, List.setIfInBounds_toArray, List.set_cons_zero, List.set_cons_succ]
      refine wpAnyH_done (by kernel_rfl) ?_ _
      exact hrest gU2 gU3 x U3 H0.out HA.out HB.out HC.out
    · go_simp
      go_wp2_with fail
      change K _ ((U1).alloc (.map #[] 0))
      have hbk : Below (U1).heap.size (U1) ((U1).alloc (.map #[] 0)) := below_alloc _ _
      have HBk : Hid (EB w ((U1).alloc (.map #[] 0)) (U1).heap.size) := ⟨alloc_new _ _, H0.out.bel.size⟩
      have H0k := hide (H0.out.keep hbk)
      have HCk := hide (HC.out.keep hbk)
      have hSnew := H0k.out.s
      clear hbk
      clear H0 HC
      refine hK.out _ _ hSnew (fun hHeld4 => ?_)
      clear hK K hSnew hHeld
      have hHeld := hHeld4
      clear hHeld4
      try simp only [Act.put, List.setIfInBounds_toArray, List.set_cons_zero, List.set_cons_succ]
      obtain ⟨gU2, hgU2⟩ : ∃ g, g = (U1).heap.size := ⟨_, rfl⟩
      obtain ⟨U2, hU2⟩ : ∃ u, u = ((U1).alloc (.map #[] 0)) := ⟨_, rfl⟩
      rw [← hgU2] at HBk ⊢
      rw [← hU2] at hHeld H0k HCk HBk ⊢
      clear hU2 hgU2
      have H0 := H0k
      have HC := HCk
      have HB := HBk
      clear H0k HCk HBk
      refine wpAnyH_ready (rs := [3]) (by kernel_rfl) (by simp) ?_
      refine AllReadyH.cons (o := { dst := some 10, op := Op.makeSlice 63 (Operand.tmp 9) (Operand.tmp 9), type := 63, pos := "chip.go:79", after := #[{ on := 2, ground := Ground.data }, { on := 2, ground := Ground.data }], guard := none }) rfl (fun K hK => ?_) AllReadyH.nil
      go_simp
      go_wp2_with fail
      change K _ ((U2).alloc (.cells (rowB B) 74))
      have hbk : Below (U2).heap.size (U2) ((U2).alloc (.cells (rowB B) 74)) := below_alloc _ _
      have HAk : Hid (EA w ((U2).alloc (.cells (rowB B) 74)) (U2).heap.size B) := ⟨alloc_new _ _, H0.out.bel.size⟩
      have H0k := hide (H0.out.keep hbk)
      have HCk := hide (HC.out.keep hbk)
      have HBk := hide (HB.out.keep hbk)
      have hSnew := H0k.out.s
      clear hbk
      clear H0 HC HB
      refine hK.out _ _ hSnew (fun hHeld3 => ?_)
      clear hK K hSnew hHeld
      have hHeld := hHeld3
      clear hHeld3
      try simp only [Act.put, List.setIfInBounds_toArray, List.set_cons_zero, List.set_cons_succ]
      obtain ⟨gU3, hgU3⟩ : ∃ g, g = (U2).heap.size := ⟨_, rfl⟩
      obtain ⟨U3, hU3⟩ : ∃ u, u = ((U2).alloc (.cells (rowB B) 74)) := ⟨_, rfl⟩
      rw [← hgU3] at HAk ⊢
      rw [← hU3] at hHeld H0k HCk HBk HAk ⊢
      clear hU3 hgU3
      have H0 := H0k
      have HC := HCk
      have HB := HBk
      have HA := HAk
      clear H0k HCk HBk HAk
      refine wpAnyH_take (i := 7) (oi := { dst := some 14, op := Op.build 71 #[(0, Operand.tmp 7), (1, Operand.tmp 10), (2, Operand.tmp 11), (3, Operand.tmp 13)], type := 71, pos := "chip.go:79", after := #[{ on := 0, ground := Ground.data }, { on := 3, ground := Ground.data }, { on := 4, ground := Ground.data }, { on := 6, ground := Ground.data }], guard := none }) (v := ?v7p643) rfl (by kernel_rfl) (by kernel_rfl) (by kernel_rfl) (fun _ _ _ h => h) (Or.inl ⟨by rfl, ?y7p643⟩) (by assumption) ?r7p643
      case y7p643 => (intro x hx; (try dsimp only at hx); go_simp; try with_reducible rfl)
      try simp only [Act.put, List.setIfInBounds_toArray, List.set_cons_zero, List.set_cons_succ]
      refine wpAnyH_ready (rs := [8]) (by kernel_rfl) (by simp) ?_
      refine AllReadyH.cons (o := { dst := some 15, op := Op.box 71 (Operand.tmp 14), type := 27, pos := "chip.go:79", after := #[{ on := 7, ground := Ground.data }], guard := none }) rfl (fun K hK => ?_) AllReadyH.nil
      go_simp
      go_wp2_with fail
      have hSnew := (H0.out.keep (below_alloc U3 (.cells #[.int .i64 (B : Int), .int .i64 (P : Int), .int .i64 (S : Int), .slice (some ⟨gU3, 0, none⟩) B B, .map (some gU2), .chan (some x.c), .int .i64 x.fa, .int .i64 x.fk, .slice x.ma x.ml x.mc, .int .u8 x.ff, .bool x.hn, .bool false, .int .i64 0, .slice none 0 0] 71))).s
      refine hK.out _ _ hSnew (fun hHeld8 => ?_)
      clear hK K hSnew hHeld
      have hHeld := hHeld8
      clear hHeld8
      try simp only [Act.put, List.setIfInBounds_toArray, List.set_cons_zero, List.set_cons_succ]
      refine wpAnyH_take (i := 9) (oi := { dst := some 5, op := Op.assign (Operand.tmp 15), type := 27, pos := "chip.go:79", after := #[{ on := 8, ground := Ground.data }, { on := 6, ground := Ground.chain }, { on := 0, ground := Ground.phase }, { on := 1, ground := Ground.phase }, { on := 2, ground := Ground.phase }, { on := 3, ground := Ground.phase }, { on := 4, ground := Ground.phase }, { on := 5, ground := Ground.phase }, { on := 6, ground := Ground.phase }, { on := 7, ground := Ground.phase }, { on := 8, ground := Ground.phase }], guard := none }) (v := ?v9q643) rfl (by kernel_rfl) (by kernel_rfl) (by kernel_rfl) (fun _ _ _ h => h) (Or.inl ⟨by rfl, ?y9q643⟩) (by assumption) ?r9q643
      case y9q643 => (intro x hx; (try dsimp only at hx); go_simp; try with_reducible rfl)
      try simp only [Act.put, List.setIfInBounds_toArray, List.set_cons_zero, List.set_cons_succ]
      refine wpAnyH_done (by kernel_rfl) ?_ _
      exact hrest gU3 gU2 x U3 H0.out HA.out HB.out HC.out
end Go.Proofs.Ytjhphkfpcpfdnaa
