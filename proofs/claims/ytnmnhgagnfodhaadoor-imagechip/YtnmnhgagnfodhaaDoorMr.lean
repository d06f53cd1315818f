/-
  SEAT YtnmnhgagnfodhaaDoor: KEb.
-/
import Derived.Test.YtnmnhgagnfodhaaDoorMa
import Derived.Test.YtnmnhgagnfodhaaDoorMq
namespace Go.Proofs.YtnmnhgagnfodhaaDoor.Cp
open Go.RowKit Go.Conc
set_option linter.unusedVariables false
structure E0 (w U : World) (B P S : Nat) : Prop where
 bel : Below w.heap.size w U
 bx : U.heap[w.heap.size]? = some (.cells #[.int .i64 (B : Int), .int .i64 (P : Int), .int .i64 (S : Int)] 30 (0, 0))
def EA (w U : World) (gb B : Nat) : Prop := U.heap[gb]? = some (.cells (rowB B) 76 (0, 0)) ∧ w.heap.size ≤ gb
def EB (w U : World) (gm : Nat) : Prop := U.heap[gm]? = some (.map #[] 0) ∧ w.heap.size ≤ gm
def EC (w U : World) (x : Bx) (q : List Ft) : Prop := QAt U (fun k => w.heap.size ≤ k ∧ k < U.heap.size) x q
theorem E0.keep {w U V : World} {B P S : Nat} (h : E0 w U B P S) (hb : Below U.heap.size U V) : E0 w V B P S := ⟨h.bel.trans (hb.mono h.bel.size), (hb.block _ (lt_of_block h.bx)).trans h.bx⟩
theorem EA.keep {w U V : World} {gb B : Nat} (h : EA w U gb B) (hb : Below U.heap.size U V) : EA w V gb B := ⟨(hb.block _ (lt_of_block h.1)).trans h.1, h.2⟩
theorem EB.keep {w U V : World} {gm : Nat} (h : EB w U gm) (hb : Below U.heap.size U V) : EB w V gm := ⟨(hb.block _ (lt_of_block h.1)).trans h.1, h.2⟩
theorem EC.keep {w U V : World} {x : Bx} {q : List Ft} (h : EC w U x q) (hb : Below U.heap.size U V) : EC w V x q :=
 QAt.keep (T := fun _ => False) h (KeepT.of (fun k hk => hb.block k hk.2) _) (fun h => h) (fun h => h) (fun k hk => ⟨hk.1, Nat.lt_of_lt_of_le hk.2 hb.size⟩) ⟨rfl, rfl, rfl, rfl, rfl, rfl, rfl⟩ rfl
theorem EC.of {w U V : World} {x : Bx} {q : List Ft} (h : QAt V (fun k => U.heap.size ≤ k ∧ k < V.heap.size) x q) (hb : w.heap.size ≤ U.heap.size) : EC w V x q :=
 QAt.keep (T := fun _ => False) h (KeepT.of (fun k hk => rfl) _) (fun h => h) (fun h => h) (fun k hk => ⟨Nat.le_trans hb hk.1, hk.2⟩) ⟨rfl, rfl, rfl, rfl, rfl, rfl, rfl⟩ rfl
theorem E0.s {w U : World} {B P S : Nat} (h : E0 w U B P S) : U.cell? ⟨w.heap.size, 0, none⟩ = some (.int .i64 (B : Int)) ∧ U.cell? ⟨w.heap.size, 1, none⟩ = some (.int .i64 (P : Int)) ∧ U.cell? ⟨w.heap.size, 2, none⟩ = some (.int .i64 (S : Int)) := by
 have hb := h.bx
 refine ⟨?_, ?_, ?_⟩ <;> simp [World.cell?, hb]
theorem ReadsF.below {w w' : World} {a : Option Addr} {len : Nat} {fs : List Fc} (h : ReadsF w a len fs) (hb : Below w.heap.size w w') : ReadsF w' a len fs :=
 ⟨h.1, fun c hc => ⟨(h.2.1 c hc).rd.below hb, (h.2.1 c hc).le, (h.2.1 c hc).cap, (h.2.1 c hc).fill, (h.2.1 c hc).a, (h.2.1 c hc).k⟩, h.2.2.1, fun x hx i hi j hj => (hb.cell (block_lt_of_cell (h.2.2.2 x hx i hi j hj))).trans (h.2.2.2 x hx i hi j hj)⟩
theorem el_start {w U : World} {gb gm B P S : Nat} {x : Bx} {q : List Ft} (h0 : E0 w U B P S) (ha : EA w U gb B) (hb : EB w U gm) (hc : EC w U x q) :
  EL w (U.alloc (.cells #[.int .i64 (B : Int), .int .i64 (P : Int), .int .i64 (S : Int), .slice (some ⟨gb, 0, none⟩) B B, .map (some gm), .chan (some x.c), .int .i64 x.fa, .int .i64 x.fk, .slice x.ma x.ml x.mc, .int .u8 x.ff, .bool x.hn, .bool false, .int .i64 0, .slice none 0 0] 73)) U.heap.size gb gm x (boxY x B P S gb gm) B P S q 0 [] := by
 have hk := below_alloc U (.cells #[.int .i64 (B : Int), .int .i64 (P : Int), .int .i64 (S : Int), .slice (some ⟨gb, 0, none⟩) B B, .map (some gm), .chan (some x.c), .int .i64 x.fa, .int .i64 x.fk, .slice x.ma x.ml x.mc, .int .u8 x.ff, .bool x.hn, .bool false, .int .i64 0, .slice none 0 0] 73)
 exact ⟨(h0.keep hk).bel, (h0.keep hk).bx, alloc_new _ _, h0.bel.size, (ha.keep hk).1, ha.2, (hb.keep hk).1, hb.2, hc.keep hk, (fun b hb => by cases hb), rfl, rfl, List.Pairwise.nil⟩
theorem EL.s {w u : World} {p gb gm : Nat} {x : Bx} {B P S : Nat} {q : List Ft} {m : Nat} {bs : List Bc} (h : EL w u p gb gm x (boxY x B P S gb gm) B P S q m bs) : u.cell? ⟨p, 3, none⟩ = some (.slice (some ⟨gb, 0, none⟩) B B) ∧ u.cell? ⟨w.heap.size, 1, none⟩ = some (.int .i64 (P : Int)) := by
 have hb := h.bx
 exact ⟨h.box.c3, by simp [World.cell?, hb]⟩
theorem e5_keep {w u u' : World} {p gb B P : Nat} (h : u.cell? ⟨p, 3, none⟩ = some (.slice (some ⟨gb, 0, none⟩) B B) ∧ u.cell? ⟨w.heap.size, 1, none⟩ = some (.int .i64 (P : Int))) (hb : Below u.heap.size u u') : u'.cell? ⟨p, 3, none⟩ = some (.slice (some ⟨gb, 0, none⟩) B B) ∧ u'.cell? ⟨w.heap.size, 1, none⟩ = some (.int .i64 (P : Int)) :=
 ⟨(hb.cell (block_lt_of_cell h.1)).trans h.1, (hb.cell (block_lt_of_cell h.2)).trans h.2⟩
theorem row_cell {u : World} {gb B m : Nat} {bs : List Bc} (h : u.heap[gb]? = some (.cells (rowM bs (B - m)).toArray 76 (0, 0))) (hl : bs.length = m) (hm : m < B) : u.cell? ⟨gb, m * 4 + 3, none⟩ = some (.slice none 0 0) := by
 rw [show B - m = (B - (m + 1)) + 1 by omega] at h
 have h1 := rowM_get bs (B - (m + 1))
 rw [hl] at h1
 simp [World.cell?, h, h1]
set_option maxHeartbeats 4000000 in
set_option maxRecDepth 100000 in
theorem empty_any (w : World) (B P S : Nat) (hB : B ≤ 4096) (hP : P ≤ 4096) (sa : Option Addr) (n c : Nat) (fs : List Fc) (hR : ReadsF w sa n fs) (hn : n ≤ 4096) :
  Calls Tryd.prog 21 #[.agg #[.int .i64 (B : Int), .int .i64 (P : Int), .int .i64 (S : Int)], .slice sa n c] w fun e w' => ∃ p, e = .returned (.pointer (some ⟨p, 0, none⟩)) ∧ ChipAt w' p (fun k => w.heap.size ≤ k ∧ k < w'.heap.size) (emptyC B P S (fs.map Fc.t)) ∧ Below w.heap.size w w' := by
 have hmk := fun w => mk96 w B hB
 have hmk2 := fun w => mk104 w P hP
 have HR := hide hR
 clear hR
 have H0 : Hid (E0 w (w.alloc (.cells #[.int .i64 (B : Int), .int .i64 (P : Int), .int .i64 (S : Int)] 30)).drew B P S) := ⟨below_trans (below_alloc _ _) (drew_below _), alloc_new _ _⟩
 go_enter Tryd.func21, Tryd.ntmps21
 go_wp2
 rename_i K0 hK0
 have hrest : ∀ (gb gm : Nat) (x : Bx) (U : World), E0 w U B P S → EA w U gb B → EB w U gm → EC w U x (fs.map Fc.t) → K0 { tmps := #[.agg #[.int .i64 (B : Int), .int .i64 (P : Int), .int .i64 (S : Int)], .slice sa n c, .pointer (some ⟨w.heap.size, 0, none⟩), undef, .pointer none, .pointer (some ⟨U.heap.size, 0, none⟩), undef, .agg #[.int .i64 (B : Int), .int .i64 (P : Int), .int .i64 (S : Int)], .pointer (some ⟨w.heap.size, 0, none⟩), .int .i64 (B : Int), .slice (some ⟨gb, 0, none⟩) B B, .map (some gm), .slice sa n c, .agg #[.chan (some x.c), .int .i64 x.fa, .int .i64 x.fk, .slice x.ma x.ml x.mc, .int .u8 x.ff, .bool x.hn], .agg #[.int .i64 (B : Int), .int .i64 (P : Int), .int .i64 (S : Int), .slice (some ⟨gb, 0, none⟩) B B, .map (some gm), .chan (some x.c), .int .i64 x.fa, .int .i64 x.fk, .slice x.ma x.ml x.mc, .int .u8 x.ff, .bool x.hn, .bool false, .int .i64 0, .slice none 0 0], .pointer (some ⟨U.heap.size, 0, none⟩), undef, undef, undef, undef, undef, undef, undef, undef, undef, undef, undef, undef, undef, undef, undef, undef, undef, undef, undef, undef], defers := [] } (U.alloc (.cells #[.int .i64 (B : Int), .int .i64 (P : Int), .int .i64 (S : Int), .slice (some ⟨gb, 0, none⟩) B B, .map (some gm), .chan (some x.c), .int .i64 x.fa, .int .i64 x.fk, .slice x.ma x.ml x.mc, .int .u8 x.ff, .bool x.hn, .bool false, .int .i64 0, .slice none 0 0] 73)) := by
  intro gb gm x U h0 ha hb hc
  have HL := hide (el_start h0 ha hb hc)
  obtain ⟨p, hp⟩ : ∃ p, p = U.heap.size := ⟨_, rfl⟩
  refine hK0 _ _ ?_
  clear hK0
  obtain ⟨V, hV⟩ : ∃ V, V = U.alloc (.cells #[.int .i64 (B : Int), .int .i64 (P : Int), .int .i64 (S : Int), .slice (some ⟨gb, 0, none⟩) B B, .map (some gm), .chan (some x.c), .int .i64 x.fa, .int .i64 x.fk, .slice x.ma x.ml x.mc, .int .u8 x.ff, .bool x.hn, .bool false, .int .i64 0, .slice none 0 0] 73) := ⟨_, rfl⟩
  rw [← hV] at HL ⊢
  rw [← hp] at HL ⊢
  clear hV hp h0 ha hb hc
  obtain ⟨a0, a1⟩ := HL.out.s
  go_wp2
  clear a0 a1
  go_loopw [6, 21] (fun s6 s21 wr => ∃ (m : Nat) (bs : List Bc), m ≤ B ∧ s21 = .int .i64 m ∧ Hid (EL w wr p gb gm x (boxY x B P S gb gm) B P S (fs.map Fc.t) m bs)) (fun s6 s21 _ => B - (intOf s21).toNat)
  case atStart => exact ⟨0, [], Nat.zero_le _, rfl, HL⟩
  case round =>
   obtain ⟨m, bs, hm, rfl, HE⟩ := hrel
   by_cases hlt : m < B
   ·have dm : decide ((m : Int) < (B : Int)) = true := decide_eq_true (by omega)
    have m1 : (m : Int) < (B : Int) := by omega
    go_wp2
    refine wp_region_held_drew (S := (fun u => u.cell? ⟨p, 3, none⟩ = some (.slice (some ⟨gb, 0, none⟩) B B) ∧ u.cell? ⟨w.heap.size, 1, none⟩ = some (.int .i64 (P : Int)))) (by kernel_rfl) (HE.out.s) (fun hHeld => ?_)
    refine tk 0 ?_
    refine tk 1 ?_
    refine tk 2 ?_
    refine tk 3 ?_
    refine tk 4 ?_
    refine tk 5 ?_
    refine tk 6 ?_
    refine rd 7 (fun K hK => ?_)
    go_simp
    go_wp2_with fail
    change K _ (wr.drew.alloc (.cells (rowP P) 107))
    have hb7 : Below wr.heap.size wr (wr.drew.alloc (.cells (rowP P) 107)) := below_trans (drew_below _) (below_alloc _ _)
    have hSnew := e5_keep HE.out.s hb7
    have HST := hide (HE.out.step hlt)
    have HR7 := hide ((hb7.block _ (lt_of_block HE.out.row)).trans HE.out.row)
    clear hb7
    clear hHeld
    refine hK.out _ _ hSnew (fun hHeld => ?_)
    clear hK K hSnew
    try simp only [Act.put, zSt, zS0, zS1]
    obtain ⟨V7, hV7⟩ : ∃ V, V = wr.drew.alloc (.cells (rowP P) 107) := ⟨_, rfl⟩
    rw [← hV7] at hHeld HST HR7 ⊢
    clear hV7
    have z3 := row_cell HR7.out HE.out.len hlt
    have fzr := fun j => frozen_of_row V7 gb j _ 76 HR7.out
    refine tk 8 ?_
    refine tk 9 ?_
    refine rd 10 (fun K hK => ?_)
    go_simp
    go_wp2_with fail
    have hSnew := HST.out.s
    clear hHeld
    refine hK.out _ _ hSnew (fun hHeld => ?_)
    clear hK K hSnew
    try simp only [Act.put, zSt, zS0, zS1]
    refine wpAnyH_done (by kernel_rfl) ?_ _
    clear hHeld
    go_wp2
    exact ⟨⟨m + 1, _, hlt, by simp, HST⟩, by simp [intOf]; omega⟩
   ·have dm : decide ((m : Int) < (B : Int)) = false := decide_eq_false (by omega)
    go_wp2
    go_ret
    have em : m = B := by omega
    subst em
    exact ⟨p, rfl, ⟨_, _, _, HE.out.chip⟩, HE.out.e0⟩
 clear hK0
 refine wp_region_held_drew (S := (fun u => u.cell? ⟨w.heap.size, 0, none⟩ = some (.int .i64 (B : Int)) ∧ u.cell? ⟨w.heap.size, 1, none⟩ = some (.int .i64 (P : Int)) ∧ u.cell? ⟨w.heap.size, 2, none⟩ = some (.int .i64 (S : Int)))) (by kernel_rfl) (H0.out.s) (fun hHeld => ?_)
 refine tk 0 ?_
 refine tk 1 ?_
 refine tk 2 ?_
 refine tk 5 ?_
 obtain ⟨U0, hU0⟩ : ∃ u, u = (w.alloc (.cells #[.int .i64 (B : Int), .int .i64 (P : Int), .int .i64 (S : Int)] 30)).drew := ⟨_, rfl⟩
 rw [← hU0] at hHeld H0 ⊢
 clear hU0
 refine wpAnyH_ready (rs := [3, 4, 6]) (by kernel_rfl) (by simp) ?_
 refine AllReadyH.cons (o := { dst := some 10, op := Op.makeSlice 64 (Operand.tmp 9) (Operand.tmp 9), type := 64, pos := "chip.go:79", after := #[{ on := 2, ground := Ground.data }, { on := 2, ground := Ground.data }], guard := none }) rfl (fun K hK => ?_) (AllReadyH.cons (o := { dst := some 11, op := Op.makeMap 65 none, type := 65, pos := "chip.go:79", after := #[], guard := none }) rfl (fun K hK => ?_) (AllReadyH.cons (o := { dst := some 13, op := Op.call { callee := Callee.value (Operand.func 47), args := #[Operand.tmp 12], argTypes := #[60] }, type := 70, pos := "chip.go:83", after := #[{ on := 5, ground := Ground.data }], guard := none }) rfl (fun K hK => ?_) AllReadyH.nil))
 ·go_simp
  go_wp2_with fail
  change K _ ((U0).alloc (.cells (rowB B) 76))
  have hbk : Below (U0).heap.size (U0) ((U0).alloc (.cells (rowB B) 76)) := below_alloc _ _
  have HAk : Hid (EA w ((U0).alloc (.cells (rowB B) 76)) (U0).heap.size B) := ⟨alloc_new _ _, H0.out.bel.size⟩
  have H0k := hide (H0.out.keep hbk)
  have hSnew := H0k.out.s
  clear hbk
  clear H0
  refine hK.out _ _ hSnew (fun hHeld3 => ?_)
  clear hK K hSnew hHeld
  have hHeld := hHeld3
  clear hHeld3
  try simp only [Act.put, zSt, zS0, zS1]
  obtain ⟨gU1, hgU1⟩ : ∃ g, g = (U0).heap.size := ⟨_, rfl⟩
  obtain ⟨U1, hU1⟩ : ∃ u, u = ((U0).alloc (.cells (rowB B) 76)) := ⟨_, rfl⟩
  rw [← hgU1] at HAk ⊢
  rw [← hU1] at hHeld H0k HAk ⊢
  clear hU1 hgU1
  have H0 := H0k
  have HA := HAk
  clear H0k HAk
  refine wpAnyH_ready (rs := [4, 6]) (by kernel_rfl) (by simp) ?_
  refine AllReadyH.cons (o := { dst := some 11, op := Op.makeMap 65 none, type := 65, pos := "chip.go:79", after := #[], guard := none }) rfl (fun K hK => ?_) (AllReadyH.cons (o := { dst := some 13, op := Op.call { callee := Callee.value (Operand.func 47), args := #[Operand.tmp 12], argTypes := #[60] }, type := 70, pos := "chip.go:83", after := #[{ on := 5, ground := Ground.data }], guard := none }) rfl (fun K hK => ?_) AllReadyH.nil)
  ·go_simp
   go_wp2_with fail
   change K _ ((U1).alloc (.map #[] 0))
   have hbk : Below (U1).heap.size (U1) ((U1).alloc (.map #[] 0)) := below_alloc _ _
   have HBk : Hid (EB w ((U1).alloc (.map #[] 0)) (U1).heap.size) := ⟨alloc_new _ _, H0.out.bel.size⟩
   have H0k := hide (H0.out.keep hbk)
   have HAk := hide (HA.out.keep hbk)
   have hSnew := H0k.out.s
   clear hbk
   clear H0 HA
   refine hK.out _ _ hSnew (fun hHeld4 => ?_)
   clear hK K hSnew hHeld
   have hHeld := hHeld4
   clear hHeld4
   try simp only [Act.put, zSt, zS0, zS1]
   obtain ⟨gU2, hgU2⟩ : ∃ g, g = (U1).heap.size := ⟨_, rfl⟩
   obtain ⟨U2, hU2⟩ : ∃ u, u = ((U1).alloc (.map #[] 0)) := ⟨_, rfl⟩
   rw [← hgU2] at HBk ⊢
   rw [← hU2] at hHeld H0k HAk HBk ⊢
   clear hU2 hgU2
   have H0 := H0k
   have HA := HAk
   have HB := HBk
   clear H0k HAk HBk
   refine rd 6 (fun K hK => ?_)
   go_simp
   go_at_call 47
   refine (waiting_any _ sa n c fs (HR.out.below H0.out.bel) hn).mono ?_
   rintro e U3 ⟨x, rfl, hq, hbk⟩
   go_wp2_with fail
   have HCk := hide (EC.of (w := w) hq H0.out.bel.size)
   clear hq
   have H0k := hide (H0.out.keep hbk)
   have HAk := hide (HA.out.keep hbk)
   have HBk := hide (HB.out.keep hbk)
   have hSnew := H0k.out.s
   clear hbk
   clear H0 HA HB
   refine hK.out _ _ hSnew (fun hHeld6 => ?_)
   clear hK K hSnew hHeld
   have hHeld := hHeld6
   clear hHeld6
   try simp only [Act.put, zSt, zS0, zS1]
   have H0 := H0k
   have HA := HAk
   have HB := HBk
   have HC := HCk
   clear H0k HAk HBk HCk
   refine tk 7 ?_
   refine rd 8 (fun K hK => ?_)
   go_simp
   go_wp2_with fail
   have hSnew := (H0.out.keep (below_alloc U3 (.cells #[.int .i64 (B : Int), .int .i64 (P : Int), .int .i64 (S : Int), .slice (some ⟨gU1, 0, none⟩) B B, .map (some gU2), .chan (some x.c), .int .i64 x.fa, .int .i64 x.fk, .slice x.ma x.ml x.mc, .int .u8 x.ff, .bool x.hn, .bool false, .int .i64 0, .slice none 0 0] 73))).s
   refine hK.out _ _ hSnew (fun hHeld8 => ?_)
   clear hK K hSnew hHeld
   have hHeld := hHeld8
   clear hHeld8
   try simp only [Act.put, zSt, zS0, zS1]
   refine tk 9 ?_
   refine wpAnyH_done (by kernel_rfl) ?_ _
   exact hrest gU1 gU2 x U3 H0.out HA.out HB.out HC.out
  ·go_simp
   go_at_call 47
   refine (waiting_any _ sa n c fs (HR.out.below H0.out.bel) hn).mono ?_
   rintro e U2 ⟨x, rfl, hq, hbk⟩
   go_wp2_with fail
   have HCk := hide (EC.of (w := w) hq H0.out.bel.size)
   clear hq
   have H0k := hide (H0.out.keep hbk)
   have HAk := hide (HA.out.keep hbk)
   have hSnew := H0k.out.s
   clear hbk
   clear H0 HA
   refine hK.out _ _ hSnew (fun hHeld6 => ?_)
   clear hK K hSnew hHeld
   have hHeld := hHeld6
   clear hHeld6
   try simp only [Act.put, zSt, zS0, zS1]
   have H0 := H0k
   have HA := HAk
   have HC := HCk
   clear H0k HAk HCk
   refine rd 4 (fun K hK => ?_)
   go_simp
   go_wp2_with fail
   change K _ ((U2).alloc (.map #[] 0))
   have hbk : Below (U2).heap.size (U2) ((U2).alloc (.map #[] 0)) := below_alloc _ _
   have HBk : Hid (EB w ((U2).alloc (.map #[] 0)) (U2).heap.size) := ⟨alloc_new _ _, H0.out.bel.size⟩
   have H0k := hide (H0.out.keep hbk)
   have HAk := hide (HA.out.keep hbk)
   have HCk := hide (HC.out.keep hbk)
   have hSnew := H0k.out.s
   clear hbk
   clear H0 HA HC
   refine hK.out _ _ hSnew (fun hHeld4 => ?_)
   clear hK K hSnew hHeld
   have hHeld := hHeld4
   clear hHeld4
   try simp only [Act.put, zSt, zS0, zS1]
   obtain ⟨gU3, hgU3⟩ : ∃ g, g = (U2).heap.size := ⟨_, rfl⟩
   obtain ⟨U3, hU3⟩ : ∃ u, u = ((U2).alloc (.map #[] 0)) := ⟨_, rfl⟩
   rw [← hgU3] at HBk ⊢
   rw [← hU3] at hHeld H0k HAk HCk HBk ⊢
   clear hU3 hgU3
   have H0 := H0k
   have HA := HAk
   have HC := HCk
   have HB := HBk
   clear H0k HAk HCk HBk
   refine tk 7 ?_
   refine rd 8 (fun K hK => ?_)
   go_simp
   go_wp2_with fail
   have hSnew := (H0.out.keep (below_alloc U3 (.cells #[.int .i64 (B : Int), .int .i64 (P : Int), .int .i64 (S : Int), .slice (some ⟨gU1, 0, none⟩) B B, .map (some gU3), .chan (some x.c), .int .i64 x.fa, .int .i64 x.fk, .slice x.ma x.ml x.mc, .int .u8 x.ff, .bool x.hn, .bool false, .int .i64 0, .slice none 0 0] 73))).s
   refine hK.out _ _ hSnew (fun hHeld8 => ?_)
   clear hK K hSnew hHeld
   have hHeld := hHeld8
   clear hHeld8
   try simp only [Act.put, zSt, zS0, zS1]
   refine tk 9 ?_
   refine wpAnyH_done (by kernel_rfl) ?_ _
   exact hrest gU1 gU3 x U3 H0.out HA.out HB.out HC.out
 ·go_simp
  go_wp2_with fail
  change K _ ((U0).alloc (.map #[] 0))
  have hbk : Below (U0).heap.size (U0) ((U0).alloc (.map #[] 0)) := below_alloc _ _
  have HBk : Hid (EB w ((U0).alloc (.map #[] 0)) (U0).heap.size) := ⟨alloc_new _ _, H0.out.bel.size⟩
  have H0k := hide (H0.out.keep hbk)
  have hSnew := H0k.out.s
  clear hbk
  clear H0
  refine hK.out _ _ hSnew (fun hHeld4 => ?_)
  clear hK K hSnew hHeld
  have hHeld := hHeld4
  clear hHeld4
  try simp only [Act.put, zSt, zS0, zS1]
  obtain ⟨gU1, hgU1⟩ : ∃ g, g = (U0).heap.size := ⟨_, rfl⟩
  obtain ⟨U1, hU1⟩ : ∃ u, u = ((U0).alloc (.map #[] 0)) := ⟨_, rfl⟩
  rw [← hgU1] at HBk ⊢
  rw [← hU1] at hHeld H0k HBk ⊢
  clear hU1 hgU1
  have H0 := H0k
  have HB := HBk
  clear H0k HBk
  refine wpAnyH_ready (rs := [3, 6]) (by kernel_rfl) (by simp) ?_
  refine AllReadyH.cons (o := { dst := some 10, op := Op.makeSlice 64 (Operand.tmp 9) (Operand.tmp 9), type := 64, pos := "chip.go:79", after := #[{ on := 2, ground := Ground.data }, { on := 2, ground := Ground.data }], guard := none }) rfl (fun K hK => ?_) (AllReadyH.cons (o := { dst := some 13, op := Op.call { callee := Callee.value (Operand.func 47), args := #[Operand.tmp 12], argTypes := #[60] }, type := 70, pos := "chip.go:83", after := #[{ on := 5, ground := Ground.data }], guard := none }) rfl (fun K hK => ?_) AllReadyH.nil)
  ·go_simp
   go_wp2_with fail
   change K _ ((U1).alloc (.cells (rowB B) 76))
   have hbk : Below (U1).heap.size (U1) ((U1).alloc (.cells (rowB B) 76)) := below_alloc _ _
   have HAk : Hid (EA w ((U1).alloc (.cells (rowB B) 76)) (U1).heap.size B) := ⟨alloc_new _ _, H0.out.bel.size⟩
   have H0k := hide (H0.out.keep hbk)
   have HBk := hide (HB.out.keep hbk)
   have hSnew := H0k.out.s
   clear hbk
   clear H0 HB
   refine hK.out _ _ hSnew (fun hHeld3 => ?_)
   clear hK K hSnew hHeld
   have hHeld := hHeld3
   clear hHeld3
   try simp only [Act.put, zSt, zS0, zS1]
   obtain ⟨gU2, hgU2⟩ : ∃ g, g = (U1).heap.size := ⟨_, rfl⟩
   obtain ⟨U2, hU2⟩ : ∃ u, u = ((U1).alloc (.cells (rowB B) 76)) := ⟨_, rfl⟩
   rw [← hgU2] at HAk ⊢
   rw [← hU2] at hHeld H0k HBk HAk ⊢
   clear hU2 hgU2
   have H0 := H0k
   have HB := HBk
   have HA := HAk
   clear H0k HBk HAk
   refine rd 6 (fun K hK => ?_)
   go_simp
   go_at_call 47
   refine (waiting_any _ sa n c fs (HR.out.below H0.out.bel) hn).mono ?_
   rintro e U3 ⟨x, rfl, hq, hbk⟩
   go_wp2_with fail
   have HCk := hide (EC.of (w := w) hq H0.out.bel.size)
   clear hq
   have H0k := hide (H0.out.keep hbk)
   have HBk := hide (HB.out.keep hbk)
   have HAk := hide (HA.out.keep hbk)
   have hSnew := H0k.out.s
   clear hbk
   clear H0 HB HA
   refine hK.out _ _ hSnew (fun hHeld6 => ?_)
   clear hK K hSnew hHeld
   have hHeld := hHeld6
   clear hHeld6
   try simp only [Act.put, zSt, zS0, zS1]
   have H0 := H0k
   have HB := HBk
   have HA := HAk
   have HC := HCk
   clear H0k HBk HAk HCk
   refine tk 7 ?_
   refine rd 8 (fun K hK => ?_)
   go_simp
   go_wp2_with fail
   have hSnew := (H0.out.keep (below_alloc U3 (.cells #[.int .i64 (B : Int), .int .i64 (P : Int), .int .i64 (S : Int), .slice (some ⟨gU2, 0, none⟩) B B, .map (some gU1), .chan (some x.c), .int .i64 x.fa, .int .i64 x.fk, .slice x.ma x.ml x.mc, .int .u8 x.ff, .bool x.hn, .bool false, .int .i64 0, .slice none 0 0] 73))).s
   refine hK.out _ _ hSnew (fun hHeld8 => ?_)
   clear hK K hSnew hHeld
   have hHeld := hHeld8
   clear hHeld8
   try simp only [Act.put, zSt, zS0, zS1]
   refine tk 9 ?_
   refine wpAnyH_done (by kernel_rfl) ?_ _
   exact hrest gU2 gU1 x U3 H0.out HA.out HB.out HC.out
  ·go_simp
   go_at_call 47
   refine (waiting_any _ sa n c fs (HR.out.below H0.out.bel) hn).mono ?_
   rintro e U2 ⟨x, rfl, hq, hbk⟩
   go_wp2_with fail
   have HCk := hide (EC.of (w := w) hq H0.out.bel.size)
   clear hq
   have H0k := hide (H0.out.keep hbk)
   have HBk := hide (HB.out.keep hbk)
   have hSnew := H0k.out.s
   clear hbk
   clear H0 HB
   refine hK.out _ _ hSnew (fun hHeld6 => ?_)
   clear hK K hSnew hHeld
   have hHeld := hHeld6
   clear hHeld6
   try simp only [Act.put, zSt, zS0, zS1]
   have H0 := H0k
   have HB := HBk
   have HC := HCk
   clear H0k HBk HCk
   refine rd 3 (fun K hK => ?_)
   go_simp
   go_wp2_with fail
   change K _ ((U2).alloc (.cells (rowB B) 76))
   have hbk : Below (U2).heap.size (U2) ((U2).alloc (.cells (rowB B) 76)) := below_alloc _ _
   have HAk : Hid (EA w ((U2).alloc (.cells (rowB B) 76)) (U2).heap.size B) := ⟨alloc_new _ _, H0.out.bel.size⟩
   have H0k := hide (H0.out.keep hbk)
   have HBk := hide (HB.out.keep hbk)
   have HCk := hide (HC.out.keep hbk)
   have hSnew := H0k.out.s
   clear hbk
   clear H0 HB HC
   refine hK.out _ _ hSnew (fun hHeld3 => ?_)
   clear hK K hSnew hHeld
   have hHeld := hHeld3
   clear hHeld3
   try simp only [Act.put, zSt, zS0, zS1]
   obtain ⟨gU3, hgU3⟩ : ∃ g, g = (U2).heap.size := ⟨_, rfl⟩
   obtain ⟨U3, hU3⟩ : ∃ u, u = ((U2).alloc (.cells (rowB B) 76)) := ⟨_, rfl⟩
   rw [← hgU3] at HAk ⊢
   rw [← hU3] at hHeld H0k HBk HCk HAk ⊢
   clear hU3 hgU3
   have H0 := H0k
   have HB := HBk
   have HC := HCk
   have HA := HAk
   clear H0k HBk HCk HAk
   refine tk 7 ?_
   refine rd 8 (fun K hK => ?_)
   go_simp
   go_wp2_with fail
   have hSnew := (H0.out.keep (below_alloc U3 (.cells #[.int .i64 (B : Int), .int .i64 (P : Int), .int .i64 (S : Int), .slice (some ⟨gU3, 0, none⟩) B B, .map (some gU1), .chan (some x.c), .int .i64 x.fa, .int .i64 x.fk, .slice x.ma x.ml x.mc, .int .u8 x.ff, .bool x.hn, .bool false, .int .i64 0, .slice none 0 0] 73))).s
   refine hK.out _ _ hSnew (fun hHeld8 => ?_)
   clear hK K hSnew hHeld
   have hHeld := hHeld8
   clear hHeld8
   try simp only [Act.put, zSt, zS0, zS1]
   refine tk 9 ?_
   refine wpAnyH_done (by kernel_rfl) ?_ _
   exact hrest gU3 gU1 x U3 H0.out HA.out HB.out HC.out
 ·go_simp
  go_at_call 47
  refine (waiting_any _ sa n c fs (HR.out.below H0.out.bel) hn).mono ?_
  rintro e U1 ⟨x, rfl, hq, hbk⟩
  go_wp2_with fail
  have HCk := hide (EC.of (w := w) hq H0.out.bel.size)
  clear hq
  have H0k := hide (H0.out.keep hbk)
  have hSnew := H0k.out.s
  clear hbk
  clear H0
  refine hK.out _ _ hSnew (fun hHeld6 => ?_)
  clear hK K hSnew hHeld
  have hHeld := hHeld6
  clear hHeld6
  try simp only [Act.put, zSt, zS0, zS1]
  have H0 := H0k
  have HC := HCk
  clear H0k HCk
  refine wpAnyH_ready (rs := [3, 4]) (by kernel_rfl) (by simp) ?_
  refine AllReadyH.cons (o := { dst := some 10, op := Op.makeSlice 64 (Operand.tmp 9) (Operand.tmp 9), type := 64, pos := "chip.go:79", after := #[{ on := 2, ground := Ground.data }, { on := 2, ground := Ground.data }], guard := none }) rfl (fun K hK => ?_) (AllReadyH.cons (o := { dst := some 11, op := Op.makeMap 65 none, type := 65, pos := "chip.go:79", after := #[], guard := none }) rfl (fun K hK => ?_) AllReadyH.nil)
  ·go_simp
   go_wp2_with fail
   change K _ ((U1).alloc (.cells (rowB B) 76))
   have hbk : Below (U1).heap.size (U1) ((U1).alloc (.cells (rowB B) 76)) := below_alloc _ _
   have HAk : Hid (EA w ((U1).alloc (.cells (rowB B) 76)) (U1).heap.size B) := ⟨alloc_new _ _, H0.out.bel.size⟩
   have H0k := hide (H0.out.keep hbk)
   have HCk := hide (HC.out.keep hbk)
   have hSnew := H0k.out.s
   clear hbk
   clear H0 HC
   refine hK.out _ _ hSnew (fun hHeld3 => ?_)
   clear hK K hSnew hHeld
   have hHeld := hHeld3
   clear hHeld3
   try simp only [Act.put, zSt, zS0, zS1]
   obtain ⟨gU2, hgU2⟩ : ∃ g, g = (U1).heap.size := ⟨_, rfl⟩
   obtain ⟨U2, hU2⟩ : ∃ u, u = ((U1).alloc (.cells (rowB B) 76)) := ⟨_, rfl⟩
   rw [← hgU2] at HAk ⊢
   rw [← hU2] at hHeld H0k HCk HAk ⊢
   clear hU2 hgU2
   have H0 := H0k
   have HC := HCk
   have HA := HAk
   clear H0k HCk HAk
   refine rd 4 (fun K hK => ?_)
   go_simp
   go_wp2_with fail
   change K _ ((U2).alloc (.map #[] 0))
   have hbk : Below (U2).heap.size (U2) ((U2).alloc (.map #[] 0)) := below_alloc _ _
   have HBk : Hid (EB w ((U2).alloc (.map #[] 0)) (U2).heap.size) := ⟨alloc_new _ _, H0.out.bel.size⟩
   have H0k := hide (H0.out.keep hbk)
   have HCk := hide (HC.out.keep hbk)
   have HAk := hide (HA.out.keep hbk)
   have hSnew := H0k.out.s
   clear hbk
   clear H0 HC HA
   refine hK.out _ _ hSnew (fun hHeld4 => ?_)
   clear hK K hSnew hHeld
   have hHeld := hHeld4
   clear hHeld4
   try simp only [Act.put, zSt, zS0, zS1]
   obtain ⟨gU3, hgU3⟩ : ∃ g, g = (U2).heap.size := ⟨_, rfl⟩
   obtain ⟨U3, hU3⟩ : ∃ u, u = ((U2).alloc (.map #[] 0)) := ⟨_, rfl⟩
   rw [← hgU3] at HBk ⊢
   rw [← hU3] at hHeld H0k HCk HAk HBk ⊢
   clear hU3 hgU3
   have H0 := H0k
   have HC := HCk
   have HA := HAk
   have HB := HBk
   clear H0k HCk HAk HBk
   refine tk 7 ?_
   refine rd 8 (fun K hK => ?_)
   go_simp
   go_wp2_with fail
   have hSnew := (H0.out.keep (below_alloc U3 (.cells #[.int .i64 (B : Int), .int .i64 (P : Int), .int .i64 (S : Int), .slice (some ⟨gU2, 0, none⟩) B B, .map (some gU3), .chan (some x.c), .int .i64 x.fa, .int .i64 x.fk, .slice x.ma x.ml x.mc, .int .u8 x.ff, .bool x.hn, .bool false, .int .i64 0, .slice none 0 0] 73))).s
   refine hK.out _ _ hSnew (fun hHeld8 => ?_)
   clear hK K hSnew hHeld
   have hHeld := hHeld8
   clear hHeld8
   try simp only [Act.put, zSt, zS0, zS1]
   refine tk 9 ?_
   refine wpAnyH_done (by kernel_rfl) ?_ _
   exact hrest gU2 gU3 x U3 H0.out HA.out HB.out HC.out
  ·go_simp
   go_wp2_with fail
   change K _ ((U1).alloc (.map #[] 0))
   have hbk : Below (U1).heap.size (U1) ((U1).alloc (.map #[] 0)) := below_alloc _ _
   have HBk : Hid (EB w ((U1).alloc (.map #[] 0)) (U1).heap.size) := ⟨alloc_new _ _, H0.out.bel.size⟩
   have H0k := hide (H0.out.keep hbk)
   have HCk := hide (HC.out.keep hbk)
   have hSnew := H0k.out.s
   clear hbk
   clear H0 HC
   refine hK.out _ _ hSnew (fun hHeld4 => ?_)
   clear hK K hSnew hHeld
   have hHeld := hHeld4
   clear hHeld4
   try simp only [Act.put, zSt, zS0, zS1]
   obtain ⟨gU2, hgU2⟩ : ∃ g, g = (U1).heap.size := ⟨_, rfl⟩
   obtain ⟨U2, hU2⟩ : ∃ u, u = ((U1).alloc (.map #[] 0)) := ⟨_, rfl⟩
   rw [← hgU2] at HBk ⊢
   rw [← hU2] at hHeld H0k HCk HBk ⊢
   clear hU2 hgU2
   have H0 := H0k
   have HC := HCk
   have HB := HBk
   clear H0k HCk HBk
   refine rd 3 (fun K hK => ?_)
   go_simp
   go_wp2_with fail
   change K _ ((U2).alloc (.cells (rowB B) 76))
   have hbk : Below (U2).heap.size (U2) ((U2).alloc (.cells (rowB B) 76)) := below_alloc _ _
   have HAk : Hid (EA w ((U2).alloc (.cells (rowB B) 76)) (U2).heap.size B) := ⟨alloc_new _ _, H0.out.bel.size⟩
   have H0k := hide (H0.out.keep hbk)
   have HCk := hide (HC.out.keep hbk)
   have HBk := hide (HB.out.keep hbk)
   have hSnew := H0k.out.s
   clear hbk
   clear H0 HC HB
   refine hK.out _ _ hSnew (fun hHeld3 => ?_)
   clear hK K hSnew hHeld
   have hHeld := hHeld3
   clear hHeld3
   try simp only [Act.put, zSt, zS0, zS1]
   obtain ⟨gU3, hgU3⟩ : ∃ g, g = (U2).heap.size := ⟨_, rfl⟩
   obtain ⟨U3, hU3⟩ : ∃ u, u = ((U2).alloc (.cells (rowB B) 76)) := ⟨_, rfl⟩
   rw [← hgU3] at HAk ⊢
   rw [← hU3] at hHeld H0k HCk HBk HAk ⊢
   clear hU3 hgU3
   have H0 := H0k
   have HC := HCk
   have HB := HBk
   have HA := HAk
   clear H0k HCk HBk HAk
   refine tk 7 ?_
   refine rd 8 (fun K hK => ?_)
   go_simp
   go_wp2_with fail
   have hSnew := (H0.out.keep (below_alloc U3 (.cells #[.int .i64 (B : Int), .int .i64 (P : Int), .int .i64 (S : Int), .slice (some ⟨gU3, 0, none⟩) B B, .map (some gU2), .chan (some x.c), .int .i64 x.fa, .int .i64 x.fk, .slice x.ma x.ml x.mc, .int .u8 x.ff, .bool x.hn, .bool false, .int .i64 0, .slice none 0 0] 73))).s
   refine hK.out _ _ hSnew (fun hHeld8 => ?_)
   clear hK K hSnew hHeld
   have hHeld := hHeld8
   clear hHeld8
   try simp only [Act.put, zSt, zS0, zS1]
   refine tk 9 ?_
   refine wpAnyH_done (by kernel_rfl) ?_ _
   exact hrest gU3 gU2 x U3 H0.out HA.out HB.out HC.out
end Go.Proofs.YtnmnhgagnfodhaaDoor.Cp
