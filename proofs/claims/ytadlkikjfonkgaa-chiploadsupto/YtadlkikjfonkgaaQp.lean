/-
  SEAT Ytadlkikjfonkgaa: Ec, Eb, Ne.
-/
import Derived.Test.YtadlkikjfonkgaaQo
import Derived.Test.YtadlkikjfonkgaaQa
namespace Go.Proofs.Ytadlkikjfonkgaa
open Go.RowKit Go.Conc
set_option linter.unusedVariables false
set_option maxRecDepth 100000
set_option maxHeartbeats 4000000
variable {w u U V w' : World} {gb gm B P S m : Nat} {x : Bx} {q : List Ft} {bs : List Bc} {a : Option Addr} {zs : List Int}
theorem cells_len4 (bs : List Bc) : (bs.flatMap Bc.cells).length = bs.length * 4 := by
 induction bs with
 | nil => rfl
 | cons b r ih => rw [List.flatMap_cons, List.length_append, ih, List.length_cons]; show 4 + _ = _; omega
def rowM (bs : List Bc) (k : Nat) : List Value := bs.flatMap Bc.cells ++ (List.replicate k z4).flatMap id
theorem rowM_get (bs : List Bc) (k : Nat) : (rowM bs (k + 1))[bs.length * 4 + 3]? = some (.slice none 0 0) := by
 unfold rowM
 rw [List.getElem?_append_right (by rw [cells_len4]; omega), cells_len4, List.replicate_succ, List.flatMap_cons]
 rw [show bs.length * 4 + 3 - bs.length * 4 = 3 by omega]
 rfl
theorem rowM_set (bs : List Bc) (k g P : Nat) (ps : List Pc) (hp : ps.length = P) : (rowM bs (k + 1)).set (bs.length * 4 + 3) (.slice (some ⟨g, 0, none⟩) P P) = rowM (bs ++ [⟨false, false, 0, g, ps⟩]) k := by
 unfold rowM
 rw [List.set_append_right _ _ (by rw [cells_len4]; omega), cells_len4, List.replicate_succ, List.flatMap_cons, show bs.length * 4 + 3 - bs.length * 4 = 3 by omega, List.flatMap_append, List.append_assoc]
 congr 1
 subst hp
 rfl
def bl0 (P L : Nat) : Bl := ⟨false, false, 0, List.replicate P ⟨List.replicate L 255, false⟩⟩
structure EL (w u : World) (p gb gm : Nat) (x y : Bx) (B P S : Nat) (q : List Ft) (m : Nat) (bs : List Bc) : Prop where
 e0 : Below w.heap.size w u
 bx : u.heap[w.heap.size]? = some (.cells #[.int .i64 (B : Int), .int .i64 (P : Int), .int .i64 (S : Int)] 23 (0, 0))
 box : y.at u p
 hp : w.heap.size ≤ p
 row : u.heap[gb]? = some (.cells (rowM bs (B - m)).toArray 106 (0, 0))
 hgb : w.heap.size ≤ gb
 map : u.heap[gm]? = some (.map #[] 0)
 hgm : w.heap.size ≤ gm
 scr : QAt u (fun k => w.heap.size ≤ k ∧ k < u.heap.size) x q
 ok : ∀ b ∈ bs, BcOk u (fun k => w.heap.size ≤ k ∧ k < u.heap.size) (pgB S) P b
 len : bs.length = m
 vs : bs.map Bc.v = List.replicate m (bl0 P (pgB S))
 gs : bs.Pairwise (fun b c => b.g ≠ c.g)
theorem pc0_ok (w : World) (F : Nat → Prop) (L : Nat) : PcOk w F L (pc0 L) := ⟨by simp [pc0], fun y hy => by have := (List.mem_replicate.1 hy).2; omega, Or.inl ⟨rfl, rfl, rfl, rfl⟩⟩
theorem EL.step {p : Nat} {y : Bx} (h : EL w u p gb gm x y B P S q m bs) (hm : m < B) :
  EL w ((u.drew.alloc (.cells (rowP P) 108)).setCell ⟨gb, m * 4 + 3, none⟩ (.slice (some ⟨u.heap.size, 0, none⟩) P P)) p gb gm x y B P S q (m + 1) (bs ++ [⟨false, false, 0, u.heap.size, List.replicate P (pc0 (pgB S))⟩]) := by
 have hB1 : Below u.heap.size u (u.drew.alloc (.cells (rowP P) 108)) := below_trans (drew_below u) (below_alloc _ _)
 have hnew : (u.drew.alloc (.cells (rowP P) 108)).heap[u.heap.size]? = some (.cells (rowP P) 108 (0, 0)) := alloc_new u.drew _
 have hrow1 := (hB1.block _ (lt_of_block h.row)).trans h.row
 obtain ⟨V, hV⟩ : ∃ V, V = u.drew.alloc (.cells (rowP P) 108) := ⟨_, rfl⟩
 rw [← hV] at hB1 hnew hrow1 ⊢
 clear hV
 have hrow2 := heap_setCell_same V gb (m * 4 + 3) _ 106 (.slice (some ⟨u.heap.size, 0, none⟩) P P) hrow1
 have hO := Only.setCell (· = gb) V gb (m * 4 + 3) (.slice (some ⟨u.heap.size, 0, none⟩) P P) rfl
 obtain ⟨Z, hZ⟩ : ∃ Z, Z = V.setCell ⟨gb, m * 4 + 3, none⟩ (.slice (some ⟨u.heap.size, 0, none⟩) P P) := ⟨_, rfl⟩
 rw [← hZ] at hrow2 hO ⊢
 clear hZ
 have hU : Only (· = gb) u Z := (Only.ofB hB1).trans hO (fun _ _ h => h)
 have hgl := lt_of_block h.row
 have hnl := lt_of_block hnew
 have hT : ∀ F, KeepT F (· = 106) u Z := fun F => hU.keepT (fun k o t hk ho ht => by
  rw [hk, h.row] at ho
  cases ho
  exact ht.symm)
 have hF : ∀ k, (w.heap.size ≤ k ∧ k < u.heap.size) → (w.heap.size ≤ k ∧ k < Z.heap.size) := fun k hk => ⟨hk.1, Nat.lt_of_lt_of_le hk.2 hU.size⟩
 have hl := h.len
 refine ⟨?_, ?_, ?_, h.hp, ?_, h.hgb, ?_, h.hgm, ?_, ?_, ?_, ?_, ?_⟩
 ·exact ((Only.ofB (F := fun k => w.heap.size ≤ k) h.e0).trans hU (fun k _ e => by rw [e]; exact h.hgb)).below (fun _ h => h) (Nat.le_refl _)
 ·exact hT (fun _ => True) _ _ 23 trivial h.bx rfl (by decide)
 ·exact hT (fun _ => True) _ _ 102 trivial h.box rfl (by decide)
 ·rw [hrow2, List.setIfInBounds_toArray, show B - m = (B - (m + 1)) + 1 by omega, ← hl, rowM_set bs _ u.heap.size P (List.replicate P (pc0 (pgB S))) (by simp)]
 ·exact hT (fun _ => True) _ _ 1001 trivial h.map rfl (by decide)
 ·exact h.scr.keep (hT _) (by decide) (by decide) hF ⟨rfl, rfl, rfl, rfl, rfl, rfl, rfl⟩ rfl
 ·intro b hb
  rcases List.mem_append.1 hb with h1 | h1
  ·exact (h.ok b h1).keep (hT _) (by decide) hF ((hT (fun _ => True) _ _ 108 trivial (h.ok b h1).row rfl (by decide)).trans (h.ok b h1).row.symm)
  ·simp at h1
   subst h1
   refine ⟨?_, ⟨h.e0.size, Nat.lt_of_lt_of_le hnl hO.size⟩, by simp, fun c hc => ?_⟩
   ·rw [← pages0 (pgB S) P]
    exact (hO.block _ hnl (by omega)).trans hnew
   ·rw [(List.mem_replicate.1 hc).2]
    exact pc0_ok _ _ _
 ·simp [hl]
 ·rw [List.map_append, h.vs, List.replicate_succ']
  congr 1
  simp [Bc.v, bl0, Pc.v, pc0]
 ·rw [List.pairwise_append]
  refine ⟨h.gs, by simp, fun a ha c hc => ?_⟩
  simp at hc
  subst hc
  have := (h.ok a ha).fg.2
  show a.g ≠ u.heap.size
  omega
def emptyC (B P S : Nat) (q : List Ft) : Ch := ⟨B, P, S, List.replicate B (bl0 P (pgB S)), fun _ _ => [], q, false, 0, []⟩
def boxY (x : Bx) (B P S gb gm : Nat) : Bx := { x with B := B, P := P, S := S, gb := gb, nb := B, gm := gm, dark := false, cnt := 0, ta := none, tl := 0, tc := 0 }
theorem EL.chip {p : Nat} (h : EL w u p gb gm x (boxY x B P S gb gm) B P S q B bs) :
  CAt u p (fun k => w.heap.size ≤ k ∧ k < u.heap.size) (emptyC B P S q) (boxY x B P S gb gm) bs [] := by
 refine ⟨h.box, ⟨h.hp, lt_of_block h.box⟩, rfl, rfl, rfl, h.len.symm, rfl, rfl, ?_, ⟨h.hgb, lt_of_block h.row⟩, h.vs, h.ok, h.gs, ⟨⟨#[], 0, h.map, rfl, ⟨fun e he => by simp at he, by simp⟩⟩, ⟨h.hgm, lt_of_block h.map⟩, List.Pairwise.nil, List.Pairwise.nil, fun f hf => by cases hf⟩, fun _ _ => rfl, h.scr.keep (T := fun _ => False) (KeepT.of (fun _ _ => rfl) _) (fun h => h) (fun h => h) (fun _ h => h) ⟨rfl, rfl, rfl, rfl, rfl, rfl, rfl⟩ rfl, ⟨World.ownsRow_nil _ _ _ _, rfl, fun g hg => by cases hg⟩, fun k hk => hk.2⟩
 have hr := h.row
 rw [Nat.sub_self] at hr
 unfold rowM at hr
 simp at hr
 show u.heap[gb]? = _
 rw [hr]
structure E0 (w U : World) (B P S : Nat) : Prop where
 bel : Below w.heap.size w U
 bx : U.heap[w.heap.size]? = some (.cells #[.int .i64 (B : Int), .int .i64 (P : Int), .int .i64 (S : Int)] 23 (0, 0))
def EA (w U : World) (gb B : Nat) : Prop := U.heap[gb]? = some (.cells (rowB B) 106 (0, 0)) ∧ w.heap.size ≤ gb
def EB (w U : World) (gm : Nat) : Prop := U.heap[gm]? = some (.map #[] 0) ∧ w.heap.size ≤ gm
def EC (w U : World) (x : Bx) (q : List Ft) : Prop := QAt U (fun k => w.heap.size ≤ k ∧ k < U.heap.size) x q
theorem E0.keep (h : E0 w U B P S) (hb : Below U.heap.size U V) : E0 w V B P S := ⟨h.bel.trans (hb.mono h.bel.size), (hb.block _ (lt_of_block h.bx)).trans h.bx⟩
theorem EA.keep (h : EA w U gb B) (hb : Below U.heap.size U V) : EA w V gb B := ⟨(hb.block _ (lt_of_block h.1)).trans h.1, h.2⟩
theorem EB.keep (h : EB w U gm) (hb : Below U.heap.size U V) : EB w V gm := ⟨(hb.block _ (lt_of_block h.1)).trans h.1, h.2⟩
theorem EC.keep (h : EC w U x q) (hb : Below U.heap.size U V) : EC w V x q :=
 QAt.keep (T := fun _ => False) h (KeepT.of (fun k hk => hb.block k hk.2) _) (fun h => h) (fun h => h) (fun k hk => ⟨hk.1, Nat.lt_of_lt_of_le hk.2 hb.size⟩) ⟨rfl, rfl, rfl, rfl, rfl, rfl, rfl⟩ rfl
theorem EC.of (h : QAt V (fun k => U.heap.size ≤ k ∧ k < V.heap.size) x q) (hb : w.heap.size ≤ U.heap.size) : EC w V x q :=
 QAt.keep (T := fun _ => False) h (KeepT.of (fun k hk => rfl) _) (fun h => h) (fun h => h) (fun k hk => ⟨Nat.le_trans hb hk.1, hk.2⟩) ⟨rfl, rfl, rfl, rfl, rfl, rfl, rfl⟩ rfl
theorem E0.s (h : E0 w U B P S) : U.cell? ⟨w.heap.size, 0, none⟩ = some (.int .i64 (B : Int)) ∧ U.cell? ⟨w.heap.size, 1, none⟩ = some (.int .i64 (P : Int)) ∧ U.cell? ⟨w.heap.size, 2, none⟩ = some (.int .i64 (S : Int)) := by
 have hb := h.bx
 refine ⟨?_, ?_, ?_⟩ <;> simp [World.cell?, hb]
theorem ReadsF.below {len : Nat} {fs : List Fc} (h : ReadsF w a len fs) (hb : Below w.heap.size w w') : ReadsF w' a len fs :=
 ⟨h.1, fun c hc => ⟨(h.2.1 c hc).rd.below hb, (h.2.1 c hc).le, (h.2.1 c hc).cap, (h.2.1 c hc).fill, (h.2.1 c hc).a, (h.2.1 c hc).k⟩, h.2.2.1, fun x hx i hi j hj => (hb.cell (block_lt_of_cell (h.2.2.2 x hx i hi j hj))).trans (h.2.2.2 x hx i hi j hj)⟩
theorem el_start (h0 : E0 w U B P S) (ha : EA w U gb B) (hb : EB w U gm) (hc : EC w U x q) :
  EL w (U.alloc (.cells #[.int .i64 (B : Int), .int .i64 (P : Int), .int .i64 (S : Int), .slice (some ⟨gb, 0, none⟩) B B, .map (some gm), .chan (some x.c), .int .i64 x.fa, .int .i64 x.fk, .slice x.ma x.ml x.mc, .int .u8 x.ff, .bool x.hn, .bool false, .int .i64 0, .slice none 0 0] 102)) U.heap.size gb gm x (boxY x B P S gb gm) B P S q 0 [] := by
 have hk := below_alloc U (.cells #[.int .i64 (B : Int), .int .i64 (P : Int), .int .i64 (S : Int), .slice (some ⟨gb, 0, none⟩) B B, .map (some gm), .chan (some x.c), .int .i64 x.fa, .int .i64 x.fk, .slice x.ma x.ml x.mc, .int .u8 x.ff, .bool x.hn, .bool false, .int .i64 0, .slice none 0 0] 102)
 exact ⟨(h0.keep hk).bel, (h0.keep hk).bx, alloc_new _ _, h0.bel.size, (ha.keep hk).1, ha.2, (hb.keep hk).1, hb.2, hc.keep hk, (fun b hb => by cases hb), rfl, rfl, List.Pairwise.nil⟩
theorem EL.s {p : Nat} (h : EL w u p gb gm x (boxY x B P S gb gm) B P S q m bs) : u.cell? ⟨p, 3, none⟩ = some (.slice (some ⟨gb, 0, none⟩) B B) ∧ u.cell? ⟨w.heap.size, 1, none⟩ = some (.int .i64 (P : Int)) := by
 have hb := h.bx
 exact ⟨h.box.c3, by simp [World.cell?, hb]⟩
theorem e5_keep {u' : World} {p : Nat} (h : u.cell? ⟨p, 3, none⟩ = some (.slice (some ⟨gb, 0, none⟩) B B) ∧ u.cell? ⟨w.heap.size, 1, none⟩ = some (.int .i64 (P : Int))) (hb : Below u.heap.size u u') : u'.cell? ⟨p, 3, none⟩ = some (.slice (some ⟨gb, 0, none⟩) B B) ∧ u'.cell? ⟨w.heap.size, 1, none⟩ = some (.int .i64 (P : Int)) :=
 ⟨(hb.cell (block_lt_of_cell h.1)).trans h.1, (hb.cell (block_lt_of_cell h.2)).trans h.2⟩
theorem row_cell (h : u.heap[gb]? = some (.cells (rowM bs (B - m)).toArray 106 (0, 0))) (hl : bs.length = m) (hm : m < B) : u.cell? ⟨gb, m * 4 + 3, none⟩ = some (.slice none 0 0) := by
 rw [show B - m = (B - (m + 1)) + 1 by omega] at h
 have h1 := rowM_get bs (B - (m + 1))
 rw [hl] at h1
 simp [World.cell?, h, h1]
theorem empty_any (w : World) (B P S : Nat) (hB : B ≤ 4096) (hP : P ≤ 4096) (sa : Option Addr) (n c : Nat) (fs : List Fc) (hR : ReadsF w sa n fs) (hn : n ≤ 4096) :
  Calls Try.prog 48 #[.agg #[.int .i64 (B : Int), .int .i64 (P : Int), .int .i64 (S : Int)], .slice sa n c] w fun e w' => ∃ p, e = .returned (.pointer (some ⟨p, 0, none⟩)) ∧ ChipAt w' p (fun k => w.heap.size ≤ k ∧ k < w'.heap.size) (emptyC B P S (fs.map Fc.t)) ∧ Below w.heap.size w w' := by
 have hmk := fun w => mk96 w B hB
 have hmk2 := fun w => mk104 w P hP
 have HR := J hR
 clear hR
 have H0 : Hid (E0 w (w.alloc (.cells #[.int .i64 (B : Int), .int .i64 (P : Int), .int .i64 (S : Int)] 23)).drew B P S) := ⟨below_trans (below_alloc _ _) (drew_below _), alloc_new _ _⟩
 go_enter Try.func48, Try.ntmps48
 go_wp2
 rename_i K0 hK0
 have hrest : ∀ (gb gm : Nat) (x : Bx) (U : World), E0 w U B P S → EA w U gb B → EB w U gm → EC w U x (fs.map Fc.t) → K0 { tmps := #[.agg #[.int .i64 (B : Int), .int .i64 (P : Int), .int .i64 (S : Int)], .slice sa n c, .pointer (some ⟨w.heap.size, 0, none⟩), undef, .pointer none, .pointer (some ⟨U.heap.size, 0, none⟩), undef, .agg #[.int .i64 (B : Int), .int .i64 (P : Int), .int .i64 (S : Int)], .pointer (some ⟨w.heap.size, 0, none⟩), .int .i64 (B : Int), .slice (some ⟨gb, 0, none⟩) B B, .map (some gm), .slice sa n c, .agg #[.chan (some x.c), .int .i64 x.fa, .int .i64 x.fk, .slice x.ma x.ml x.mc, .int .u8 x.ff, .bool x.hn], .agg #[.int .i64 (B : Int), .int .i64 (P : Int), .int .i64 (S : Int), .slice (some ⟨gb, 0, none⟩) B B, .map (some gm), .chan (some x.c), .int .i64 x.fa, .int .i64 x.fk, .slice x.ma x.ml x.mc, .int .u8 x.ff, .bool x.hn, .bool false, .int .i64 0, .slice none 0 0], .pointer (some ⟨U.heap.size, 0, none⟩), undef, undef, undef, undef, undef, undef, undef, undef, undef, undef, undef, undef, undef, undef, undef, undef, undef, undef, undef, undef], defers := [] } (U.alloc (.cells #[.int .i64 (B : Int), .int .i64 (P : Int), .int .i64 (S : Int), .slice (some ⟨gb, 0, none⟩) B B, .map (some gm), .chan (some x.c), .int .i64 x.fa, .int .i64 x.fk, .slice x.ma x.ml x.mc, .int .u8 x.ff, .bool x.hn, .bool false, .int .i64 0, .slice none 0 0] 102)) := by
  intro gb gm x U h0 ha hb hc
  have HL := J (el_start h0 ha hb hc)
  obtain ⟨p, hp⟩ : ∃ p, p = U.heap.size := ⟨_, rfl⟩
  refine hK0 _ _ ?_
  clear hK0
  obtain ⟨V, hV⟩ : ∃ V, V = U.alloc (.cells #[.int .i64 (B : Int), .int .i64 (P : Int), .int .i64 (S : Int), .slice (some ⟨gb, 0, none⟩) B B, .map (some gm), .chan (some x.c), .int .i64 x.fa, .int .i64 x.fk, .slice x.ma x.ml x.mc, .int .u8 x.ff, .bool x.hn, .bool false, .int .i64 0, .slice none 0 0] 102) := ⟨_, rfl⟩
  rw [← hV] at HL ⊢
  rw [← hp] at HL ⊢
  clear hV hp h0 ha hb hc
  obtain ⟨a0, a1⟩ := HL.out.s
  go_wp2
  clear a0 a1
  go_loopw [6, 21] (fun s6 s21 wr => ∃ (m : Nat) (bs : List Bc), m ≤ B ∧ s21 = .int .i64 m ∧ Hid (EL w wr p gb gm x (boxY x B P S gb gm) B P S (fs.map Fc.t) m bs)) (fun s6 s21 _ => B - (intOf s21).toNat)
  case atStart => exact ⟨0, [], Nat.zero_le _, rfl, HL⟩
  case round =>
   obtain ⟨m, bs, hm, rfl, HE⟩ := hrel
   by_cases hlt : m < B
   ·have dm : decide ((m : Int) < (B : Int)) = true := decide_eq_true (by omega)
    have m1 : (m : Int) < (B : Int) := by omega
    go_wp2
    refine wp_region_held_drew (S := (fun u => u.cell? ⟨p, 3, none⟩ = some (.slice (some ⟨gb, 0, none⟩) B B) ∧ u.cell? ⟨w.heap.size, 1, none⟩ = some (.int .i64 (P : Int)))) (by kernel_rfl) (HE.out.s) fun O => ?_
    refine tk 0 ?_
    refine tk 1 ?_
    refine tk 2 ?_
    refine tk 3 ?_
    refine tk 4 ?_
    refine tk 5 ?_
    refine tk 6 ?_
    refine rd 7 fun K N => ?_
    go_simp
    go_wp2_with fail
    change K _ (wr.drew.alloc (.cells (rowP P) 108))
    have hb7 : Below wr.heap.size wr (wr.drew.alloc (.cells (rowP P) 108)) := below_trans (drew_below _) (below_alloc _ _)
    have hZ := e5_keep HE.out.s hb7
    have HST := J (HE.out.step hlt)
    have HR7 := J ((hb7.block _ (lt_of_block HE.out.row)).trans HE.out.row)
    clear hb7
    clear O
    refine N.out _ _ hZ fun O => ?_
    clear N K hZ
    try simp only [zz]
    obtain ⟨V7, hV7⟩ : ∃ V, V = wr.drew.alloc (.cells (rowP P) 108) := ⟨_, rfl⟩
    rw [← hV7] at O HST HR7 ⊢
    clear hV7
    have z3 := row_cell HR7.out HE.out.len hlt
    have fzr := fun j => frozen_of_row V7 gb j _ 106 HR7.out
    refine tk 8 ?_
    refine tk 9 ?_
    refine rd 10 fun K N => ?_
    go_simp
    go_wp2_with fail
    have hZ := HST.out.s
    clear O
    refine N.out _ _ hZ fun O => ?_
    clear N K hZ
    try simp only [zz]
    refine td ?_
    clear O
    go_wp2
    exact ⟨⟨m + 1, _, hlt, by simp, HST⟩, by simp [intOf]; omega⟩
   ·have dm : decide ((m : Int) < (B : Int)) = false := decide_eq_false (by omega)
    go_wp2
    go_ret
    have em : m = B := by omega
    subst em
    exact ⟨p, rfl, ⟨_, _, _, HE.out.chip⟩, HE.out.e0⟩
 clear hK0
 refine wp_region_held_drew (S := (fun u => u.cell? ⟨w.heap.size, 0, none⟩ = some (.int .i64 (B : Int)) ∧ u.cell? ⟨w.heap.size, 1, none⟩ = some (.int .i64 (P : Int)) ∧ u.cell? ⟨w.heap.size, 2, none⟩ = some (.int .i64 (S : Int)))) (by kernel_rfl) (H0.out.s) fun O => ?_
 refine tk 0 ?_
 refine tk 1 ?_
 refine tk 2 ?_
 refine tk 5 ?_
 obtain ⟨U0, hU0⟩ : ∃ u, u = (w.alloc (.cells #[.int .i64 (B : Int), .int .i64 (P : Int), .int .i64 (S : Int)] 23)).drew := ⟨_, rfl⟩
 rw [← hU0] at O H0 ⊢
 clear hU0
 refine wpAnyH_ready (rs := [3, 4, 6]) (by kernel_rfl) (by simp) ?_
 refine AllReadyH.cons (o := { dst := some 10, op := Op.makeSlice 96 (Operand.tmp 9) (Operand.tmp 9), type := 96, pos := "chip.go:79", after := #[{ on := 2, ground := Ground.data }, { on := 2, ground := Ground.data }], guard := none }) rfl (fun K N => ?_) (AllReadyH.cons (o := { dst := some 11, op := Op.makeMap 97 none, type := 97, pos := "chip.go:79", after := #[], guard := none }) rfl (fun K N => ?_) (AllReadyH.cons (o := { dst := some 13, op := Op.call { callee := Callee.value (Operand.func 84), args := #[Operand.tmp 12], argTypes := #[49] }, type := 100, pos := "chip.go:83", after := #[{ on := 5, ground := Ground.data }], guard := none }) rfl (fun K N => ?_) AllReadyH.nil))
 ·go_simp
  go_wp2_with fail
  change K _ ((U0).alloc (.cells (rowB B) 106))
  have hbk : Below (U0).heap.size (U0) ((U0).alloc (.cells (rowB B) 106)) := below_alloc _ _
  have HAk : Hid (EA w ((U0).alloc (.cells (rowB B) 106)) (U0).heap.size B) := ⟨alloc_new _ _, H0.out.bel.size⟩
  have H0k := J (H0.out.keep hbk)
  have hZ := H0k.out.s
  clear hbk
  clear H0
  clear O
  refine N.out _ _ hZ fun O => ?_
  clear N K hZ
  try simp only [zz]
  obtain ⟨gU1, hgU1⟩ : ∃ g, g = (U0).heap.size := ⟨_, rfl⟩
  obtain ⟨U1, hU1⟩ : ∃ u, u = ((U0).alloc (.cells (rowB B) 106)) := ⟨_, rfl⟩
  rw [← hgU1] at HAk ⊢
  rw [← hU1] at O H0k HAk ⊢
  clear hU1 hgU1
  have H0 := H0k
  have HA := HAk
  clear H0k HAk
  refine wpAnyH_ready (rs := [4, 6]) (by kernel_rfl) (by simp) ?_
  refine AllReadyH.cons (o := { dst := some 11, op := Op.makeMap 97 none, type := 97, pos := "chip.go:79", after := #[], guard := none }) rfl (fun K N => ?_) (AllReadyH.cons (o := { dst := some 13, op := Op.call { callee := Callee.value (Operand.func 84), args := #[Operand.tmp 12], argTypes := #[49] }, type := 100, pos := "chip.go:83", after := #[{ on := 5, ground := Ground.data }], guard := none }) rfl (fun K N => ?_) AllReadyH.nil)
  ·go_simp
   go_wp2_with fail
   change K _ ((U1).alloc (.map #[] 0))
   have hbk : Below (U1).heap.size (U1) ((U1).alloc (.map #[] 0)) := below_alloc _ _
   have HBk : Hid (EB w ((U1).alloc (.map #[] 0)) (U1).heap.size) := ⟨alloc_new _ _, H0.out.bel.size⟩
   have H0k := J (H0.out.keep hbk)
   have HAk := J (HA.out.keep hbk)
   have hZ := H0k.out.s
   clear hbk
   clear H0 HA
   clear O
   refine N.out _ _ hZ fun O => ?_
   clear N K hZ
   try simp only [zz]
   obtain ⟨gU2, hgU2⟩ : ∃ g, g = (U1).heap.size := ⟨_, rfl⟩
   obtain ⟨U2, hU2⟩ : ∃ u, u = ((U1).alloc (.map #[] 0)) := ⟨_, rfl⟩
   rw [← hgU2] at HBk ⊢
   rw [← hU2] at O H0k HAk HBk ⊢
   clear hU2 hgU2
   have H0 := H0k
   have HA := HAk
   have HB := HBk
   clear H0k HAk HBk
   refine rd 6 fun K N => ?_
   go_simp
   go_at_call 84
   refine (waiting_any _ sa n c fs (HR.out.below H0.out.bel) hn).mono ?_
   rintro e U3 ⟨x, rfl, hq, hbk⟩
   go_wp2_with fail
   have HCk := J (EC.of (w := w) hq H0.out.bel.size)
   clear hq
   have H0k := J (H0.out.keep hbk)
   have HAk := J (HA.out.keep hbk)
   have HBk := J (HB.out.keep hbk)
   have hZ := H0k.out.s
   clear hbk
   clear H0 HA HB
   clear O
   refine N.out _ _ hZ fun O => ?_
   clear N K hZ
   try simp only [zz]
   have H0 := H0k
   have HA := HAk
   have HB := HBk
   have HC := HCk
   clear H0k HAk HBk HCk
   refine tk 7 ?_
   refine rd 8 fun K N => ?_
   go_simp
   go_wp2_with fail
   have hZ := (H0.out.keep (below_alloc U3 (.cells #[.int .i64 (B : Int), .int .i64 (P : Int), .int .i64 (S : Int), .slice (some ⟨gU1, 0, none⟩) B B, .map (some gU2), .chan (some x.c), .int .i64 x.fa, .int .i64 x.fk, .slice x.ma x.ml x.mc, .int .u8 x.ff, .bool x.hn, .bool false, .int .i64 0, .slice none 0 0] 102))).s
   clear O
   refine N.out _ _ hZ fun O => ?_
   clear N K hZ
   try simp only [zz]
   refine tk 9 ?_
   refine td ?_
   exact hrest gU1 gU2 x U3 H0.out HA.out HB.out HC.out
  ·go_simp
   go_at_call 84
   refine (waiting_any _ sa n c fs (HR.out.below H0.out.bel) hn).mono ?_
   rintro e U2 ⟨x, rfl, hq, hbk⟩
   go_wp2_with fail
   have HCk := J (EC.of (w := w) hq H0.out.bel.size)
   clear hq
   have H0k := J (H0.out.keep hbk)
   have HAk := J (HA.out.keep hbk)
   have hZ := H0k.out.s
   clear hbk
   clear H0 HA
   clear O
   refine N.out _ _ hZ fun O => ?_
   clear N K hZ
   try simp only [zz]
   have H0 := H0k
   have HA := HAk
   have HC := HCk
   clear H0k HAk HCk
   refine rd 4 fun K N => ?_
   go_simp
   go_wp2_with fail
   change K _ ((U2).alloc (.map #[] 0))
   have hbk : Below (U2).heap.size (U2) ((U2).alloc (.map #[] 0)) := below_alloc _ _
   have HBk : Hid (EB w ((U2).alloc (.map #[] 0)) (U2).heap.size) := ⟨alloc_new _ _, H0.out.bel.size⟩
   have H0k := J (H0.out.keep hbk)
   have HAk := J (HA.out.keep hbk)
   have HCk := J (HC.out.keep hbk)
   have hZ := H0k.out.s
   clear hbk
   clear H0 HA HC
   clear O
   refine N.out _ _ hZ fun O => ?_
   clear N K hZ
   try simp only [zz]
   obtain ⟨gU3, hgU3⟩ : ∃ g, g = (U2).heap.size := ⟨_, rfl⟩
   obtain ⟨U3, hU3⟩ : ∃ u, u = ((U2).alloc (.map #[] 0)) := ⟨_, rfl⟩
   rw [← hgU3] at HBk ⊢
   rw [← hU3] at O H0k HAk HCk HBk ⊢
   clear hU3 hgU3
   have H0 := H0k
   have HA := HAk
   have HC := HCk
   have HB := HBk
   clear H0k HAk HCk HBk
   refine tk 7 ?_
   refine rd 8 fun K N => ?_
   go_simp
   go_wp2_with fail
   have hZ := (H0.out.keep (below_alloc U3 (.cells #[.int .i64 (B : Int), .int .i64 (P : Int), .int .i64 (S : Int), .slice (some ⟨gU1, 0, none⟩) B B, .map (some gU3), .chan (some x.c), .int .i64 x.fa, .int .i64 x.fk, .slice x.ma x.ml x.mc, .int .u8 x.ff, .bool x.hn, .bool false, .int .i64 0, .slice none 0 0] 102))).s
   clear O
   refine N.out _ _ hZ fun O => ?_
   clear N K hZ
   try simp only [zz]
   refine tk 9 ?_
   refine td ?_
   exact hrest gU1 gU3 x U3 H0.out HA.out HB.out HC.out
 ·go_simp
  go_wp2_with fail
  change K _ ((U0).alloc (.map #[] 0))
  have hbk : Below (U0).heap.size (U0) ((U0).alloc (.map #[] 0)) := below_alloc _ _
  have HBk : Hid (EB w ((U0).alloc (.map #[] 0)) (U0).heap.size) := ⟨alloc_new _ _, H0.out.bel.size⟩
  have H0k := J (H0.out.keep hbk)
  have hZ := H0k.out.s
  clear hbk
  clear H0
  clear O
  refine N.out _ _ hZ fun O => ?_
  clear N K hZ
  try simp only [zz]
  obtain ⟨gU1, hgU1⟩ : ∃ g, g = (U0).heap.size := ⟨_, rfl⟩
  obtain ⟨U1, hU1⟩ : ∃ u, u = ((U0).alloc (.map #[] 0)) := ⟨_, rfl⟩
  rw [← hgU1] at HBk ⊢
  rw [← hU1] at O H0k HBk ⊢
  clear hU1 hgU1
  have H0 := H0k
  have HB := HBk
  clear H0k HBk
  refine wpAnyH_ready (rs := [3, 6]) (by kernel_rfl) (by simp) ?_
  refine AllReadyH.cons (o := { dst := some 10, op := Op.makeSlice 96 (Operand.tmp 9) (Operand.tmp 9), type := 96, pos := "chip.go:79", after := #[{ on := 2, ground := Ground.data }, { on := 2, ground := Ground.data }], guard := none }) rfl (fun K N => ?_) (AllReadyH.cons (o := { dst := some 13, op := Op.call { callee := Callee.value (Operand.func 84), args := #[Operand.tmp 12], argTypes := #[49] }, type := 100, pos := "chip.go:83", after := #[{ on := 5, ground := Ground.data }], guard := none }) rfl (fun K N => ?_) AllReadyH.nil)
  ·go_simp
   go_wp2_with fail
   change K _ ((U1).alloc (.cells (rowB B) 106))
   have hbk : Below (U1).heap.size (U1) ((U1).alloc (.cells (rowB B) 106)) := below_alloc _ _
   have HAk : Hid (EA w ((U1).alloc (.cells (rowB B) 106)) (U1).heap.size B) := ⟨alloc_new _ _, H0.out.bel.size⟩
   have H0k := J (H0.out.keep hbk)
   have HBk := J (HB.out.keep hbk)
   have hZ := H0k.out.s
   clear hbk
   clear H0 HB
   clear O
   refine N.out _ _ hZ fun O => ?_
   clear N K hZ
   try simp only [zz]
   obtain ⟨gU2, hgU2⟩ : ∃ g, g = (U1).heap.size := ⟨_, rfl⟩
   obtain ⟨U2, hU2⟩ : ∃ u, u = ((U1).alloc (.cells (rowB B) 106)) := ⟨_, rfl⟩
   rw [← hgU2] at HAk ⊢
   rw [← hU2] at O H0k HBk HAk ⊢
   clear hU2 hgU2
   have H0 := H0k
   have HB := HBk
   have HA := HAk
   clear H0k HBk HAk
   refine rd 6 fun K N => ?_
   go_simp
   go_at_call 84
   refine (waiting_any _ sa n c fs (HR.out.below H0.out.bel) hn).mono ?_
   rintro e U3 ⟨x, rfl, hq, hbk⟩
   go_wp2_with fail
   have HCk := J (EC.of (w := w) hq H0.out.bel.size)
   clear hq
   have H0k := J (H0.out.keep hbk)
   have HBk := J (HB.out.keep hbk)
   have HAk := J (HA.out.keep hbk)
   have hZ := H0k.out.s
   clear hbk
   clear H0 HB HA
   clear O
   refine N.out _ _ hZ fun O => ?_
   clear N K hZ
   try simp only [zz]
   have H0 := H0k
   have HB := HBk
   have HA := HAk
   have HC := HCk
   clear H0k HBk HAk HCk
   refine tk 7 ?_
   refine rd 8 fun K N => ?_
   go_simp
   go_wp2_with fail
   have hZ := (H0.out.keep (below_alloc U3 (.cells #[.int .i64 (B : Int), .int .i64 (P : Int), .int .i64 (S : Int), .slice (some ⟨gU2, 0, none⟩) B B, .map (some gU1), .chan (some x.c), .int .i64 x.fa, .int .i64 x.fk, .slice x.ma x.ml x.mc, .int .u8 x.ff, .bool x.hn, .bool false, .int .i64 0, .slice none 0 0] 102))).s
   clear O
   refine N.out _ _ hZ fun O => ?_
   clear N K hZ
   try simp only [zz]
   refine tk 9 ?_
   refine td ?_
   exact hrest gU2 gU1 x U3 H0.out HA.out HB.out HC.out
  ·go_simp
   go_at_call 84
   refine (waiting_any _ sa n c fs (HR.out.below H0.out.bel) hn).mono ?_
   rintro e U2 ⟨x, rfl, hq, hbk⟩
   go_wp2_with fail
   have HCk := J (EC.of (w := w) hq H0.out.bel.size)
   clear hq
   have H0k := J (H0.out.keep hbk)
   have HBk := J (HB.out.keep hbk)
   have hZ := H0k.out.s
   clear hbk
   clear H0 HB
   clear O
   refine N.out _ _ hZ fun O => ?_
   clear N K hZ
   try simp only [zz]
   have H0 := H0k
   have HB := HBk
   have HC := HCk
   clear H0k HBk HCk
   refine rd 3 fun K N => ?_
   go_simp
   go_wp2_with fail
   change K _ ((U2).alloc (.cells (rowB B) 106))
   have hbk : Below (U2).heap.size (U2) ((U2).alloc (.cells (rowB B) 106)) := below_alloc _ _
   have HAk : Hid (EA w ((U2).alloc (.cells (rowB B) 106)) (U2).heap.size B) := ⟨alloc_new _ _, H0.out.bel.size⟩
   have H0k := J (H0.out.keep hbk)
   have HBk := J (HB.out.keep hbk)
   have HCk := J (HC.out.keep hbk)
   have hZ := H0k.out.s
   clear hbk
   clear H0 HB HC
   clear O
   refine N.out _ _ hZ fun O => ?_
   clear N K hZ
   try simp only [zz]
   obtain ⟨gU3, hgU3⟩ : ∃ g, g = (U2).heap.size := ⟨_, rfl⟩
   obtain ⟨U3, hU3⟩ : ∃ u, u = ((U2).alloc (.cells (rowB B) 106)) := ⟨_, rfl⟩
   rw [← hgU3] at HAk ⊢
   rw [← hU3] at O H0k HBk HCk HAk ⊢
   clear hU3 hgU3
   have H0 := H0k
   have HB := HBk
   have HC := HCk
   have HA := HAk
   clear H0k HBk HCk HAk
   refine tk 7 ?_
   refine rd 8 fun K N => ?_
   go_simp
   go_wp2_with fail
   have hZ := (H0.out.keep (below_alloc U3 (.cells #[.int .i64 (B : Int), .int .i64 (P : Int), .int .i64 (S : Int), .slice (some ⟨gU3, 0, none⟩) B B, .map (some gU1), .chan (some x.c), .int .i64 x.fa, .int .i64 x.fk, .slice x.ma x.ml x.mc, .int .u8 x.ff, .bool x.hn, .bool false, .int .i64 0, .slice none 0 0] 102))).s
   clear O
   refine N.out _ _ hZ fun O => ?_
   clear N K hZ
   try simp only [zz]
   refine tk 9 ?_
   refine td ?_
   exact hrest gU3 gU1 x U3 H0.out HA.out HB.out HC.out
 ·go_simp
  go_at_call 84
  refine (waiting_any _ sa n c fs (HR.out.below H0.out.bel) hn).mono ?_
  rintro e U1 ⟨x, rfl, hq, hbk⟩
  go_wp2_with fail
  have HCk := J (EC.of (w := w) hq H0.out.bel.size)
  clear hq
  have H0k := J (H0.out.keep hbk)
  have hZ := H0k.out.s
  clear hbk
  clear H0
  clear O
  refine N.out _ _ hZ fun O => ?_
  clear N K hZ
  try simp only [zz]
  have H0 := H0k
  have HC := HCk
  clear H0k HCk
  refine wpAnyH_ready (rs := [3, 4]) (by kernel_rfl) (by simp) ?_
  refine AllReadyH.cons (o := { dst := some 10, op := Op.makeSlice 96 (Operand.tmp 9) (Operand.tmp 9), type := 96, pos := "chip.go:79", after := #[{ on := 2, ground := Ground.data }, { on := 2, ground := Ground.data }], guard := none }) rfl (fun K N => ?_) (AllReadyH.cons (o := { dst := some 11, op := Op.makeMap 97 none, type := 97, pos := "chip.go:79", after := #[], guard := none }) rfl (fun K N => ?_) AllReadyH.nil)
  ·go_simp
   go_wp2_with fail
   change K _ ((U1).alloc (.cells (rowB B) 106))
   have hbk : Below (U1).heap.size (U1) ((U1).alloc (.cells (rowB B) 106)) := below_alloc _ _
   have HAk : Hid (EA w ((U1).alloc (.cells (rowB B) 106)) (U1).heap.size B) := ⟨alloc_new _ _, H0.out.bel.size⟩
   have H0k := J (H0.out.keep hbk)
   have HCk := J (HC.out.keep hbk)
   have hZ := H0k.out.s
   clear hbk
   clear H0 HC
   clear O
   refine N.out _ _ hZ fun O => ?_
   clear N K hZ
   try simp only [zz]
   obtain ⟨gU2, hgU2⟩ : ∃ g, g = (U1).heap.size := ⟨_, rfl⟩
   obtain ⟨U2, hU2⟩ : ∃ u, u = ((U1).alloc (.cells (rowB B) 106)) := ⟨_, rfl⟩
   rw [← hgU2] at HAk ⊢
   rw [← hU2] at O H0k HCk HAk ⊢
   clear hU2 hgU2
   have H0 := H0k
   have HC := HCk
   have HA := HAk
   clear H0k HCk HAk
   refine rd 4 fun K N => ?_
   go_simp
   go_wp2_with fail
   change K _ ((U2).alloc (.map #[] 0))
   have hbk : Below (U2).heap.size (U2) ((U2).alloc (.map #[] 0)) := below_alloc _ _
   have HBk : Hid (EB w ((U2).alloc (.map #[] 0)) (U2).heap.size) := ⟨alloc_new _ _, H0.out.bel.size⟩
   have H0k := J (H0.out.keep hbk)
   have HCk := J (HC.out.keep hbk)
   have HAk := J (HA.out.keep hbk)
   have hZ := H0k.out.s
   clear hbk
   clear H0 HC HA
   clear O
   refine N.out _ _ hZ fun O => ?_
   clear N K hZ
   try simp only [zz]
   obtain ⟨gU3, hgU3⟩ : ∃ g, g = (U2).heap.size := ⟨_, rfl⟩
   obtain ⟨U3, hU3⟩ : ∃ u, u = ((U2).alloc (.map #[] 0)) := ⟨_, rfl⟩
   rw [← hgU3] at HBk ⊢
   rw [← hU3] at O H0k HCk HAk HBk ⊢
   clear hU3 hgU3
   have H0 := H0k
   have HC := HCk
   have HA := HAk
   have HB := HBk
   clear H0k HCk HAk HBk
   refine tk 7 ?_
   refine rd 8 fun K N => ?_
   go_simp
   go_wp2_with fail
   have hZ := (H0.out.keep (below_alloc U3 (.cells #[.int .i64 (B : Int), .int .i64 (P : Int), .int .i64 (S : Int), .slice (some ⟨gU2, 0, none⟩) B B, .map (some gU3), .chan (some x.c), .int .i64 x.fa, .int .i64 x.fk, .slice x.ma x.ml x.mc, .int .u8 x.ff, .bool x.hn, .bool false, .int .i64 0, .slice none 0 0] 102))).s
   clear O
   refine N.out _ _ hZ fun O => ?_
   clear N K hZ
   try simp only [zz]
   refine tk 9 ?_
   refine td ?_
   exact hrest gU2 gU3 x U3 H0.out HA.out HB.out HC.out
  ·go_simp
   go_wp2_with fail
   change K _ ((U1).alloc (.map #[] 0))
   have hbk : Below (U1).heap.size (U1) ((U1).alloc (.map #[] 0)) := below_alloc _ _
   have HBk : Hid (EB w ((U1).alloc (.map #[] 0)) (U1).heap.size) := ⟨alloc_new _ _, H0.out.bel.size⟩
   have H0k := J (H0.out.keep hbk)
   have HCk := J (HC.out.keep hbk)
   have hZ := H0k.out.s
   clear hbk
   clear H0 HC
   clear O
   refine N.out _ _ hZ fun O => ?_
   clear N K hZ
   try simp only [zz]
   obtain ⟨gU2, hgU2⟩ : ∃ g, g = (U1).heap.size := ⟨_, rfl⟩
   obtain ⟨U2, hU2⟩ : ∃ u, u = ((U1).alloc (.map #[] 0)) := ⟨_, rfl⟩
   rw [← hgU2] at HBk ⊢
   rw [← hU2] at O H0k HCk HBk ⊢
   clear hU2 hgU2
   have H0 := H0k
   have HC := HCk
   have HB := HBk
   clear H0k HCk HBk
   refine rd 3 fun K N => ?_
   go_simp
   go_wp2_with fail
   change K _ ((U2).alloc (.cells (rowB B) 106))
   have hbk : Below (U2).heap.size (U2) ((U2).alloc (.cells (rowB B) 106)) := below_alloc _ _
   have HAk : Hid (EA w ((U2).alloc (.cells (rowB B) 106)) (U2).heap.size B) := ⟨alloc_new _ _, H0.out.bel.size⟩
   have H0k := J (H0.out.keep hbk)
   have HCk := J (HC.out.keep hbk)
   have HBk := J (HB.out.keep hbk)
   have hZ := H0k.out.s
   clear hbk
   clear H0 HC HB
   clear O
   refine N.out _ _ hZ fun O => ?_
   clear N K hZ
   try simp only [zz]
   obtain ⟨gU3, hgU3⟩ : ∃ g, g = (U2).heap.size := ⟨_, rfl⟩
   obtain ⟨U3, hU3⟩ : ∃ u, u = ((U2).alloc (.cells (rowB B) 106)) := ⟨_, rfl⟩
   rw [← hgU3] at HAk ⊢
   rw [← hU3] at O H0k HCk HBk HAk ⊢
   clear hU3 hgU3
   have H0 := H0k
   have HC := HCk
   have HB := HBk
   have HA := HAk
   clear H0k HCk HBk HAk
   refine tk 7 ?_
   refine rd 8 fun K N => ?_
   go_simp
   go_wp2_with fail
   have hZ := (H0.out.keep (below_alloc U3 (.cells #[.int .i64 (B : Int), .int .i64 (P : Int), .int .i64 (S : Int), .slice (some ⟨gU3, 0, none⟩) B B, .map (some gU2), .chan (some x.c), .int .i64 x.fa, .int .i64 x.fk, .slice x.ma x.ml x.mc, .int .u8 x.ff, .bool x.hn, .bool false, .int .i64 0, .slice none 0 0] 102))).s
   clear O
   refine N.out _ _ hZ fun O => ?_
   clear N K hZ
   try simp only [zz]
   refine tk 9 ?_
   refine td ?_
   exact hrest gU3 gU2 x U3 H0.out HA.out HB.out HC.out
def ReadsI (w : World) (a : Option Addr) (len : Nat) (zs : List Int) : Prop :=
 zs.length = len ∧ (∀ z ∈ zs, -9223372036854775808 ≤ z ∧ z ≤ 9223372036854775807) ∧ (a = none → len = 0) ∧ ∀ x, a = some x → ∀ i, i < len → w.cell? (x.add i) = some (.int .i64 (zs.getD i 0))
theorem ReadsI.pos {len : Nat} (h : ReadsI w a len zs) (hp : 0 < len) :
  ∃ b off, a = some ⟨b, off, none⟩ ∧ b < w.heap.size ∧ ∀ i, i < len → w.cell? ⟨b, off + i, none⟩ = some (.int .i64 (zs.getD i 0)) := by
 obtain ⟨hl, _, hn, hc⟩ := h
 cases a with
 | none => have := hn rfl; omega
 | some x =>
  obtain ⟨b, off, spot⟩ := x
  have h0 := hc _ rfl 0 hp
  have hspot : spot = none := by simpa [Addr.add] using World.cell?_spot h0
  subst hspot
  refine ⟨b, off, rfl, by simpa [Addr.add] using block_lt_of_cell h0, fun i hi => ?_⟩
  have k0 := hc _ rfl i hi
  rw [plain_add] at k0
  exact k0
theorem ReadsI.below {len : Nat} (h : ReadsI w a len zs) (hb : Below w.heap.size w w') : ReadsI w' a len zs :=
 ⟨h.1, h.2.1, h.2.2.1, fun x hx i hi => (hb.cell (block_lt_of_cell (h.2.2.2 x hx i hi))).trans (h.2.2.2 x hx i hi)⟩
def outB (B z : Int) : Bool := decide (z < 0) || decide (z ≥ B)
def NewE (B P S : Int) (bad : List Int) (fs : List Fc) : Int :=
 if Fits B P S = false then 40 else if bad.any (outB B) then 41 else if faultsB fs = false then 48 else 0
theorem new_fit (w : World) (B P S : Int) (hf : Fits B P S = false) (ba : Option Addr) (bn bc : Nat) (sa : Option Addr) (n c : Nat) :
  Calls Try.prog 21 #[.agg #[.int .i64 B, .int .i64 P, .int .i64 S], .slice ba bn bc, .slice sa n c] w fun e w' => e = .returned (.tuple #[.pointer none, .int .i64 40]) ∧ Below w.heap.size w w' := by
 have HB0 := J (below_alloc w (.cells #[.int .i64 B, .int .i64 P, .int .i64 S] 23))
 go_enter Try.func21, Try.ntmps21
 go_wp2_with (first | (go_at_call 45; refine (mayBe_any B P S _).mono ?_; rintro e u1 ⟨rfl, b1⟩; rw [hf]; have HB1 := J (below_trans HB0.out b1); clear b1))
 refine bodyPost_ret (v := .tuple #[.pointer none, .int .i64 40]) (by simp [results, Try.results21, go_sem]) rfl ?_
 exact ⟨rfl, HB1.out⟩
theorem new_bad (w : World) (B P S : Int) (hf : Fits B P S = true) (ba : Option Addr) (bn bc : Nat) (bad : List Int) (hR : ReadsI w ba bn bad) (hbn : bn ≤ 9223372036854775807) (hb : bad.any (outB B) = true) (sa : Option Addr) (n c : Nat) :
  Calls Try.prog 21 #[.agg #[.int .i64 B, .int .i64 P, .int .i64 S], .slice ba bn bc, .slice sa n c] w fun e w' => e = .returned (.tuple #[.pointer none, .int .i64 41]) ∧ Below w.heap.size w w' := by
 have HB0 := J (below_alloc w (.cells #[.int .i64 B, .int .i64 P, .int .i64 S] 23))
 have HG0 := J (alloc_new w (.cells #[.int .i64 B, .int .i64 P, .int .i64 S] 23))
 have HR := J hR
 have HL := J hR.1
 have HBA := J hb
 clear hR hb
 go_enter Try.func21, Try.ntmps21
 go_wp2_with (first | (go_at_call 45; refine (mayBe_any B P S _).mono ?_; rintro e u1 ⟨rfl, b1⟩; rw [hf]; have HB1 := J (below_trans HB0.out b1); have HG1 := J ((b1.block _ (lt_of_block HG0.out)).trans HG0.out); clear b1))
 go_loopw [19] (fun s19 wr => ∃ m : Nat, m ≤ bn ∧ s19 = .int .i64 m ∧ Hid (wr = u1) ∧ Hid ((bad.take m).any (outB B) = false)) (fun s19 _ => bn - (intOf s19).toNat)
 case atStart => exact ⟨0, Nat.zero_le _, rfl, rfl, rfl⟩
 case round =>
  obtain ⟨m, hm, rfl, hw, HN⟩ := hrel
  have hw' := hw.out
  subst hw'
  clear hw
  by_cases hlt : m < bn
  ·obtain ⟨b, off, rfl, _, hcells⟩ := HR.out.pos (by omega)
   have k0 := hcells m hlt
   obtain ⟨z, hz⟩ : ∃ z, bad.getD m 0 = z := ⟨_, rfl⟩
   rw [hz] at k0
   have d0 := (HB1.out.cell (block_lt_of_cell k0)).trans k0
   have c0 : wr.cell? ⟨w.heap.size, 0, none⟩ = some (.int .i64 B) := by have h1 := HG1.out; simp [World.cell?, h1]
   have HTK : Hid (bad.take (m + 1) = bad.take m ++ [z]) := by
    have hml : m < bad.length := by rw [HL.out]; exact hlt
    rw [List.getD_eq_getElem?_getD, List.getElem?_eq_getElem hml] at hz
    unfold Hid
    rw [List.take_succ_eq_append_getElem hml, show bad[m] = z from hz]
   have dm : decide ((m : Int) < (bn : Int)) = true := decide_eq_true (by omega)
   have m1 : (m : Int) < (bn : Int) := by omega
   clear k0 hz hcells
   cases h1 : decide (z < 0) with
   | true =>
    go_wp2
    refine bodyPost_ret (v := .tuple #[.pointer none, .int .i64 41]) (by simp [results, Try.results21, go_sem]) rfl ?_
    exact ⟨rfl, HB1.out⟩
   | false =>
    cases h2 : decide (z ≥ B) with
    | true =>
     go_wp2
     refine bodyPost_ret (v := .tuple #[.pointer none, .int .i64 41]) (by simp [results, Try.results21, go_sem]) rfl ?_
     exact ⟨rfl, HB1.out⟩
    | false =>
     go_wp2
     exact ⟨⟨m + 1, hlt, by simp, trivial, by unfold Hid; rw [HTK.out, List.any_append, HN.out]; simp [outB, h1, h2]⟩, by simp [intOf]; omega⟩
  ·exfalso
   have h1 := HN.out
   rw [List.take_of_length_le (by rw [HL.out]; omega)] at h1
   rw [h1] at HBA
   exact absurd HBA.out (by decide)
end Go.Proofs.Ytadlkikjfonkgaa
