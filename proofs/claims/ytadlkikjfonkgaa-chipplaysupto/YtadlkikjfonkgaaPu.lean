/-
  SEAT Ytadlkikjfonkgaa: Ea, Ec, Eb.
-/
import Derived.Test.YtadlkikjfonkgaaPp
import Derived.Test.YtadlkikjfonkgaaPa
namespace Go.Proofs.Ytadlkikjfonkgaa
open Go.RowKit Go.Conc
set_option linter.unusedVariables false
theorem info106 : (Try.prog.info? 106).map (fun i => (i.zero, i.size, i.bytes)) = some (some (.agg #[.bool false, .bool false, .int .i64 0, .slice none 0 0]), 4, 40) := by kernel_rfl
theorem info108 : (Try.prog.info? 108).map (fun i => (i.zero, i.size, i.bytes)) = some (some (.agg #[.slice none 0 0, .bool false]), 2, 32) := by kernel_rfl
def z4 : List Value := [.bool false, .bool false, .int .i64 0, .slice none 0 0]
def z2 : List Value := [.slice none 0 0, .bool false]
theorem rep_get (l : List Value) (k : Nat) (hl : l.length = k) (hk : 0 < k) : ∀ (n i : Nat), i < n * k → ((List.replicate n l).flatMap id)[i]? = l[i % k]?
 | 0, i, h => by simp at h
 | n + 1, i, h => by
  rw [List.replicate_succ, List.flatMap_cons]
  by_cases hi : i < k
  ·rw [List.getElem?_append_left (by show i < l.length; omega), Nat.mod_eq_of_lt hi]; rfl
  ·rw [List.getElem?_append_right (by show l.length ≤ i; omega)]
   show ((List.replicate n l).flatMap id)[i - l.length]? = _
   rw [hl, rep_get l k hl hk n (i - k) (by rw [Nat.add_mul] at h; omega)]
   congr 1
   rw [← Nat.mod_eq_sub_mod (by omega)]
theorem rep_len (l : List Value) (k : Nat) (hl : l.length = k) (n : Nat) : ((List.replicate n l).flatMap id).length = n * k := by
 induction n with
 | zero => simp
 | succ n ih => rw [List.replicate_succ, List.flatMap_cons, List.length_append, ih]; show l.length + _ = _; rw [hl, Nat.add_mul]; omega
theorem made_eq (l : List Value) (k : Nat) (hl : l.length = k) (hk : 0 < k) (n : Nat) : madeCells l.toArray (n * k) = ((List.replicate n l).flatMap id).toArray := by
 apply Array.ext'
 refine List.ext_getElem? (fun i => ?_)
 by_cases hi : i < n * k
 ·rw [List.toList_toArray, rep_get l k hl hk n i hi]
  have hm : i % k < l.length := by rw [hl]; exact Nat.mod_lt _ hk
  simp [madeCells, List.getElem?_range hi, hl]
  rw [List.getElem?_eq_getElem hm]
  rfl
 ·rw [List.getElem?_eq_none (by simp [size_madeCells]; omega), List.getElem?_eq_none (by rw [List.toList_toArray, rep_len l k hl]; omega)]
def rowB (n : Nat) : Array Value := ((List.replicate n z4).flatMap id).toArray
def rowP (n : Nat) : Array Value := ((List.replicate n z2).flatMap id).toArray
theorem mk96 (w : World) (n : Nat) (hn : n ≤ 4096) : (Instr.makeSlice 96 (.int .i64 (n : Int)) (.int .i64 (n : Int))).run Try.prog w = .ok (.slice (some ⟨w.heap.size, 0, none⟩) n n) (w.alloc (.cells (rowB n) 106)) := by
 obtain ⟨i, hi, hz0, hz1, hb⟩ := info_parts info106
 have h := run_makeSlice (P := Try.prog) w 96 106 i _ Try.underlying96 hi hz0 .i64 .i64 (n : Int) (n : Int) (by omega) (by omega) (by rw [hz1]; simp; omega) (by rw [hb]; omega) (by omega)
 rw [hz1] at h
 simp only [Int.toNat_natCast] at h
 rw [h, rowB, ← made_eq z4 4 rfl (by omega) n]
 rfl
theorem mk104 (w : World) (n : Nat) (hn : n ≤ 4096) : (Instr.makeSlice 104 (.int .i64 (n : Int)) (.int .i64 (n : Int))).run Try.prog w = .ok (.slice (some ⟨w.heap.size, 0, none⟩) n n) (w.alloc (.cells (rowP n) 108)) := by
 obtain ⟨i, hi, hz0, hz1, hb⟩ := info_parts info108
 have h := run_makeSlice (P := Try.prog) w 104 108 i _ Try.underlying104 hi hz0 .i64 .i64 (n : Int) (n : Int) (by omega) (by omega) (by rw [hz1]; simp; omega) (by rw [hb]; omega) (by omega)
 rw [hz1] at h
 simp only [Int.toNat_natCast] at h
 rw [h, rowP, ← made_eq z2 2 rfl (by omega) n]
 rfl
def pc0 (L : Nat) : Pc := ⟨none, 0, 0, List.replicate L 255, false⟩
theorem pages0 (L n : Nat) : (List.replicate n z2).flatMap id = (List.replicate n (pc0 L)).flatMap Pc.cells := by
 induction n with
 | zero => rfl
 | succ n ih => rw [List.replicate_succ, List.replicate_succ, List.flatMap_cons, List.flatMap_cons, ih]; rfl
end Go.Proofs.Ytadlkikjfonkgaa
namespace Go.Proofs.Ytadlkikjfonkgaa
open Go.RowKit Go.Conc
set_option linter.unusedVariables false
theorem cells_len4 (bs : List Bc) : (bs.flatMap Bc.cells).length = bs.length * 4 := by
 induction bs with
 | nil => rfl
 | cons b r ih => rw [List.flatMap_cons, List.length_append, ih, List.length_cons]; show 4 + _ = _; omega
def rowM (bs : List Bc) (k : Nat) : List Value := bs.flatMap Bc.cells ++ (List.replicate k z4).flatMap id
theorem rowM_get (bs : List Bc) (k : Nat) : (rowM bs (k + 1))[bs.length * 4 + 3]? = some (.slice none 0 0) := by
 unfold rowM
 rw [List.getElem?_append_right (by rw [cells_len4]; omega), cells_len4, List.replicate_succ, List.flatMap_cons]
 rw [show bs.length * 4 + 3 - bs.length * 4 = 3 by omega]
 rfl
theorem rowM_set (bs : List Bc) (k g P : Nat) (ps : List Pc) (hp : ps.length = P) : (rowM bs (k + 1)).set (bs.length * 4 + 3) (.slice (some ⟨g, 0, none⟩) P P) = rowM (bs ++ [⟨false, false, 0, g, ps⟩]) k := by
 unfold rowM
 rw [List.set_append_right _ _ (by rw [cells_len4]; omega), cells_len4, List.replicate_succ, List.flatMap_cons, show bs.length * 4 + 3 - bs.length * 4 = 3 by omega, List.flatMap_append, List.append_assoc]
 congr 1
 subst hp
 rfl
def bl0 (P L : Nat) : Bl := ⟨false, false, 0, List.replicate P ⟨List.replicate L 255, false⟩⟩
structure EL (w u : World) (p gb gm : Nat) (x y : Bx) (B P S : Nat) (q : List Ft) (m : Nat) (bs : List Bc) : Prop where
 e0 : Below w.heap.size w u
 bx : u.heap[w.heap.size]? = some (.cells #[.int .i64 (B : Int), .int .i64 (P : Int), .int .i64 (S : Int)] 23 (0, 0))
 box : y.at u p
 hp : w.heap.size ≤ p
 row : u.heap[gb]? = some (.cells (rowM bs (B - m)).toArray 106 (0, 0))
 hgb : w.heap.size ≤ gb
 map : u.heap[gm]? = some (.map #[] 0)
 hgm : w.heap.size ≤ gm
 scr : QAt u (fun k => w.heap.size ≤ k ∧ k < u.heap.size) x q
 ok : ∀ b ∈ bs, BcOk u (fun k => w.heap.size ≤ k ∧ k < u.heap.size) (pgB S) P b
 len : bs.length = m
 vs : bs.map Bc.v = List.replicate m (bl0 P (pgB S))
 gs : bs.Pairwise (fun b c => b.g ≠ c.g)
theorem pc0_ok (w : World) (F : Nat → Prop) (L : Nat) : PcOk w F L (pc0 L) := ⟨by simp [pc0], fun y hy => by have := (List.mem_replicate.1 hy).2; omega, Or.inl ⟨rfl, rfl, rfl, rfl⟩⟩
theorem EL.step {w u : World} {p gb gm : Nat} {x y : Bx} {B P S : Nat} {q : List Ft} {m : Nat} {bs : List Bc} (h : EL w u p gb gm x y B P S q m bs) (hm : m < B) :
  EL w ((u.drew.alloc (.cells (rowP P) 108)).setCell ⟨gb, m * 4 + 3, none⟩ (.slice (some ⟨u.heap.size, 0, none⟩) P P)) p gb gm x y B P S q (m + 1) (bs ++ [⟨false, false, 0, u.heap.size, List.replicate P (pc0 (pgB S))⟩]) := by
 have hB1 : Below u.heap.size u (u.drew.alloc (.cells (rowP P) 108)) := below_trans (drew_below u) (below_alloc _ _)
 have hnew : (u.drew.alloc (.cells (rowP P) 108)).heap[u.heap.size]? = some (.cells (rowP P) 108 (0, 0)) := alloc_new u.drew _
 have hrow1 := (hB1.block _ (lt_of_block h.row)).trans h.row
 obtain ⟨V, hV⟩ : ∃ V, V = u.drew.alloc (.cells (rowP P) 108) := ⟨_, rfl⟩
 rw [← hV] at hB1 hnew hrow1 ⊢
 clear hV
 have hrow2 := heap_setCell_same V gb (m * 4 + 3) _ 106 (.slice (some ⟨u.heap.size, 0, none⟩) P P) hrow1
 have hO := Only.setCell (· = gb) V gb (m * 4 + 3) (.slice (some ⟨u.heap.size, 0, none⟩) P P) rfl
 obtain ⟨Z, hZ⟩ : ∃ Z, Z = V.setCell ⟨gb, m * 4 + 3, none⟩ (.slice (some ⟨u.heap.size, 0, none⟩) P P) := ⟨_, rfl⟩
 rw [← hZ] at hrow2 hO ⊢
 clear hZ
 have hU : Only (· = gb) u Z := (Only.ofB hB1).trans hO (fun _ _ h => h)
 have hgl := lt_of_block h.row
 have hnl := lt_of_block hnew
 have hT : ∀ F, KeepT F (· = 106) u Z := fun F => hU.keepT (fun k o t hk ho ht => by
  rw [hk, h.row] at ho
  cases ho
  exact ht.symm)
 have hF : ∀ k, (w.heap.size ≤ k ∧ k < u.heap.size) → (w.heap.size ≤ k ∧ k < Z.heap.size) := fun k hk => ⟨hk.1, Nat.lt_of_lt_of_le hk.2 hU.size⟩
 have hl := h.len
 refine ⟨?_, ?_, ?_, h.hp, ?_, h.hgb, ?_, h.hgm, ?_, ?_, ?_, ?_, ?_⟩
 ·exact ((Only.ofB (F := fun k => w.heap.size ≤ k) h.e0).trans hU (fun k _ e => by rw [e]; exact h.hgb)).below (fun _ h => h) (Nat.le_refl _)
 ·exact hT (fun _ => True) _ _ 23 trivial h.bx rfl (by decide)
 ·exact hT (fun _ => True) _ _ 102 trivial h.box rfl (by decide)
 ·rw [hrow2, List.setIfInBounds_toArray, show B - m = (B - (m + 1)) + 1 by omega, ← hl, rowM_set bs _ u.heap.size P (List.replicate P (pc0 (pgB S))) (by simp)]
 ·exact hT (fun _ => True) _ _ 1001 trivial h.map rfl (by decide)
 ·exact h.scr.keep (hT _) (by decide) (by decide) hF ⟨rfl, rfl, rfl, rfl, rfl, rfl, rfl⟩ rfl
 ·intro b hb
  rcases List.mem_append.1 hb with h1 | h1
  ·exact (h.ok b h1).keep (hT _) (by decide) hF ((hT (fun _ => True) _ _ 108 trivial (h.ok b h1).row rfl (by decide)).trans (h.ok b h1).row.symm)
  ·simp at h1
   subst h1
   refine ⟨?_, ⟨h.e0.size, Nat.lt_of_lt_of_le hnl hO.size⟩, by simp, fun c hc => ?_⟩
   ·rw [← pages0 (pgB S) P]
    exact (hO.block _ hnl (by omega)).trans hnew
   ·rw [(List.mem_replicate.1 hc).2]
    exact pc0_ok _ _ _
 ·simp [hl]
 ·rw [List.map_append, h.vs, List.replicate_succ']
  congr 1
  simp [Bc.v, bl0, Pc.v, pc0]
 ·rw [List.pairwise_append]
  refine ⟨h.gs, by simp, fun a ha c hc => ?_⟩
  simp at hc
  subst hc
  have := (h.ok a ha).fg.2
  show a.g ≠ u.heap.size
  omega
def emptyC (B P S : Nat) (q : List Ft) : Ch := ⟨B, P, S, List.replicate B (bl0 P (pgB S)), fun _ _ => [], q, false, 0, []⟩
def boxY (x : Bx) (B P S gb gm : Nat) : Bx := { x with B := B, P := P, S := S, gb := gb, nb := B, gm := gm, dark := false, cnt := 0, ta := none, tl := 0, tc := 0 }
theorem EL.chip {w u : World} {p gb gm : Nat} {x : Bx} {B P S : Nat} {q : List Ft} {bs : List Bc} (h : EL w u p gb gm x (boxY x B P S gb gm) B P S q B bs) :
  CAt u p (fun k => w.heap.size ≤ k ∧ k < u.heap.size) (emptyC B P S q) (boxY x B P S gb gm) bs [] := by
 refine ⟨h.box, ⟨h.hp, lt_of_block h.box⟩, rfl, rfl, rfl, h.len.symm, rfl, rfl, ?_, ⟨h.hgb, lt_of_block h.row⟩, h.vs, h.ok, h.gs, ⟨⟨#[], 0, h.map, rfl, ⟨fun e he => by simp at he, by simp⟩⟩, ⟨h.hgm, lt_of_block h.map⟩, List.Pairwise.nil, List.Pairwise.nil, fun f hf => by cases hf⟩, fun _ _ => rfl, h.scr.keep (T := fun _ => False) (KeepT.of (fun _ _ => rfl) _) (fun h => h) (fun h => h) (fun _ h => h) ⟨rfl, rfl, rfl, rfl, rfl, rfl, rfl⟩ rfl, ⟨World.ownsRow_nil _ _ _ _, rfl, fun g hg => by cases hg⟩, fun k hk => hk.2⟩
 have hr := h.row
 rw [Nat.sub_self] at hr
 unfold rowM at hr
 simp at hr
 show u.heap[gb]? = _
 rw [hr]
end Go.Proofs.Ytadlkikjfonkgaa
namespace Go.Proofs.Ytadlkikjfonkgaa
open Go.RowKit Go.Conc
set_option linter.unusedVariables false
structure E0 (w U : World) (B P S : Nat) : Prop where
 bel : Below w.heap.size w U
 bx : U.heap[w.heap.size]? = some (.cells #[.int .i64 (B : Int), .int .i64 (P : Int), .int .i64 (S : Int)] 23 (0, 0))
def EA (w U : World) (gb B : Nat) : Prop := U.heap[gb]? = some (.cells (rowB B) 106 (0, 0)) ∧ w.heap.size ≤ gb
def EB (w U : World) (gm : Nat) : Prop := U.heap[gm]? = some (.map #[] 0) ∧ w.heap.size ≤ gm
def EC (w U : World) (x : Bx) (q : List Ft) : Prop := QAt U (fun k => w.heap.size ≤ k ∧ k < U.heap.size) x q
theorem E0.keep {w U V : World} {B P S : Nat} (h : E0 w U B P S) (hb : Below U.heap.size U V) : E0 w V B P S := ⟨h.bel.trans (hb.mono h.bel.size), (hb.block _ (lt_of_block h.bx)).trans h.bx⟩
theorem EA.keep {w U V : World} {gb B : Nat} (h : EA w U gb B) (hb : Below U.heap.size U V) : EA w V gb B := ⟨(hb.block _ (lt_of_block h.1)).trans h.1, h.2⟩
theorem EB.keep {w U V : World} {gm : Nat} (h : EB w U gm) (hb : Below U.heap.size U V) : EB w V gm := ⟨(hb.block _ (lt_of_block h.1)).trans h.1, h.2⟩
theorem EC.keep {w U V : World} {x : Bx} {q : List Ft} (h : EC w U x q) (hb : Below U.heap.size U V) : EC w V x q :=
 QAt.keep (T := fun _ => False) h (KeepT.of (fun k hk => hb.block k hk.2) _) (fun h => h) (fun h => h) (fun k hk => ⟨hk.1, Nat.lt_of_lt_of_le hk.2 hb.size⟩) ⟨rfl, rfl, rfl, rfl, rfl, rfl, rfl⟩ rfl
theorem EC.of {w U V : World} {x : Bx} {q : List Ft} (h : QAt V (fun k => U.heap.size ≤ k ∧ k < V.heap.size) x q) (hb : w.heap.size ≤ U.heap.size) : EC w V x q :=
 QAt.keep (T := fun _ => False) h (KeepT.of (fun k hk => rfl) _) (fun h => h) (fun h => h) (fun k hk => ⟨Nat.le_trans hb hk.1, hk.2⟩) ⟨rfl, rfl, rfl, rfl, rfl, rfl, rfl⟩ rfl
theorem E0.s {w U : World} {B P S : Nat} (h : E0 w U B P S) : U.cell? ⟨w.heap.size, 0, none⟩ = some (.int .i64 (B : Int)) ∧ U.cell? ⟨w.heap.size, 1, none⟩ = some (.int .i64 (P : Int)) ∧ U.cell? ⟨w.heap.size, 2, none⟩ = some (.int .i64 (S : Int)) := by
 have hb := h.bx
 refine ⟨?_, ?_, ?_⟩ <;> simp [World.cell?, hb]
theorem ReadsF.below {w w' : World} {a : Option Addr} {len : Nat} {fs : List Fc} (h : ReadsF w a len fs) (hb : Below w.heap.size w w') : ReadsF w' a len fs :=
 ⟨h.1, fun c hc => ⟨(h.2.1 c hc).rd.below hb, (h.2.1 c hc).le, (h.2.1 c hc).cap, (h.2.1 c hc).fill, (h.2.1 c hc).a, (h.2.1 c hc).k⟩, h.2.2.1, fun x hx i hi j hj => (hb.cell (block_lt_of_cell (h.2.2.2 x hx i hi j hj))).trans (h.2.2.2 x hx i hi j hj)⟩
theorem el_start {w U : World} {gb gm B P S : Nat} {x : Bx} {q : List Ft} (h0 : E0 w U B P S) (ha : EA w U gb B) (hb : EB w U gm) (hc : EC w U x q) :
  EL w (U.alloc (.cells #[.int .i64 (B : Int), .int .i64 (P : Int), .int .i64 (S : Int), .slice (some ⟨gb, 0, none⟩) B B, .map (some gm), .chan (some x.c), .int .i64 x.fa, .int .i64 x.fk, .slice x.ma x.ml x.mc, .int .u8 x.ff, .bool x.hn, .bool false, .int .i64 0, .slice none 0 0] 102)) U.heap.size gb gm x (boxY x B P S gb gm) B P S q 0 [] := by
 have hk := below_alloc U (.cells #[.int .i64 (B : Int), .int .i64 (P : Int), .int .i64 (S : Int), .slice (some ⟨gb, 0, none⟩) B B, .map (some gm), .chan (some x.c), .int .i64 x.fa, .int .i64 x.fk, .slice x.ma x.ml x.mc, .int .u8 x.ff, .bool x.hn, .bool false, .int .i64 0, .slice none 0 0] 102)
 exact ⟨(h0.keep hk).bel, (h0.keep hk).bx, alloc_new _ _, h0.bel.size, (ha.keep hk).1, ha.2, (hb.keep hk).1, hb.2, hc.keep hk, (fun b hb => by cases hb), rfl, rfl, List.Pairwise.nil⟩
theorem EL.s {w u : World} {p gb gm : Nat} {x : Bx} {B P S : Nat} {q : List Ft} {m : Nat} {bs : List Bc} (h : EL w u p gb gm x (boxY x B P S gb gm) B P S q m bs) : u.cell? ⟨p, 3, none⟩ = some (.slice (some ⟨gb, 0, none⟩) B B) ∧ u.cell? ⟨w.heap.size, 1, none⟩ = some (.int .i64 (P : Int)) := by
 have hb := h.bx
 exact ⟨h.box.c3, by simp [World.cell?, hb]⟩
theorem e5_keep {w u u' : World} {p gb B P : Nat} (h : u.cell? ⟨p, 3, none⟩ = some (.slice (some ⟨gb, 0, none⟩) B B) ∧ u.cell? ⟨w.heap.size, 1, none⟩ = some (.int .i64 (P : Int))) (hb : Below u.heap.size u u') : u'.cell? ⟨p, 3, none⟩ = some (.slice (some ⟨gb, 0, none⟩) B B) ∧ u'.cell? ⟨w.heap.size, 1, none⟩ = some (.int .i64 (P : Int)) :=
 ⟨(hb.cell (block_lt_of_cell h.1)).trans h.1, (hb.cell (block_lt_of_cell h.2)).trans h.2⟩
theorem row_cell {u : World} {gb B m : Nat} {bs : List Bc} (h : u.heap[gb]? = some (.cells (rowM bs (B - m)).toArray 106 (0, 0))) (hl : bs.length = m) (hm : m < B) : u.cell? ⟨gb, m * 4 + 3, none⟩ = some (.slice none 0 0) := by
 rw [show B - m = (B - (m + 1)) + 1 by omega] at h
 have h1 := rowM_get bs (B - (m + 1))
 rw [hl] at h1
 simp [World.cell?, h, h1]
set_option maxHeartbeats 4000000 in
set_option maxRecDepth 100000 in
theorem empty_any (w : World) (B P S : Nat) (hB : B ≤ 4096) (hP : P ≤ 4096) (sa : Option Addr) (n c : Nat) (fs : List Fc) (hR : ReadsF w sa n fs) (hn : n ≤ 4096) :
  Calls Try.prog 48 #[.agg #[.int .i64 (B : Int), .int .i64 (P : Int), .int .i64 (S : Int)], .slice sa n c] w fun e w' => ∃ p, e = .returned (.pointer (some ⟨p, 0, none⟩)) ∧ ChipAt w' p (fun k => w.heap.size ≤ k ∧ k < w'.heap.size) (emptyC B P S (fs.map Fc.t)) ∧ Below w.heap.size w w' := by
 have hmk := fun w => mk96 w B hB
 have hmk2 := fun w => mk104 w P hP
 have HR := hide hR
 clear hR
 have H0 : Hid (E0 w (w.alloc (.cells #[.int .i64 (B : Int), .int .i64 (P : Int), .int .i64 (S : Int)] 23)).drew B P S) := ⟨below_trans (below_alloc _ _) (drew_below _), alloc_new _ _⟩
 go_enter Try.func48, Try.ntmps48
 go_wp2
 rename_i K0 hK0
 have hrest : ∀ (gb gm : Nat) (x : Bx) (U : World), E0 w U B P S → EA w U gb B → EB w U gm → EC w U x (fs.map Fc.t) → K0 { tmps := #[.agg #[.int .i64 (B : Int), .int .i64 (P : Int), .int .i64 (S : Int)], .slice sa n c, .pointer (some ⟨w.heap.size, 0, none⟩), undef, .pointer none, .pointer (some ⟨U.heap.size, 0, none⟩), undef, .agg #[.int .i64 (B : Int), .int .i64 (P : Int), .int .i64 (S : Int)], .pointer (some ⟨w.heap.size, 0, none⟩), .int .i64 (B : Int), .slice (some ⟨gb, 0, none⟩) B B, .map (some gm), .slice sa n c, .agg #[.chan (some x.c), .int .i64 x.fa, .int .i64 x.fk, .slice x.ma x.ml x.mc, .int .u8 x.ff, .bool x.hn], .agg #[.int .i64 (B : Int), .int .i64 (P : Int), .int .i64 (S : Int), .slice (some ⟨gb, 0, none⟩) B B, .map (some gm), .chan (some x.c), .int .i64 x.fa, .int .i64 x.fk, .slice x.ma x.ml x.mc, .int .u8 x.ff, .bool x.hn, .bool false, .int .i64 0, .slice none 0 0], .pointer (some ⟨U.heap.size, 0, none⟩), undef, undef, undef, undef, undef, undef, undef, undef, undef, undef, undef, undef, undef, undef, undef, undef, undef, undef, undef, undef], defers := [] } (U.alloc (.cells #[.int .i64 (B : Int), .int .i64 (P : Int), .int .i64 (S : Int), .slice (some ⟨gb, 0, none⟩) B B, .map (some gm), .chan (some x.c), .int .i64 x.fa, .int .i64 x.fk, .slice x.ma x.ml x.mc, .int .u8 x.ff, .bool x.hn, .bool false, .int .i64 0, .slice none 0 0] 102)) := by
  intro gb gm x U h0 ha hb hc
  have HL := hide (el_start h0 ha hb hc)
  obtain ⟨p, hp⟩ : ∃ p, p = U.heap.size := ⟨_, rfl⟩
  refine hK0 _ _ ?_
  clear hK0
  obtain ⟨V, hV⟩ : ∃ V, V = U.alloc (.cells #[.int .i64 (B : Int), .int .i64 (P : Int), .int .i64 (S : Int), .slice (some ⟨gb, 0, none⟩) B B, .map (some gm), .chan (some x.c), .int .i64 x.fa, .int .i64 x.fk, .slice x.ma x.ml x.mc, .int .u8 x.ff, .bool x.hn, .bool false, .int .i64 0, .slice none 0 0] 102) := ⟨_, rfl⟩
  rw [← hV] at HL ⊢
  rw [← hp] at HL ⊢
  clear hV hp h0 ha hb hc
  obtain ⟨a0, a1⟩ := HL.out.s
  go_wp2
  clear a0 a1
  go_loopw [6, 21] (fun s6 s21 wr => ∃ (m : Nat) (bs : List Bc), m ≤ B ∧ s21 = .int .i64 m ∧ Hid (EL w wr p gb gm x (boxY x B P S gb gm) B P S (fs.map Fc.t) m bs)) (fun s6 s21 _ => B - (intOf s21).toNat)
  case atStart => exact ⟨0, [], Nat.zero_le _, rfl, HL⟩
  case round =>
   obtain ⟨m, bs, hm, rfl, HE⟩ := hrel
   by_cases hlt : m < B
   ·have dm : decide ((m : Int) < (B : Int)) = true := decide_eq_true (by omega)
    have m1 : (m : Int) < (B : Int) := by omega
    go_wp2
    refine wp_region_held_drew (S := (fun u => u.cell? ⟨p, 3, none⟩ = some (.slice (some ⟨gb, 0, none⟩) B B) ∧ u.cell? ⟨w.heap.size, 1, none⟩ = some (.int .i64 (P : Int)))) (by kernel_rfl) (HE.out.s) (fun hHeld => ?_)
    refine tk 0 ?_
    refine tk 1 ?_
    refine tk 2 ?_
    refine tk 3 ?_
    refine tk 4 ?_
    refine tk 5 ?_
    refine tk 6 ?_
    refine rd 7 (fun K hK => ?_)
    go_simp
    go_wp2_with fail
    change K _ (wr.drew.alloc (.cells (rowP P) 108))
    have hb7 : Below wr.heap.size wr (wr.drew.alloc (.cells (rowP P) 108)) := below_trans (drew_below _) (below_alloc _ _)
    have hSnew := e5_keep HE.out.s hb7
    have HST := hide (HE.out.step hlt)
    have HR7 := hide ((hb7.block _ (lt_of_block HE.out.row)).trans HE.out.row)
    clear hb7
    clear hHeld
    refine hK.out _ _ hSnew (fun hHeld => ?_)
    clear hK K hSnew
    try simp only [Act.put, zSt, zS0, zS1]
    obtain ⟨V7, hV7⟩ : ∃ V, V = wr.drew.alloc (.cells (rowP P) 108) := ⟨_, rfl⟩
    rw [← hV7] at hHeld HST HR7 ⊢
    clear hV7
    have z3 := row_cell HR7.out HE.out.len hlt
    have fzr := fun j => frozen_of_row V7 gb j _ 106 HR7.out
    refine tk 8 ?_
    refine tk 9 ?_
    refine rd 10 (fun K hK => ?_)
    go_simp
    go_wp2_with fail
    have hSnew := HST.out.s
    clear hHeld
    refine hK.out _ _ hSnew (fun hHeld => ?_)
    clear hK K hSnew
    try simp only [Act.put, zSt, zS0, zS1]
    refine wpAnyH_done (by kernel_rfl) ?_ _
    clear hHeld
    go_wp2
    exact ⟨⟨m + 1, _, hlt, by simp, HST⟩, by simp [intOf]; omega⟩
   ·have dm : decide ((m : Int) < (B : Int)) = false := decide_eq_false (by omega)
    go_wp2
    go_ret
    have em : m = B := by omega
    subst em
    exact ⟨p, rfl, ⟨_, _, _, HE.out.chip⟩, HE.out.e0⟩
 clear hK0
 refine wp_region_held_drew (S := (fun u => u.cell? ⟨w.heap.size, 0, none⟩ = some (.int .i64 (B : Int)) ∧ u.cell? ⟨w.heap.size, 1, none⟩ = some (.int .i64 (P : Int)) ∧ u.cell? ⟨w.heap.size, 2, none⟩ = some (.int .i64 (S : Int)))) (by kernel_rfl) (H0.out.s) (fun hHeld => ?_)
 refine tk 0 ?_
 refine tk 1 ?_
 refine tk 2 ?_
 refine tk 5 ?_
 obtain ⟨U0, hU0⟩ : ∃ u, u = (w.alloc (.cells #[.int .i64 (B : Int), .int .i64 (P : Int), .int .i64 (S : Int)] 23)).drew := ⟨_, rfl⟩
 rw [← hU0] at hHeld H0 ⊢
 clear hU0
 refine wpAnyH_ready (rs := [3, 4, 6]) (by kernel_rfl) (by simp) ?_
 refine AllReadyH.cons (o := { dst := some 10, op := Op.makeSlice 96 (Operand.tmp 9) (Operand.tmp 9), type := 96, pos := "chip.go:79", after := #[{ on := 2, ground := Ground.data }, { on := 2, ground := Ground.data }], guard := none }) rfl (fun K hK => ?_) (AllReadyH.cons (o := { dst := some 11, op := Op.makeMap 97 none, type := 97, pos := "chip.go:79", after := #[], guard := none }) rfl (fun K hK => ?_) (AllReadyH.cons (o := { dst := some 13, op := Op.call { callee := Callee.value (Operand.func 84), args := #[Operand.tmp 12], argTypes := #[49] }, type := 100, pos := "chip.go:83", after := #[{ on := 5, ground := Ground.data }], guard := none }) rfl (fun K hK => ?_) AllReadyH.nil))
 ·go_simp
  go_wp2_with fail
  change K _ ((U0).alloc (.cells (rowB B) 106))
  have hbk : Below (U0).heap.size (U0) ((U0).alloc (.cells (rowB B) 106)) := below_alloc _ _
  have HAk : Hid (EA w ((U0).alloc (.cells (rowB B) 106)) (U0).heap.size B) := ⟨alloc_new _ _, H0.out.bel.size⟩
  have H0k := hide (H0.out.keep hbk)
  have hSnew := H0k.out.s
  clear hbk
  clear H0
  refine hK.out _ _ hSnew (fun hHeld3 => ?_)
  clear hK K hSnew hHeld
  have hHeld := hHeld3
  clear hHeld3
  try simp only [Act.put, zSt, zS0, zS1]
  obtain ⟨gU1, hgU1⟩ : ∃ g, g = (U0).heap.size := ⟨_, rfl⟩
  obtain ⟨U1, hU1⟩ : ∃ u, u = ((U0).alloc (.cells (rowB B) 106)) := ⟨_, rfl⟩
  rw [← hgU1] at HAk ⊢
  rw [← hU1] at hHeld H0k HAk ⊢
  clear hU1 hgU1
  have H0 := H0k
  have HA := HAk
  clear H0k HAk
  refine wpAnyH_ready (rs := [4, 6]) (by kernel_rfl) (by simp) ?_
  refine AllReadyH.cons (o := { dst := some 11, op := Op.makeMap 97 none, type := 97, pos := "chip.go:79", after := #[], guard := none }) rfl (fun K hK => ?_) (AllReadyH.cons (o := { dst := some 13, op := Op.call { callee := Callee.value (Operand.func 84), args := #[Operand.tmp 12], argTypes := #[49] }, type := 100, pos := "chip.go:83", after := #[{ on := 5, ground := Ground.data }], guard := none }) rfl (fun K hK => ?_) AllReadyH.nil)
  ·go_simp
   go_wp2_with fail
   change K _ ((U1).alloc (.map #[] 0))
   have hbk : Below (U1).heap.size (U1) ((U1).alloc (.map #[] 0)) := below_alloc _ _
   have HBk : Hid (EB w ((U1).alloc (.map #[] 0)) (U1).heap.size) := ⟨alloc_new _ _, H0.out.bel.size⟩
   have H0k := hide (H0.out.keep hbk)
   have HAk := hide (HA.out.keep hbk)
   have hSnew := H0k.out.s
   clear hbk
   clear H0 HA
   refine hK.out _ _ hSnew (fun hHeld4 => ?_)
   clear hK K hSnew hHeld
   have hHeld := hHeld4
   clear hHeld4
   try simp only [Act.put, zSt, zS0, zS1]
   obtain ⟨gU2, hgU2⟩ : ∃ g, g = (U1).heap.size := ⟨_, rfl⟩
   obtain ⟨U2, hU2⟩ : ∃ u, u = ((U1).alloc (.map #[] 0)) := ⟨_, rfl⟩
   rw [← hgU2] at HBk ⊢
   rw [← hU2] at hHeld H0k HAk HBk ⊢
   clear hU2 hgU2
   have H0 := H0k
   have HA := HAk
   have HB := HBk
   clear H0k HAk HBk
   refine rd 6 (fun K hK => ?_)
   go_simp
   go_at_call 84
   refine (waiting_any _ sa n c fs (HR.out.below H0.out.bel) hn).mono ?_
   rintro e U3 ⟨x, rfl, hq, hbk⟩
   go_wp2_with fail
   have HCk := hide (EC.of (w := w) hq H0.out.bel.size)
   clear hq
   have H0k := hide (H0.out.keep hbk)
   have HAk := hide (HA.out.keep hbk)
   have HBk := hide (HB.out.keep hbk)
   have hSnew := H0k.out.s
   clear hbk
   clear H0 HA HB
   refine hK.out _ _ hSnew (fun hHeld6 => ?_)
   clear hK K hSnew hHeld
   have hHeld := hHeld6
   clear hHeld6
   try simp only [Act.put, zSt, zS0, zS1]
   have H0 := H0k
   have HA := HAk
   have HB := HBk
   have HC := HCk
   clear H0k HAk HBk HCk
   refine tk 7 ?_
   refine rd 8 (fun K hK => ?_)
   go_simp
   go_wp2_with fail
   have hSnew := (H0.out.keep (below_alloc U3 (.cells #[.int .i64 (B : Int), .int .i64 (P : Int), .int .i64 (S : Int), .slice (some ⟨gU1, 0, none⟩) B B, .map (some gU2), .chan (some x.c), .int .i64 x.fa, .int .i64 x.fk, .slice x.ma x.ml x.mc, .int .u8 x.ff, .bool x.hn, .bool false, .int .i64 0, .slice none 0 0] 102))).s
   refine hK.out _ _ hSnew (fun hHeld8 => ?_)
   clear hK K hSnew hHeld
   have hHeld := hHeld8
   clear hHeld8
   try simp only [Act.put, zSt, zS0, zS1]
   refine tk 9 ?_
   refine wpAnyH_done (by kernel_rfl) ?_ _
   exact hrest gU1 gU2 x U3 H0.out HA.out HB.out HC.out
  ·go_simp
   go_at_call 84
   refine (waiting_any _ sa n c fs (HR.out.below H0.out.bel) hn).mono ?_
   rintro e U2 ⟨x, rfl, hq, hbk⟩
   go_wp2_with fail
   have HCk := hide (EC.of (w := w) hq H0.out.bel.size)
   clear hq
   have H0k := hide (H0.out.keep hbk)
   have HAk := hide (HA.out.keep hbk)
   have hSnew := H0k.out.s
   clear hbk
   clear H0 HA
   refine hK.out _ _ hSnew (fun hHeld6 => ?_)
   clear hK K hSnew hHeld
   have hHeld := hHeld6
   clear hHeld6
   try simp only [Act.put, zSt, zS0, zS1]
   have H0 := H0k
   have HA := HAk
   have HC := HCk
   clear H0k HAk HCk
   refine rd 4 (fun K hK => ?_)
   go_simp
   go_wp2_with fail
   change K _ ((U2).alloc (.map #[] 0))
   have hbk : Below (U2).heap.size (U2) ((U2).alloc (.map #[] 0)) := below_alloc _ _
   have HBk : Hid (EB w ((U2).alloc (.map #[] 0)) (U2).heap.size) := ⟨alloc_new _ _, H0.out.bel.size⟩
   have H0k := hide (H0.out.keep hbk)
   have HAk := hide (HA.out.keep hbk)
   have HCk := hide (HC.out.keep hbk)
   have hSnew := H0k.out.s
   clear hbk
   clear H0 HA HC
   refine hK.out _ _ hSnew (fun hHeld4 => ?_)
   clear hK K hSnew hHeld
   have hHeld := hHeld4
   clear hHeld4
   try simp only [Act.put, zSt, zS0, zS1]
   obtain ⟨gU3, hgU3⟩ : ∃ g, g = (U2).heap.size := ⟨_, rfl⟩
   obtain ⟨U3, hU3⟩ : ∃ u, u = ((U2).alloc (.map #[] 0)) := ⟨_, rfl⟩
   rw [← hgU3] at HBk ⊢
   rw [← hU3] at hHeld H0k HAk HCk HBk ⊢
   clear hU3 hgU3
   have H0 := H0k
   have HA := HAk
   have HC := HCk
   have HB := HBk
   clear H0k HAk HCk HBk
   refine tk 7 ?_
   refine rd 8 (fun K hK => ?_)
   go_simp
   go_wp2_with fail
   have hSnew := (H0.out.keep (below_alloc U3 (.cells #[.int .i64 (B : Int), .int .i64 (P : Int), .int .i64 (S : Int), .slice (some ⟨gU1, 0, none⟩) B B, .map (some gU3), .chan (some x.c), .int .i64 x.fa, .int .i64 x.fk, .slice x.ma x.ml x.mc, .int .u8 x.ff, .bool x.hn, .bool false, .int .i64 0, .slice none 0 0] 102))).s
   refine hK.out _ _ hSnew (fun hHeld8 => ?_)
   clear hK K hSnew hHeld
   have hHeld := hHeld8
   clear hHeld8
   try simp only [Act.put, zSt, zS0, zS1]
   refine tk 9 ?_
   refine wpAnyH_done (by kernel_rfl) ?_ _
   exact hrest gU1 gU3 x U3 H0.out HA.out HB.out HC.out
 ·go_simp
  go_wp2_with fail
  change K _ ((U0).alloc (.map #[] 0))
  have hbk : Below (U0).heap.size (U0) ((U0).alloc (.map #[] 0)) := below_alloc _ _
  have HBk : Hid (EB w ((U0).alloc (.map #[] 0)) (U0).heap.size) := ⟨alloc_new _ _, H0.out.bel.size⟩
  have H0k := hide (H0.out.keep hbk)
  have hSnew := H0k.out.s
  clear hbk
  clear H0
  refine hK.out _ _ hSnew (fun hHeld4 => ?_)
  clear hK K hSnew hHeld
  have hHeld := hHeld4
  clear hHeld4
  try simp only [Act.put, zSt, zS0, zS1]
  obtain ⟨gU1, hgU1⟩ : ∃ g, g = (U0).heap.size := ⟨_, rfl⟩
  obtain ⟨U1, hU1⟩ : ∃ u, u = ((U0).alloc (.map #[] 0)) := ⟨_, rfl⟩
  rw [← hgU1] at HBk ⊢
  rw [← hU1] at hHeld H0k HBk ⊢
  clear hU1 hgU1
  have H0 := H0k
  have HB := HBk
  clear H0k HBk
  refine wpAnyH_ready (rs := [3, 6]) (by kernel_rfl) (by simp) ?_
  refine AllReadyH.cons (o := { dst := some 10, op := Op.makeSlice 96 (Operand.tmp 9) (Operand.tmp 9), type := 96, pos := "chip.go:79", after := #[{ on := 2, ground := Ground.data }, { on := 2, ground := Ground.data }], guard := none }) rfl (fun K hK => ?_) (AllReadyH.cons (o := { dst := some 13, op := Op.call { callee := Callee.value (Operand.func 84), args := #[Operand.tmp 12], argTypes := #[49] }, type := 100, pos := "chip.go:83", after := #[{ on := 5, ground := Ground.data }], guard := none }) rfl (fun K hK => ?_) AllReadyH.nil)
  ·go_simp
   go_wp2_with fail
   change K _ ((U1).alloc (.cells (rowB B) 106))
   have hbk : Below (U1).heap.size (U1) ((U1).alloc (.cells (rowB B) 106)) := below_alloc _ _
   have HAk : Hid (EA w ((U1).alloc (.cells (rowB B) 106)) (U1).heap.size B) := ⟨alloc_new _ _, H0.out.bel.size⟩
   have H0k := hide (H0.out.keep hbk)
   have HBk := hide (HB.out.keep hbk)
   have hSnew := H0k.out.s
   clear hbk
   clear H0 HB
   refine hK.out _ _ hSnew (fun hHeld3 => ?_)
   clear hK K hSnew hHeld
   have hHeld := hHeld3
   clear hHeld3
   try simp only [Act.put, zSt, zS0, zS1]
   obtain ⟨gU2, hgU2⟩ : ∃ g, g = (U1).heap.size := ⟨_, rfl⟩
   obtain ⟨U2, hU2⟩ : ∃ u, u = ((U1).alloc (.cells (rowB B) 106)) := ⟨_, rfl⟩
   rw [← hgU2] at HAk ⊢
   rw [← hU2] at hHeld H0k HBk HAk ⊢
   clear hU2 hgU2
   have H0 := H0k
   have HB := HBk
   have HA := HAk
   clear H0k HBk HAk
   refine rd 6 (fun K hK => ?_)
   go_simp
   go_at_call 84
   refine (waiting_any _ sa n c fs (HR.out.below H0.out.bel) hn).mono ?_
   rintro e U3 ⟨x, rfl, hq, hbk⟩
   go_wp2_with fail
   have HCk := hide (EC.of (w := w) hq H0.out.bel.size)
   clear hq
   have H0k := hide (H0.out.keep hbk)
   have HBk := hide (HB.out.keep hbk)
   have HAk := hide (HA.out.keep hbk)
   have hSnew := H0k.out.s
   clear hbk
   clear H0 HB HA
   refine hK.out _ _ hSnew (fun hHeld6 => ?_)
   clear hK K hSnew hHeld
   have hHeld := hHeld6
   clear hHeld6
   try simp only [Act.put, zSt, zS0, zS1]
   have H0 := H0k
   have HB := HBk
   have HA := HAk
   have HC := HCk
   clear H0k HBk HAk HCk
   refine tk 7 ?_
   refine rd 8 (fun K hK => ?_)
   go_simp
   go_wp2_with fail
   have hSnew := (H0.out.keep (below_alloc U3 (.cells #[.int .i64 (B : Int), .int .i64 (P : Int), .int .i64 (S : Int), .slice (some ⟨gU2, 0, none⟩) B B, .map (some gU1), .chan (some x.c), .int .i64 x.fa, .int .i64 x.fk, .slice x.ma x.ml x.mc, .int .u8 x.ff, .bool x.hn, .bool false, .int .i64 0, .slice none 0 0] 102))).s
   refine hK.out _ _ hSnew (fun hHeld8 => ?_)
   clear hK K hSnew hHeld
   have hHeld := hHeld8
   clear hHeld8
   try simp only [Act.put, zSt, zS0, zS1]
   refine tk 9 ?_
   refine wpAnyH_done (by kernel_rfl) ?_ _
   exact hrest gU2 gU1 x U3 H0.out HA.out HB.out HC.out
  ·go_simp
   go_at_call 84
   refine (waiting_any _ sa n c fs (HR.out.below H0.out.bel) hn).mono ?_
   rintro e U2 ⟨x, rfl, hq, hbk⟩
   go_wp2_with fail
   have HCk := hide (EC.of (w := w) hq H0.out.bel.size)
   clear hq
   have H0k := hide (H0.out.keep hbk)
   have HBk := hide (HB.out.keep hbk)
   have hSnew := H0k.out.s
   clear hbk
   clear H0 HB
   refine hK.out _ _ hSnew (fun hHeld6 => ?_)
   clear hK K hSnew hHeld
   have hHeld := hHeld6
   clear hHeld6
   try simp only [Act.put, zSt, zS0, zS1]
   have H0 := H0k
   have HB := HBk
   have HC := HCk
   clear H0k HBk HCk
   refine rd 3 (fun K hK => ?_)
   go_simp
   go_wp2_with fail
   change K _ ((U2).alloc (.cells (rowB B) 106))
   have hbk : Below (U2).heap.size (U2) ((U2).alloc (.cells (rowB B) 106)) := below_alloc _ _
   have HAk : Hid (EA w ((U2).alloc (.cells (rowB B) 106)) (U2).heap.size B) := ⟨alloc_new _ _, H0.out.bel.size⟩
   have H0k := hide (H0.out.keep hbk)
   have HBk := hide (HB.out.keep hbk)
   have HCk := hide (HC.out.keep hbk)
   have hSnew := H0k.out.s
   clear hbk
   clear H0 HB HC
   refine hK.out _ _ hSnew (fun hHeld3 => ?_)
   clear hK K hSnew hHeld
   have hHeld := hHeld3
   clear hHeld3
   try simp only [Act.put, zSt, zS0, zS1]
   obtain ⟨gU3, hgU3⟩ : ∃ g, g = (U2).heap.size := ⟨_, rfl⟩
   obtain ⟨U3, hU3⟩ : ∃ u, u = ((U2).alloc (.cells (rowB B) 106)) := ⟨_, rfl⟩
   rw [← hgU3] at HAk ⊢
   rw [← hU3] at hHeld H0k HBk HCk HAk ⊢
   clear hU3 hgU3
   have H0 := H0k
   have HB := HBk
   have HC := HCk
   have HA := HAk
   clear H0k HBk HCk HAk
   refine tk 7 ?_
   refine rd 8 (fun K hK => ?_)
   go_simp
   go_wp2_with fail
   have hSnew := (H0.out.keep (below_alloc U3 (.cells #[.int .i64 (B : Int), .int .i64 (P : Int), .int .i64 (S : Int), .slice (some ⟨gU3, 0, none⟩) B B, .map (some gU1), .chan (some x.c), .int .i64 x.fa, .int .i64 x.fk, .slice x.ma x.ml x.mc, .int .u8 x.ff, .bool x.hn, .bool false, .int .i64 0, .slice none 0 0] 102))).s
   refine hK.out _ _ hSnew (fun hHeld8 => ?_)
   clear hK K hSnew hHeld
   have hHeld := hHeld8
   clear hHeld8
   try simp only [Act.put, zSt, zS0, zS1]
   refine tk 9 ?_
   refine wpAnyH_done (by kernel_rfl) ?_ _
   exact hrest gU3 gU1 x U3 H0.out HA.out HB.out HC.out
 ·go_simp
  go_at_call 84
  refine (waiting_any _ sa n c fs (HR.out.below H0.out.bel) hn).mono ?_
  rintro e U1 ⟨x, rfl, hq, hbk⟩
  go_wp2_with fail
  have HCk := hide (EC.of (w := w) hq H0.out.bel.size)
  clear hq
  have H0k := hide (H0.out.keep hbk)
  have hSnew := H0k.out.s
  clear hbk
  clear H0
  refine hK.out _ _ hSnew (fun hHeld6 => ?_)
  clear hK K hSnew hHeld
  have hHeld := hHeld6
  clear hHeld6
  try simp only [Act.put, zSt, zS0, zS1]
  have H0 := H0k
  have HC := HCk
  clear H0k HCk
  refine wpAnyH_ready (rs := [3, 4]) (by kernel_rfl) (by simp) ?_
  refine AllReadyH.cons (o := { dst := some 10, op := Op.makeSlice 96 (Operand.tmp 9) (Operand.tmp 9), type := 96, pos := "chip.go:79", after := #[{ on := 2, ground := Ground.data }, { on := 2, ground := Ground.data }], guard := none }) rfl (fun K hK => ?_) (AllReadyH.cons (o := { dst := some 11, op := Op.makeMap 97 none, type := 97, pos := "chip.go:79", after := #[], guard := none }) rfl (fun K hK => ?_) AllReadyH.nil)
  ·go_simp
   go_wp2_with fail
   change K _ ((U1).alloc (.cells (rowB B) 106))
   have hbk : Below (U1).heap.size (U1) ((U1).alloc (.cells (rowB B) 106)) := below_alloc _ _
   have HAk : Hid (EA w ((U1).alloc (.cells (rowB B) 106)) (U1).heap.size B) := ⟨alloc_new _ _, H0.out.bel.size⟩
   have H0k := hide (H0.out.keep hbk)
   have HCk := hide (HC.out.keep hbk)
   have hSnew := H0k.out.s
   clear hbk
   clear H0 HC
   refine hK.out _ _ hSnew (fun hHeld3 => ?_)
   clear hK K hSnew hHeld
   have hHeld := hHeld3
   clear hHeld3
   try simp only [Act.put, zSt, zS0, zS1]
   obtain ⟨gU2, hgU2⟩ : ∃ g, g = (U1).heap.size := ⟨_, rfl⟩
   obtain ⟨U2, hU2⟩ : ∃ u, u = ((U1).alloc (.cells (rowB B) 106)) := ⟨_, rfl⟩
   rw [← hgU2] at HAk ⊢
   rw [← hU2] at hHeld H0k HCk HAk ⊢
   clear hU2 hgU2
   have H0 := H0k
   have HC := HCk
   have HA := HAk
   clear H0k HCk HAk
   refine rd 4 (fun K hK => ?_)
   go_simp
   go_wp2_with fail
   change K _ ((U2).alloc (.map #[] 0))
   have hbk : Below (U2).heap.size (U2) ((U2).alloc (.map #[] 0)) := below_alloc _ _
   have HBk : Hid (EB w ((U2).alloc (.map #[] 0)) (U2).heap.size) := ⟨alloc_new _ _, H0.out.bel.size⟩
   have H0k := hide (H0.out.keep hbk)
   have HCk := hide (HC.out.keep hbk)
   have HAk := hide (HA.out.keep hbk)
   have hSnew := H0k.out.s
   clear hbk
   clear H0 HC HA
   refine hK.out _ _ hSnew (fun hHeld4 => ?_)
   clear hK K hSnew hHeld
   have hHeld := hHeld4
   clear hHeld4
   try simp only [Act.put, zSt, zS0, zS1]
   obtain ⟨gU3, hgU3⟩ : ∃ g, g = (U2).heap.size := ⟨_, rfl⟩
   obtain ⟨U3, hU3⟩ : ∃ u, u = ((U2).alloc (.map #[] 0)) := ⟨_, rfl⟩
   rw [← hgU3] at HBk ⊢
   rw [← hU3] at hHeld H0k HCk HAk HBk ⊢
   clear hU3 hgU3
   have H0 := H0k
   have HC := HCk
   have HA := HAk
   have HB := HBk
   clear H0k HCk HAk HBk
   refine tk 7 ?_
   refine rd 8 (fun K hK => ?_)
   go_simp
   go_wp2_with fail
   have hSnew := (H0.out.keep (below_alloc U3 (.cells #[.int .i64 (B : Int), .int .i64 (P : Int), .int .i64 (S : Int), .slice (some ⟨gU2, 0, none⟩) B B, .map (some gU3), .chan (some x.c), .int .i64 x.fa, .int .i64 x.fk, .slice x.ma x.ml x.mc, .int .u8 x.ff, .bool x.hn, .bool false, .int .i64 0, .slice none 0 0] 102))).s
   refine hK.out _ _ hSnew (fun hHeld8 => ?_)
   clear hK K hSnew hHeld
   have hHeld := hHeld8
   clear hHeld8
   try simp only [Act.put, zSt, zS0, zS1]
   refine tk 9 ?_
   refine wpAnyH_done (by kernel_rfl) ?_ _
   exact hrest gU2 gU3 x U3 H0.out HA.out HB.out HC.out
  ·go_simp
   go_wp2_with fail
   change K _ ((U1).alloc (.map #[] 0))
   have hbk : Below (U1).heap.size (U1) ((U1).alloc (.map #[] 0)) := below_alloc _ _
   have HBk : Hid (EB w ((U1).alloc (.map #[] 0)) (U1).heap.size) := ⟨alloc_new _ _, H0.out.bel.size⟩
   have H0k := hide (H0.out.keep hbk)
   have HCk := hide (HC.out.keep hbk)
   have hSnew := H0k.out.s
   clear hbk
   clear H0 HC
   refine hK.out _ _ hSnew (fun hHeld4 => ?_)
   clear hK K hSnew hHeld
   have hHeld := hHeld4
   clear hHeld4
   try simp only [Act.put, zSt, zS0, zS1]
   obtain ⟨gU2, hgU2⟩ : ∃ g, g = (U1).heap.size := ⟨_, rfl⟩
   obtain ⟨U2, hU2⟩ : ∃ u, u = ((U1).alloc (.map #[] 0)) := ⟨_, rfl⟩
   rw [← hgU2] at HBk ⊢
   rw [← hU2] at hHeld H0k HCk HBk ⊢
   clear hU2 hgU2
   have H0 := H0k
   have HC := HCk
   have HB := HBk
   clear H0k HCk HBk
   refine rd 3 (fun K hK => ?_)
   go_simp
   go_wp2_with fail
   change K _ ((U2).alloc (.cells (rowB B) 106))
   have hbk : Below (U2).heap.size (U2) ((U2).alloc (.cells (rowB B) 106)) := below_alloc _ _
   have HAk : Hid (EA w ((U2).alloc (.cells (rowB B) 106)) (U2).heap.size B) := ⟨alloc_new _ _, H0.out.bel.size⟩
   have H0k := hide (H0.out.keep hbk)
   have HCk := hide (HC.out.keep hbk)
   have HBk := hide (HB.out.keep hbk)
   have hSnew := H0k.out.s
   clear hbk
   clear H0 HC HB
   refine hK.out _ _ hSnew (fun hHeld3 => ?_)
   clear hK K hSnew hHeld
   have hHeld := hHeld3
   clear hHeld3
   try simp only [Act.put, zSt, zS0, zS1]
   obtain ⟨gU3, hgU3⟩ : ∃ g, g = (U2).heap.size := ⟨_, rfl⟩
   obtain ⟨U3, hU3⟩ : ∃ u, u = ((U2).alloc (.cells (rowB B) 106)) := ⟨_, rfl⟩
   rw [← hgU3] at HAk ⊢
   rw [← hU3] at hHeld H0k HCk HBk HAk ⊢
   clear hU3 hgU3
   have H0 := H0k
   have HC := HCk
   have HB := HBk
   have HA := HAk
   clear H0k HCk HBk HAk
   refine tk 7 ?_
   refine rd 8 (fun K hK => ?_)
   go_simp
   go_wp2_with fail
   have hSnew := (H0.out.keep (below_alloc U3 (.cells #[.int .i64 (B : Int), .int .i64 (P : Int), .int .i64 (S : Int), .slice (some ⟨gU3, 0, none⟩) B B, .map (some gU2), .chan (some x.c), .int .i64 x.fa, .int .i64 x.fk, .slice x.ma x.ml x.mc, .int .u8 x.ff, .bool x.hn, .bool false, .int .i64 0, .slice none 0 0] 102))).s
   refine hK.out _ _ hSnew (fun hHeld8 => ?_)
   clear hK K hSnew hHeld
   have hHeld := hHeld8
   clear hHeld8
   try simp only [Act.put, zSt, zS0, zS1]
   refine tk 9 ?_
   refine wpAnyH_done (by kernel_rfl) ?_ _
   exact hrest gU3 gU2 x U3 H0.out HA.out HB.out HC.out
end Go.Proofs.Ytadlkikjfonkgaa
