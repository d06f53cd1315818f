/-
  SEAT YtnmnhgagnfodhaaDoor: KWb, KEa, KEc.
-/
import Derived.Test.YtnmnhgagnfodhaaDoorMp
namespace Go.Proofs.YtnmnhgagnfodhaaDoor.Cp
open Go.RowKit Go.Conc
set_option linter.unusedVariables false
def fmb : Int → List Fc → Bool
 | _, [] => true
 | l, c :: r => if decide (c.a ≤ l) || (c.k != 1 && c.k != 2) then false else fmb c.a r
def faultsB (fs : List Fc) : Bool := decide (fs.length ≤ 4096) && fmb (-1) fs
set_option maxRecDepth 100000 in
theorem faults_any (w : World) (sa : Option Addr) (n c : Nat) (fs : List Fc) (hR : ReadsF w sa n fs) (hn : n ≤ 9223372036854775807) :
  Calls Tryd.prog 20 #[.slice sa n c] w fun e w' => e = .returned (.bool (faultsB fs)) ∧ Below w.heap.size w w' := by
 have hl := hR.1
 by_cases hbig : (n : Int) > 4096
 ·have hd : decide ((n : Int) > 4096) = true := decide_eq_true hbig
  have e1 : faultsB fs = false := by unfold faultsB; rw [decide_eq_false (by omega)]; rfl
  rw [e1]
  clear hR
  go_enter Tryd.func20, Tryd.ntmps20
  go_wp2
  go_ret
  exact ⟨rfl, Below.refl _ _⟩
 ·have hd : decide ((n : Int) > 4096) = false := decide_eq_false hbig
  have e1 : faultsB fs = fmb (-1) fs := by unfold faultsB; rw [decide_eq_true (by omega)]; rfl
  rw [e1]
  clear e1
  have HR := hide hR
  have HL := hide hl
  clear hR hl
  go_enter Tryd.func20, Tryd.ntmps20
  go_wp2
  go_loopw [3, 11] (fun s3 s11 wr => ∃ (m : Nat) (last : Int), m ≤ n ∧ s3 = .int .i64 last ∧ s11 = .int .i64 m ∧ Hid (Below w.heap.size w wr) ∧ Hid (fmb (-1) fs = fmb last (fs.drop m)))
   (fun s3 s11 _ => n - (intOf s11).toNat)
  case atStart => exact ⟨0, -1, Nat.zero_le _, rfl, rfl, Below.refl _ _, rfl⟩
  case round =>
   obtain ⟨m, last, hm, rfl, rfl, HB, HQ⟩ := hrel
   by_cases hlt : m < n
   ·obtain ⟨b, off, rfl, hb, hcells⟩ := HR.out.pos (by omega)
    obtain ⟨k0, k1, k2, k3⟩ := hcells m hlt
    obtain ⟨g, hg⟩ : ∃ g, fs.getD m Fc.zero = g := ⟨_, rfl⟩
    rw [hg] at k0 k1 k2 k3
    have d0 := (HB.out.cell (block_lt_of_cell k0)).trans k0
    have d1 := (HB.out.cell (block_lt_of_cell k1)).trans k1
    have d2 := (HB.out.cell (block_lt_of_cell k2)).trans k2
    have d3 := (HB.out.cell (block_lt_of_cell k3)).trans k3
    have HD : Hid (fmb last (fs.drop m) = if decide (g.a ≤ last) || (g.k != 1 && g.k != 2) then false else fmb g.a (fs.drop (m + 1))) := by
     have hml : m < fs.length := by rw [HL.out]; exact hlt
     unfold Hid
     rw [List.drop_eq_getElem_cons hml]
     rw [List.getD_eq_getElem?_getD, List.getElem?_eq_getElem hml] at hg
     rw [show fs[m] = g from hg]
     rfl
    have m1 : (m : Int) < (n : Int) := by omega
    have dm : decide ((m : Int) < (n : Int)) = true := decide_eq_true m1
    have HNB : Hid (Below w.heap.size w (wr.alloc (.cells #[.int .i64 g.a, .int .i64 g.k, .slice g.ma g.ml g.mc, .int .u8 g.f] 68))) := below_trans HB.out (below_alloc _ _)
    clear k0 k1 k2 k3 hg hcells
    cases h1 : decide (g.a ≤ last) with
    | true =>
     go_wp2
     go_ret
     exact ⟨by rw [HQ.out, HD.out, h1]; rfl, HNB.out⟩
    | false =>
     cases h2 : (g.k != 1) with
     | false =>
      go_wp2
      exact ⟨⟨m + 1, g.a, by omega, rfl, by simp, HNB.out, by rw [HQ.out, HD.out, h1, h2]; rfl⟩, by simp [intOf]; omega⟩
     | true =>
      cases h3 : (g.k != 2) with
      | false =>
       go_wp2
       exact ⟨⟨m + 1, g.a, by omega, rfl, by simp, HNB.out, by rw [HQ.out, HD.out, h1, h2, h3]; rfl⟩, by simp [intOf]; omega⟩
      | true =>
       go_wp2
       go_ret
       exact ⟨by rw [HQ.out, HD.out, h1, h2, h3]; rfl, HNB.out⟩
   ·have dm : decide ((m : Int) < (n : Int)) = false := decide_eq_false (by omega)
    go_wp2
    go_ret
    refine ⟨?_, HB.out⟩
    have hml : fs.length ≤ m := by rw [HL.out]; omega
    rw [HQ.out, List.drop_eq_nil_of_le hml]
    rfl
end Go.Proofs.YtnmnhgagnfodhaaDoor.Cp
namespace Go.Proofs.YtnmnhgagnfodhaaDoor.Cp
open Go.RowKit Go.Conc
set_option linter.unusedVariables false
theorem info76 : (Tryd.prog.info? 76).map (fun i => (i.zero, i.size, i.bytes)) = some (some (.agg #[.bool false, .bool false, .int .i64 0, .slice none 0 0]), 4, 40) := by kernel_rfl
theorem info107 : (Tryd.prog.info? 107).map (fun i => (i.zero, i.size, i.bytes)) = some (some (.agg #[.slice none 0 0, .bool false]), 2, 32) := by kernel_rfl
def z4 : List Value := [.bool false, .bool false, .int .i64 0, .slice none 0 0]
def z2 : List Value := [.slice none 0 0, .bool false]
theorem rep_get (l : List Value) (k : Nat) (hl : l.length = k) (hk : 0 < k) : ∀ (n i : Nat), i < n * k → ((List.replicate n l).flatMap id)[i]? = l[i % k]?
 | 0, i, h => by simp at h
 | n + 1, i, h => by
  rw [List.replicate_succ, List.flatMap_cons]
  by_cases hi : i < k
  ·rw [List.getElem?_append_left (by show i < l.length; omega), Nat.mod_eq_of_lt hi]; rfl
  ·rw [List.getElem?_append_right (by show l.length ≤ i; omega)]
   show ((List.replicate n l).flatMap id)[i - l.length]? = _
   rw [hl, rep_get l k hl hk n (i - k) (by rw [Nat.add_mul] at h; omega)]
   congr 1
   rw [← Nat.mod_eq_sub_mod (by omega)]
theorem rep_len (l : List Value) (k : Nat) (hl : l.length = k) (n : Nat) : ((List.replicate n l).flatMap id).length = n * k := by
 induction n with
 | zero => simp
 | succ n ih => rw [List.replicate_succ, List.flatMap_cons, List.length_append, ih]; show l.length + _ = _; rw [hl, Nat.add_mul]; omega
theorem made_eq (l : List Value) (k : Nat) (hl : l.length = k) (hk : 0 < k) (n : Nat) : madeCells l.toArray (n * k) = ((List.replicate n l).flatMap id).toArray := by
 apply Array.ext'
 refine List.ext_getElem? (fun i => ?_)
 by_cases hi : i < n * k
 ·rw [List.toList_toArray, rep_get l k hl hk n i hi]
  have hm : i % k < l.length := by rw [hl]; exact Nat.mod_lt _ hk
  simp [madeCells, List.getElem?_range hi, hl]
  rw [List.getElem?_eq_getElem hm]
  rfl
 ·rw [List.getElem?_eq_none (by simp [size_madeCells]; omega), List.getElem?_eq_none (by rw [List.toList_toArray, rep_len l k hl]; omega)]
def rowB (n : Nat) : Array Value := ((List.replicate n z4).flatMap id).toArray
def rowP (n : Nat) : Array Value := ((List.replicate n z2).flatMap id).toArray
theorem mk96 (w : World) (n : Nat) (hn : n ≤ 4096) : (Instr.makeSlice 64 (.int .i64 (n : Int)) (.int .i64 (n : Int))).run Tryd.prog w = .ok (.slice (some ⟨w.heap.size, 0, none⟩) n n) (w.alloc (.cells (rowB n) 76)) := by
 obtain ⟨i, hi, hz0, hz1, hb⟩ := info_parts info76
 have h := run_makeSlice (P := Tryd.prog) w 64 76 i _ Tryd.underlying64 hi hz0 .i64 .i64 (n : Int) (n : Int) (by omega) (by omega) (by rw [hz1]; simp; omega) (by rw [hb]; omega) (by omega)
 rw [hz1] at h
 simp only [Int.toNat_natCast] at h
 rw [h, rowB, ← made_eq z4 4 rfl (by omega) n]
 rfl
theorem mk104 (w : World) (n : Nat) (hn : n ≤ 4096) : (Instr.makeSlice 74 (.int .i64 (n : Int)) (.int .i64 (n : Int))).run Tryd.prog w = .ok (.slice (some ⟨w.heap.size, 0, none⟩) n n) (w.alloc (.cells (rowP n) 107)) := by
 obtain ⟨i, hi, hz0, hz1, hb⟩ := info_parts info107
 have h := run_makeSlice (P := Tryd.prog) w 74 107 i _ Tryd.underlying74 hi hz0 .i64 .i64 (n : Int) (n : Int) (by omega) (by omega) (by rw [hz1]; simp; omega) (by rw [hb]; omega) (by omega)
 rw [hz1] at h
 simp only [Int.toNat_natCast] at h
 rw [h, rowP, ← made_eq z2 2 rfl (by omega) n]
 rfl
def pc0 (L : Nat) : Pc := ⟨none, 0, 0, List.replicate L 255, false⟩
theorem pages0 (L n : Nat) : (List.replicate n z2).flatMap id = (List.replicate n (pc0 L)).flatMap Pc.cells := by
 induction n with
 | zero => rfl
 | succ n ih => rw [List.replicate_succ, List.replicate_succ, List.flatMap_cons, List.flatMap_cons, ih]; rfl
end Go.Proofs.YtnmnhgagnfodhaaDoor.Cp
namespace Go.Proofs.YtnmnhgagnfodhaaDoor.Cp
open Go.RowKit Go.Conc
set_option linter.unusedVariables false
theorem cells_len4 (bs : List Bc) : (bs.flatMap Bc.cells).length = bs.length * 4 := by
 induction bs with
 | nil => rfl
 | cons b r ih => rw [List.flatMap_cons, List.length_append, ih, List.length_cons]; show 4 + _ = _; omega
def rowM (bs : List Bc) (k : Nat) : List Value := bs.flatMap Bc.cells ++ (List.replicate k z4).flatMap id
theorem rowM_get (bs : List Bc) (k : Nat) : (rowM bs (k + 1))[bs.length * 4 + 3]? = some (.slice none 0 0) := by
 unfold rowM
 rw [List.getElem?_append_right (by rw [cells_len4]; omega), cells_len4, List.replicate_succ, List.flatMap_cons]
 rw [show bs.length * 4 + 3 - bs.length * 4 = 3 by omega]
 rfl
theorem rowM_set (bs : List Bc) (k g P : Nat) (ps : List Pc) (hp : ps.length = P) : (rowM bs (k + 1)).set (bs.length * 4 + 3) (.slice (some ⟨g, 0, none⟩) P P) = rowM (bs ++ [⟨false, false, 0, g, ps⟩]) k := by
 unfold rowM
 rw [List.set_append_right _ _ (by rw [cells_len4]; omega), cells_len4, List.replicate_succ, List.flatMap_cons, show bs.length * 4 + 3 - bs.length * 4 = 3 by omega, List.flatMap_append, List.append_assoc]
 congr 1
 subst hp
 rfl
def bl0 (P L : Nat) : Bl := ⟨false, false, 0, List.replicate P ⟨List.replicate L 255, false⟩⟩
structure EL (w u : World) (p gb gm : Nat) (x y : Bx) (B P S : Nat) (q : List Ft) (m : Nat) (bs : List Bc) : Prop where
 e0 : Below w.heap.size w u
 bx : u.heap[w.heap.size]? = some (.cells #[.int .i64 (B : Int), .int .i64 (P : Int), .int .i64 (S : Int)] 30 (0, 0))
 box : y.at u p
 hp : w.heap.size ≤ p
 row : u.heap[gb]? = some (.cells (rowM bs (B - m)).toArray 76 (0, 0))
 hgb : w.heap.size ≤ gb
 map : u.heap[gm]? = some (.map #[] 0)
 hgm : w.heap.size ≤ gm
 scr : QAt u (fun k => w.heap.size ≤ k ∧ k < u.heap.size) x q
 ok : ∀ b ∈ bs, BcOk u (fun k => w.heap.size ≤ k ∧ k < u.heap.size) (pgB S) P b
 len : bs.length = m
 vs : bs.map Bc.v = List.replicate m (bl0 P (pgB S))
 gs : bs.Pairwise (fun b c => b.g ≠ c.g)
theorem pc0_ok (w : World) (F : Nat → Prop) (L : Nat) : PcOk w F L (pc0 L) := ⟨by simp [pc0], fun y hy => by have := (List.mem_replicate.1 hy).2; omega, Or.inl ⟨rfl, rfl, rfl, rfl⟩⟩
theorem EL.step {w u : World} {p gb gm : Nat} {x y : Bx} {B P S : Nat} {q : List Ft} {m : Nat} {bs : List Bc} (h : EL w u p gb gm x y B P S q m bs) (hm : m < B) :
  EL w ((u.drew.alloc (.cells (rowP P) 107)).setCell ⟨gb, m * 4 + 3, none⟩ (.slice (some ⟨u.heap.size, 0, none⟩) P P)) p gb gm x y B P S q (m + 1) (bs ++ [⟨false, false, 0, u.heap.size, List.replicate P (pc0 (pgB S))⟩]) := by
 have hB1 : Below u.heap.size u (u.drew.alloc (.cells (rowP P) 107)) := below_trans (drew_below u) (below_alloc _ _)
 have hnew : (u.drew.alloc (.cells (rowP P) 107)).heap[u.heap.size]? = some (.cells (rowP P) 107 (0, 0)) := alloc_new u.drew _
 have hrow1 := (hB1.block _ (lt_of_block h.row)).trans h.row
 obtain ⟨V, hV⟩ : ∃ V, V = u.drew.alloc (.cells (rowP P) 107) := ⟨_, rfl⟩
 rw [← hV] at hB1 hnew hrow1 ⊢
 clear hV
 have hrow2 := heap_setCell_same V gb (m * 4 + 3) _ 76 (.slice (some ⟨u.heap.size, 0, none⟩) P P) hrow1
 have hO := Only.setCell (· = gb) V gb (m * 4 + 3) (.slice (some ⟨u.heap.size, 0, none⟩) P P) rfl
 obtain ⟨Z, hZ⟩ : ∃ Z, Z = V.setCell ⟨gb, m * 4 + 3, none⟩ (.slice (some ⟨u.heap.size, 0, none⟩) P P) := ⟨_, rfl⟩
 rw [← hZ] at hrow2 hO ⊢
 clear hZ
 have hU : Only (· = gb) u Z := (Only.ofB hB1).trans hO (fun _ _ h => h)
 have hgl := lt_of_block h.row
 have hnl := lt_of_block hnew
 have hT : ∀ F, KeepT F (· = 76) u Z := fun F => hU.keepT (fun k o t hk ho ht => by
  rw [hk, h.row] at ho
  cases ho
  exact ht.symm)
 have hF : ∀ k, (w.heap.size ≤ k ∧ k < u.heap.size) → (w.heap.size ≤ k ∧ k < Z.heap.size) := fun k hk => ⟨hk.1, Nat.lt_of_lt_of_le hk.2 hU.size⟩
 have hl := h.len
 refine ⟨?_, ?_, ?_, h.hp, ?_, h.hgb, ?_, h.hgm, ?_, ?_, ?_, ?_, ?_⟩
 ·exact ((Only.ofB (F := fun k => w.heap.size ≤ k) h.e0).trans hU (fun k _ e => by rw [e]; exact h.hgb)).below (fun _ h => h) (Nat.le_refl _)
 ·exact hT (fun _ => True) _ _ 30 trivial h.bx rfl (by decide)
 ·exact hT (fun _ => True) _ _ 73 trivial h.box rfl (by decide)
 ·rw [hrow2, List.setIfInBounds_toArray, show B - m = (B - (m + 1)) + 1 by omega, ← hl, rowM_set bs _ u.heap.size P (List.replicate P (pc0 (pgB S))) (by simp)]
 ·exact hT (fun _ => True) _ _ 1001 trivial h.map rfl (by decide)
 ·exact h.scr.keep (hT _) (by decide) (by decide) hF ⟨rfl, rfl, rfl, rfl, rfl, rfl, rfl⟩ rfl
 ·intro b hb
  rcases List.mem_append.1 hb with h1 | h1
  ·exact (h.ok b h1).keep (hT _) (by decide) hF ((hT (fun _ => True) _ _ 107 trivial (h.ok b h1).row rfl (by decide)).trans (h.ok b h1).row.symm)
  ·simp at h1
   subst h1
   refine ⟨?_, ⟨h.e0.size, Nat.lt_of_lt_of_le hnl hO.size⟩, by simp, fun c hc => ?_⟩
   ·rw [← pages0 (pgB S) P]
    exact (hO.block _ hnl (by omega)).trans hnew
   ·rw [(List.mem_replicate.1 hc).2]
    exact pc0_ok _ _ _
 ·simp [hl]
 ·rw [List.map_append, h.vs, List.replicate_succ']
  congr 1
  simp [Bc.v, bl0, Pc.v, pc0]
 ·rw [List.pairwise_append]
  refine ⟨h.gs, by simp, fun a ha c hc => ?_⟩
  simp at hc
  subst hc
  have := (h.ok a ha).fg.2
  show a.g ≠ u.heap.size
  omega
def emptyC (B P S : Nat) (q : List Ft) : Ch := ⟨B, P, S, List.replicate B (bl0 P (pgB S)), fun _ _ => [], q, false, 0, []⟩
def boxY (x : Bx) (B P S gb gm : Nat) : Bx := { x with B := B, P := P, S := S, gb := gb, nb := B, gm := gm, dark := false, cnt := 0, ta := none, tl := 0, tc := 0 }
theorem EL.chip {w u : World} {p gb gm : Nat} {x : Bx} {B P S : Nat} {q : List Ft} {bs : List Bc} (h : EL w u p gb gm x (boxY x B P S gb gm) B P S q B bs) :
  CAt u p (fun k => w.heap.size ≤ k ∧ k < u.heap.size) (emptyC B P S q) (boxY x B P S gb gm) bs [] := by
 refine ⟨h.box, ⟨h.hp, lt_of_block h.box⟩, rfl, rfl, rfl, h.len.symm, rfl, rfl, ?_, ⟨h.hgb, lt_of_block h.row⟩, h.vs, h.ok, h.gs, ⟨⟨#[], 0, h.map, rfl, ⟨fun e he => by simp at he, by simp⟩⟩, ⟨h.hgm, lt_of_block h.map⟩, List.Pairwise.nil, List.Pairwise.nil, fun f hf => by cases hf⟩, fun _ _ => rfl, h.scr.keep (T := fun _ => False) (KeepT.of (fun _ _ => rfl) _) (fun h => h) (fun h => h) (fun _ h => h) ⟨rfl, rfl, rfl, rfl, rfl, rfl, rfl⟩ rfl, ⟨World.ownsRow_nil _ _ _ _, rfl, fun g hg => by cases hg⟩, fun k hk => hk.2⟩
 have hr := h.row
 rw [Nat.sub_self] at hr
 unfold rowM at hr
 simp at hr
 show u.heap[gb]? = _
 rw [hr]
end Go.Proofs.YtnmnhgagnfodhaaDoor.Cp
