/-
  SEAT Ytadlkikjfonkgaa: Ff, Ia, Ga, Gb.
-/
import Derived.Test.YtadlkikjfonkgaaPw
import Derived.Test.YtadlkikjfonkgaaPa
namespace Go.Proofs.Ytadlkikjfonkgaa
open Go.RowKit Go.Conc
set_option linter.unusedVariables false
theorem noteC_len (k a b : Int) (r : Int × Ch) : (noteC k a b r).2.tr.length = r.2.tr.length + 1 := by simp [noteC]
theorem ProgramC_tr (C : Ch) (pb pp : Int) (n1 n2 : Nat) (want : List Int) : (ProgramC C pb pp n1 n2 want).2.tr.length ≤ C.tr.length + 1 := by
 unfold ProgramC
 split
 ·exact Nat.le_succ _
 split
 ·exact Nat.le_succ _
 rw [noteC_len]
 unfold progC
 split
 ·exact Nat.le_refl _
 split
 ·exact Nat.le_refl _
 split
 ·exact Nat.le_refl _
 split <;> exact Nat.le_refl _
theorem EraseC_tr (C : Ch) (pb : Int) : (EraseC C pb).2.tr.length ≤ C.tr.length + 1 := by
 unfold EraseC
 split
 ·exact Nat.le_succ _
 rw [noteC_len, eraseC_tr]
 exact Nat.le_refl _
theorem MarkC_tr (C : Ch) (pb : Int) : (MarkC C pb).2.tr.length ≤ C.tr.length + 1 := by
 unfold MarkC
 split
 ·exact Nat.le_succ _
 rw [noteC_len, markC_tr]
 exact Nat.le_refl _
theorem FlipC_tr (C : Ch) (pb pp bit : Int) : (FlipC C pb pp bit).2.tr = C.tr := by
 unfold FlipC
 split
 ·rfl
 split
 ·rfl
 split
 ·rfl
 split <;> rfl
structure Life (C : Ch) (n : Nat) : Prop where
 ok : C.Ok
 tr : C.tr.length ≤ n
 fl : FlN C n
theorem Life.does {C : Ch} {n : Nat} (h : Life C n) (o : Opc) : Life (doesC C o).2 (n + 1) := by
 have hl : Life C (n + 1) := ⟨h.ok, Nat.le_succ_of_le h.tr, h.fl.mono (Nat.le_succ _)⟩
 have htr := h.tr
 unfold doesC
 split
 ·exact ⟨ProgramC_ok _ h.ok _ _ _ _ _, Nat.le_trans (ProgramC_tr _ _ _ _ _ _) (by omega), fun b p => by rw [ProgramC_fl]; exact hl.fl b p⟩
 split
 ·exact ⟨EraseC_ok _ h.ok _, Nat.le_trans (EraseC_tr _ _) (by omega), EraseC_fl hl.fl _⟩
 split
 ·exact ⟨MarkC_ok _ h.ok _, Nat.le_trans (MarkC_tr _ _) (by omega), fun b p => by rw [MarkC_fl]; exact hl.fl b p⟩
 split
 ·exact ⟨FlipC_ok _ h.ok _ _ _, by rw [FlipC_tr]; omega, FlipC_fl h.fl _ _ _⟩
 split
 ·exact ⟨On_ok _ h.ok, hl.tr, hl.fl⟩
 ·exact hl
theorem newC_life (B P S : Nat) (bad : List Int) (q : List Ft) (hf : Fits B P S = true) : Life (newC B P S bad q) 0 := ⟨newC_ok B P S bad q hf, Nat.le_refl _, newC_fl B P S bad q⟩
theorem fmb_cons {l : Int} {c : Fc} {r : List Fc} (h : fmb l (c :: r) = true) : (decide (c.a ≤ l) || (c.k != 1 && c.k != 2)) = false ∧ fmb c.a r = true := by
 unfold fmb at h
 split at h
 ·cases h
 ·rename_i h1
  exact ⟨by simpa using h1, h⟩
theorem fmb_mono {l l' : Int} (hl : l' ≤ l) : ∀ {fs : List Fc}, fmb l fs = true → fmb l' fs = true
 | [], _ => rfl
 | c :: r, h => by
  obtain ⟨h1, h2⟩ := fmb_cons h
  have h3 : (decide (c.a ≤ l') || (c.k != 1 && c.k != 2)) = false := by
   rw [Bool.or_eq_false_iff] at h1 ⊢
   refine ⟨decide_eq_false (fun h9 => ?_), h1.2⟩
   have := of_decide_eq_false h1.1
   omega
  unfold fmb
  rw [if_neg (by rw [h3]; decide)]
  exact h2
theorem fmb_rises : ∀ (fs : List Fc) (last : Int), fmb last fs = true → (∀ f ∈ fs, last < f.a) ∧ fs.Pairwise (fun f g => f.a < g.a) ∧ ∀ n : Int, fmb last (fs.filter (fun f => decide (f.a < n))) = true
 | [], last, _ => ⟨(fun f hf => by cases hf), List.Pairwise.nil, fun _ => rfl⟩
 | c :: r, last, h => by
  obtain ⟨h1, h2⟩ := fmb_cons h
  obtain ⟨i1, i2, i3⟩ := fmb_rises r c.a h2
  have hc : last < c.a := by
   rw [Bool.or_eq_false_iff] at h1
   have := of_decide_eq_false h1.1
   omega
  refine ⟨fun f hf => ?_, List.pairwise_cons.2 ⟨i1, i2⟩, fun n => ?_⟩
  ·rcases List.mem_cons.1 hf with rfl | hf
   ·exact hc
   ·have := i1 f hf; omega
  ·by_cases hn : c.a < n
   ·rw [List.filter_cons_of_pos (by simpa using hn)]
    unfold fmb
    rw [if_neg (by rw [h1]; decide)]
    exact i3 n
   ·rw [List.filter_cons_of_neg (by simpa using hn)]
    exact fmb_mono (by omega) (i3 n)
def Fc.row (c : Fc) : List Value := [.int .i64 c.a, .int .i64 c.k, .slice c.ma c.ml c.mc, .int .u8 c.f]
theorem Fc.row_len (c : Fc) : c.row.length = 4 := rfl
theorem readsF_own {u : World} {B n c : Nat} {a : Option Addr} {xs : List Fc} (h : u.ownsRow B 58 4 (.slice a n c) n (xs.flatMap Fc.row)) (hok : ∀ x ∈ xs, FcOk u x) : ReadsF u a n xs := by
 have hl := flat_len Fc.row 4 Fc.row_len xs
 have hn : xs.length = n := by have := h.1; omega
 refine ⟨hn, hok, ?_, fun y hy i hi j hj => ?_⟩
 ·intro ha
  rcases h.2 with ⟨_, h0⟩ | ⟨g, cap, cur, hv, _⟩
  ·exact h0
  ·rw [ha] at hv; cases hv
 ·obtain ⟨g, c', hv, _⟩ := h.form (by omega)
  cases hv
  cases hy
  rw [plain_add, Nat.zero_add]
  have hil : i < xs.length := by omega
  rw [World.ownsRow.cellAt h (i * 4 + j) (by omega), flat_get Fc.row 4 Fc.row_len j hj xs i xs[i] (List.getElem?_eq_getElem hil)]
  rw [List.getD_eq_getElem?_getD, List.getElem?_eq_getElem hil]
  simp only [Option.getD_some]
  rcases j with _ | _ | _ | _ | j
  ·rfl
  ·rfl
  ·rfl
  ·rfl
  ·omega
theorem owns_bel {u v' : World} {B e size n : Nat} {v : Value} {xs : List Value} (h : u.ownsRow B e size v n xs) (hb : Below u.heap.size u v') : v'.ownsRow B e size v n xs := owns_keep h (fun g hg => by obtain ⟨cs, hcs⟩ := own_tag h hg; exact hb.block g (lt_of_block hcs))
end Go.Proofs.Ytadlkikjfonkgaa
namespace Go.Proofs.Ytadlkikjfonkgaa
open Go.RowKit Go.Conc
set_option linter.unusedVariables false
theorem info4 : (Try.prog.info? 4).map (fun i => (i.zero, i.size, i.bytes)) = some (some (.bool false), 1, 1) := by kernel_rfl
theorem mk24 (w : World) (n : Nat) (hn : n ≤ 1000000000) : (Instr.makeSlice 24 (.int .i64 0) (.int .i64 (n : Int))).run Try.prog w = .ok (.slice (some ⟨w.heap.size, 0, none⟩) 0 n) (w.alloc (.cells (madeCells #[.int .u8 0] n) 5)) := by
 obtain ⟨i, hi, hz0, hz1, hb⟩ := info_parts info5
 have h := run_make (P := Try.prog) w 24 5 i _ Try.underlying24 hi hz0 .i64 .i64 (0 : Int) (n : Int) (by omega) (by omega) (by rw [hb]; omega) (by omega)
 rw [hz1] at h
 simp only [Int.toNat_natCast, Nat.mul_one] at h
 exact h
theorem mk25 (w : World) (n : Nat) (hn : n ≤ 4096) : (Instr.makeSlice 25 (.int .i64 (n : Int)) (.int .i64 (n : Int))).run Try.prog w = .ok (.slice (some ⟨w.heap.size, 0, none⟩) n n) (w.alloc (.cells (List.replicate n (.bool false)).toArray 4)) := by
 obtain ⟨i, hi, hz0, hz1, hb⟩ := info_parts info4
 have h := run_makeSlice (P := Try.prog) w 25 4 i _ Try.underlying25 hi hz0 .i64 .i64 (n : Int) (n : Int) (by omega) (by omega) (by rw [hz1]; simp; omega) (by rw [hb]; omega) (by omega)
 rw [hz1] at h
 simp only [Int.toNat_natCast] at h
 rw [h]
 have e := made_eq [.bool false] 1 rfl (by omega) n
 have e2 : (List.replicate n [Value.bool false]).flatMap id = List.replicate n (.bool false) := by
  clear e h hn
  induction n with
  | zero => rfl
  | succ n ih => rw [List.replicate_succ, List.replicate_succ, List.flatMap_cons, ih]; rfl
 rw [e2] at e
 rw [← e]
 rfl
structure I0 (w U : World) : Prop where
 bel : Below w.heap.size w U
 bx : U.heap[w.heap.size]? = some (.cells #[.int .i64 0, .int .i64 0, .int .i64 0, .slice none 0 0, .slice none 0 0] 27 (0, 0))
def IC (w U : World) (g n : Nat) : Prop := Own U (w.heap.size + 1) g 0 n []
def IM (w U : World) (g B : Nat) : Prop := U.heap[g]? = some (.cells (List.replicate B (.bool false)).toArray 4 (0, 0)) ∧ w.heap.size + 1 ≤ g
def IX (w U : World) (g : Nat) : Prop := U.heap[g]? = some (.cells #[.int .i64 0, .int .i64 0, .int .i64 0, .slice none 0 0, .slice none 0 0] 27 (0, 0)) ∧ w.heap.size + 1 ≤ g
theorem I0.lt {w U : World} (h : I0 w U) : w.heap.size + 1 ≤ U.heap.size := lt_of_block h.bx
theorem I0.keep {w U V : World} (h : I0 w U) (hb : Below U.heap.size U V) : I0 w V := ⟨h.bel.trans (hb.mono h.bel.size), (hb.block _ (lt_of_block h.bx)).trans h.bx⟩
theorem IC.keep {w U V : World} {g n : Nat} (h : IC w U g n) (hb : Below U.heap.size U V) : IC w V g n := Own.below h hb
theorem IM.keep {w U V : World} {g n : Nat} (h : IM w U g n) (hb : Below U.heap.size U V) : IM w V g n := ⟨(hb.block _ (lt_of_block h.1)).trans h.1, h.2⟩
theorem IX.keep {w U V : World} {g : Nat} (h : IX w U g) (hb : Below U.heap.size U V) : IX w V g := ⟨(hb.block _ (lt_of_block h.1)).trans h.1, h.2⟩
theorem ic_new (w U : World) (n : Nat) (hn : n ≤ 1000000000) (hU : w.heap.size + 1 ≤ U.heap.size) : IC w (U.alloc (.cells (madeCells #[.int .u8 0] n) 5)) U.heap.size n :=
 ⟨rfl, Or.inr ⟨U.heap.size, n, _, rfl, hU, alloc_new _ _, Nat.zero_le _, by simp only [maxLen]; omega, by simp [size_madeCells], by simp⟩⟩
def IS (p : Nat) (C : Ch) (u : World) : Prop := u.cell? ⟨p, 0, none⟩ = some (.int .i64 (C.B : Int)) ∧ u.cell? ⟨p, 1, none⟩ = some (.int .i64 (C.P : Int)) ∧ u.cell? ⟨p, 2, none⟩ = some (.int .i64 (C.S : Int))
theorem CAt.is {w U : World} {p : Nat} {F : Nat → Prop} {C : Ch} {x : Bx} {bs : List Bc} {fe : List Fe} (h : CAt w p F C x bs fe) (h0 : I0 w U) : IS p C U := by
 have hK := h.below h0.bel
 have b0 := hK.box.c0
 have b1 := hK.box.c1
 have b2 := hK.box.c2
 rw [hK.B] at b0
 rw [hK.P] at b1
 rw [hK.S] at b2
 exact ⟨b0, b1, b2⟩
theorem cells5 {w : World} {g : Nat} {c0 c1 c2 c3 c4 : Value} {T : TypeId} (h : w.heap[g]? = some (.cells #[c0, c1, c2, c3, c4] T (0, 0))) : w.cell? ⟨g, 0, none⟩ = some c0 ∧ w.cell? ⟨g, 1, none⟩ = some c1 ∧ w.cell? ⟨g, 2, none⟩ = some c2 ∧ w.cell? ⟨g, 3, none⟩ = some c3 ∧ w.cell? ⟨g, 4, none⟩ = some c4 := by
 refine ⟨?_, ?_, ?_, ?_, ?_⟩ <;> simp [World.cell?, h]
theorem only50 (w : World) (p : Nat) (v0 v1 v2 v3 v4 : Value) : Only (· = p) w (((((w.setCell ⟨p, 0, none⟩ v0).setCell ⟨p, 1, none⟩ v1).setCell ⟨p, 2, none⟩ v2).setCell ⟨p, 3, none⟩ v3).setCell ⟨p, 4, none⟩ v4) :=
 ((((Only.setCell (· = p) w p 0 v0 rfl).trans' (Only.setCell _ _ p 1 v1 rfl)).trans' (Only.setCell _ _ p 2 v2 rfl)).trans' (Only.setCell _ _ p 3 v3 rfl)).trans' (Only.setCell _ _ p 4 v4 rfl)
theorem set50 {w : World} {g : Nat} {c0 c1 c2 c3 c4 : Value} {T : TypeId} (h : w.heap[g]? = some (.cells #[c0, c1, c2, c3, c4] T (0, 0))) (v0 v1 v2 v3 v4 : Value) : (((((w.setCell ⟨g, 0, none⟩ v0).setCell ⟨g, 1, none⟩ v1).setCell ⟨g, 2, none⟩ v2).setCell ⟨g, 3, none⟩ v3).setCell ⟨g, 4, none⟩ v4).heap[g]? = some (.cells #[v0, v1, v2, v3, v4] T (0, 0)) :=
 heap_setCell_same _ g 4 #[v0, v1, v2, v3, c4] T v4 (heap_setCell_same _ g 3 #[v0, v1, v2, c3, c4] T v3 (heap_setCell_same _ g 2 #[v0, v1, c2, c3, c4] T v2 (heap_setCell_same _ g 1 #[v0, c1, c2, c3, c4] T v1 (heap_setCell_same w g 0 #[c0, c1, c2, c3, c4] T v0 h))))
theorem i0_set {w U : World} {gx : Nat} (h : I0 w U) (hx : IX w U gx) (v0 v1 v2 v3 v4 : Value) : I0 w (((((U.setCell ⟨gx, 0, none⟩ v0).setCell ⟨gx, 1, none⟩ v1).setCell ⟨gx, 2, none⟩ v2).setCell ⟨gx, 3, none⟩ v3).setCell ⟨gx, 4, none⟩ v4) := by
 have ho := only50 U gx v0 v1 v2 v3 v4
 have h2 := hx.2
 exact ⟨h.bel.trans (ho.below (fun j hj => by rw [hj]; omega) h.bel.size), (ho.block _ (lt_of_block h.bx) (by omega)).trans h.bx⟩
theorem img_le {C : Ch} (h : C.Ok) : C.B * C.P * pgB C.S ≤ 1000000000 := by
 have h1 := of_decide_eq_true h.fits
 have h2 : C.B * C.P ≤ 65536 := by have := h1; omega
 exact Nat.le_trans (Nat.mul_le_mul h2 (pgB_le h.s.2)) (by decide)
def imgB (C : Ch) (i : Nat) : List Int := (List.range C.P).flatMap (fun k => readL C i k)
def imgL (C : Ch) : List Int := (List.range C.B).flatMap (fun i => imgB C i)
def preL (C : Ch) (i k : Nat) : List Int := (List.range i).flatMap (imgB C) ++ (List.range k).flatMap (readL C i)
theorem preL_page (C : Ch) (i k : Nat) : preL C i (k + 1) = preL C i k ++ readL C i k := by
 unfold preL
 rw [List.range_succ, List.flatMap_append]
 simp
theorem preL_block (C : Ch) (i : Nat) : preL C i C.P = preL C (i + 1) 0 := by
 unfold preL
 rw [List.range_succ, List.flatMap_append]
 simp [imgB]
theorem preL_all (C : Ch) : preL C C.B 0 = imgL C := by
 unfold preL imgL
 simp
structure IR (w u : World) (C : Ch) (gx gm gc n cc : Nat) (cs : List Int) (m : Nat) : Prop where
 i0 : I0 w u
 hx : w.heap.size + 1 ≤ gx
 hm : w.heap.size + 1 ≤ gm
 box : u.heap[gx]? = some (.cells #[.int .i64 (C.B : Int), .int .i64 (C.P : Int), .int .i64 (C.S : Int), .slice (some ⟨gc, 0, none⟩) n cc, .slice (some ⟨gm, 0, none⟩) C.B C.B] 27 (0, 0))
 own : Own u (w.heap.size + 1) gc n cc cs
 mks : u.heap[gm]? = some (.cells ((C.bl.take m).map (fun (b : Bl) => Value.bool b.m) ++ List.replicate (C.B - m) (Value.bool false)).toArray 4 (0, 0))
theorem IR.start {w U : World} {C : Ch} {gx gm gc n : Nat} (h0 : I0 w U) (hl : IC w U gc n) (hm : IM w U gm C.B) (hx : IX w U gx) (v0 v1 v2 v3 v4 : Value) (e0 : v0 = .int .i64 (C.B : Int)) (e1 : v1 = .int .i64 (C.P : Int)) (e2 : v2 = .int .i64 (C.S : Int)) (e3 : v3 = .slice (some ⟨gc, 0, none⟩) 0 n) (e4 : v4 = .slice (some ⟨gm, 0, none⟩) C.B C.B) :
  IR w (((((U.setCell ⟨gx, 0, none⟩ v0).setCell ⟨gx, 1, none⟩ v1).setCell ⟨gx, 2, none⟩ v2).setCell ⟨gx, 3, none⟩ v3).setCell ⟨gx, 4, none⟩ v4) C gx gm gc 0 n (preL C 0 0) 0 := by
 subst e0 e1 e2 e3 e4
 have ho := only50 U gx (.int .i64 (C.B : Int)) (.int .i64 (C.P : Int)) (.int .i64 (C.S : Int)) (.slice (some ⟨gc, 0, none⟩) 0 n) (.slice (some ⟨gm, 0, none⟩) C.B C.B)
 refine ⟨i0_set h0 hx _ _ _ _ _, hx.2, hm.2, set50 hx.1 _ _ _ _ _, ?_, ?_⟩
 ·refine owns_keep hl (fun g hg => ?_)
  obtain ⟨cs, hc⟩ := own_tag hl hg
  exact ho.block g (lt_of_block hc) (tag_ne hc hx.1 (t := 5) (u := 27) rfl rfl (by decide))
 ·rw [ho.block gm (lt_of_block hm.1) (tag_ne hm.1 hx.1 (t := 4) (u := 27) rfl rfl (by decide)), hm.1]
  simp
theorem IR.keep {w u v : World} {C : Ch} {gx gm gc n cc : Nat} {cs : List Int} {m : Nat} (h : IR w u C gx gm gc n cc cs m) (hb : Below u.heap.size u v) : IR w v C gx gm gc n cc cs m :=
 ⟨h.i0.keep hb, h.hx, h.hm, (hb.block _ (lt_of_block h.box)).trans h.box, h.own.below hb, (hb.block _ (lt_of_block h.mks)).trans h.mks⟩
theorem mk_set {l : List Bl} {B m : Nat} {b : Bl} (hl : l.length = B) (hb : l[m]? = some b) : ((l.take m).map (fun (b : Bl) => Value.bool b.m) ++ List.replicate (B - m) (Value.bool false)).set m (.bool b.m) = (l.take (m + 1)).map (fun (b : Bl) => Value.bool b.m) ++ List.replicate (B - (m + 1)) (Value.bool false) := by
 have hm : m < l.length := by
  rcases Nat.lt_or_ge m l.length with h | h
  ·exact h
  ·rw [List.getElem?_eq_none h] at hb; cases hb
 have e : l.take (m + 1) = l.take m ++ [b] := by rw [List.take_add_one, hb]; rfl
 rw [e, show B - m = (B - (m + 1)) + 1 by omega, List.replicate_succ, List.set_append_right _ _ (by simp; omega)]
 have e2 : m - ((l.take m).map (fun (b : Bl) => Value.bool b.m)).length = 0 := by simp; omega
 rw [e2]
 simp
theorem IR.mark {w u : World} {C : Ch} {gx gm gc n cc : Nat} {cs : List Int} {m : Nat} {b : Bl} (h : IR w u C gx gm gc n cc cs m) (hl : C.bl.length = C.B) (hb : C.bl[m]? = some b) : IR w (u.setCell ⟨gm, m, none⟩ (.bool b.m)) C gx gm gc n cc cs (m + 1) := by
 have ho := Only.setCell (· = gm) u gm m (.bool b.m) rfl
 have hm := h.hm
 refine ⟨⟨h.i0.bel.trans (ho.below (fun j hj => by rw [hj]; omega) h.i0.bel.size), (ho.block _ (lt_of_block h.i0.bx) (by omega)).trans h.i0.bx⟩, h.hx, h.hm, (ho.block _ (lt_of_block h.box) (tag_ne h.box h.mks (t := 27) (u := 4) rfl rfl (by decide))).trans h.box, ?_, ?_⟩
 ·refine owns_keep h.own (fun g hg => ?_)
  obtain ⟨cs, hc⟩ := own_tag h.own hg
  exact ho.block g (lt_of_block hc) (tag_ne hc h.mks (t := 5) (u := 4) rfl rfl (by decide))
 ·have h1 := heap_setCell_same u gm m _ 4 (.bool b.m) h.mks
  rw [h1]
  simp only [List.setIfInBounds_toArray]
  rw [mk_set hl hb]
theorem IR.mcell {w u : World} {C : Ch} {gx gm gc n cc : Nat} {cs : List Int} {m : Nat} (h : IR w u C gx gm gc n cc cs m) (hl : C.bl.length = C.B) (hm : m < C.B) : u.cell? ⟨gm, m, none⟩ = some (Value.bool false) := by
 have e : ((C.bl.take m).map (fun (b : Bl) => Value.bool b.m) ++ List.replicate (C.B - m) (Value.bool false))[m]? = some (Value.bool false) := by
  rw [List.getElem?_append_right (by simp; omega), List.getElem?_replicate, if_pos (by simp; omega)]
 simp only [World.cell?, h.mks, List.getElem?_toArray]
 exact e
theorem IR.app1 {w t w1 : World} {C : Ch} {gx gm gc n cc : Nat} {cs : List Int} {i : Nat} (h : IR w t C gx gm gc n cc cs i) (hg : t.grownBy w1 (some gc)) : w1.heap[gx]? = some (.cells #[.int .i64 (C.B : Int), .int .i64 (C.P : Int), .int .i64 (C.S : Int), .slice (some ⟨gc, 0, none⟩) n cc, .slice (some ⟨gm, 0, none⟩) C.B C.B] 27 (0, 0)) := by
 obtain ⟨cs', hc⟩ := own_tag h.own (g := gc) rfl
 exact (hg.block gx (lt_of_block h.box) (fun e => tag_ne h.box hc (t := 27) (u := 5) rfl rfl (by decide) (Option.some.inj e))).trans h.box
theorem IR.app {w t w1 : World} {C : Ch} {gx gm gc n cc ga m ca : Nat} {cs D : List Int} {i : Nat} (h : IR w t C gx gm gc n cc cs i) (ho : Own w1 (w.heap.size + 1) ga (n + m) ca (cs ++ D)) (hg : t.grownBy w1 (some gc)) :
  IR w (w1.setCell ⟨gx, 3, none⟩ (.slice (some ⟨ga, 0, none⟩) (n + m) ca)) C gx gm ga (n + m) ca (cs ++ D) i ∧ Only (fun k => k = gc ∨ k = gx) t (w1.setCell ⟨gx, 3, none⟩ (.slice (some ⟨ga, 0, none⟩) (n + m) ca)) := by
 obtain ⟨cs', hc⟩ := own_tag h.own (g := gc) rfl
 have hx1 := h.app1 hg
 have hgl := h.own.lt.1
 have hx := h.hx
 have o1 : Only (fun k => k = gc ∨ k = gx) t w1 := Only.ofG hg (fun j hj => Or.inl (Option.some.inj hj).symm)
 have o2 := Only.setCell (fun k => k = gc ∨ k = gx) w1 gx 3 (.slice (some ⟨ga, 0, none⟩) (n + m) ca) (Or.inr rfl)
 have o2' := Only.setCell (· = gx) w1 gx 3 (.slice (some ⟨ga, 0, none⟩) (n + m) ca) rfl
 have o := o1.trans' o2
 refine ⟨⟨⟨h.i0.bel.trans (o.below (fun j hj => by rcases hj with hj | hj <;> (rw [hj]; omega)) h.i0.bel.size), (o.block _ (lt_of_block h.i0.bx) (by omega)).trans h.i0.bx⟩, h.hx, h.hm, heap_setCell_same w1 gx 3 _ 27 _ hx1, ?_, ?_⟩, o⟩
 ·refine owns_keep ho (fun g hg' => ?_)
  obtain ⟨cs2, hc2⟩ := own_tag ho hg'
  exact o2'.block g (lt_of_block hc2) (tag_ne hc2 hx1 (t := 5) (u := 27) rfl rfl (by decide))
 ·refine (o.block _ (lt_of_block h.mks) (fun e => ?_)).trans h.mks
  rcases e with e | e
  ·exact tag_ne h.mks hc (t := 4) (u := 5) rfl rfl (by decide) e
  ·exact tag_ne h.mks h.box (t := 4) (u := 27) rfl rfl (by decide) e
theorem own_news {w : World} {B g n c : Nat} {D : List Int} (h : Own w B g n c D) : ∀ j u, (D.map (Value.int .u8))[j]? = some u → w.cell? ((⟨g, 0, none⟩ : Addr).add j) = some u := fun j u hj => by
 have hl : j < (D.map (Value.int .u8)).length := by
  rcases Nat.lt_or_ge j (D.map (Value.int .u8)).length with h1 | h1
  ·exact h1
  ·rw [List.getElem?_eq_none h1] at hj; cases hj
 have hn : j < n := by simp at hl; have := h.len; omega
 rw [plain_add]
 have h1 := h.cell j hn
 simp only [Nat.zero_add]
 rw [h1]
 rw [List.getElem?_map] at hj
 cases hd : D[j]? with
 | none => rw [hd] at hj; cases hj
 | some z => rw [hd] at hj; cases hj; simp [List.getD, hd]
theorem readL_of {C : Ch} {i k : Nat} {b : Bl} {q : Pg} (h1 : C.bl[i]? = some b) (h2 : b.ps[k]? = some q) : readL C i k = flipsL q.bits (C.fl i k) := by
 unfold readL
 simp only [h1, h2]
end Go.Proofs.Ytadlkikjfonkgaa
namespace Go.Proofs.Ytadlkikjfonkgaa
open Go.RowKit Go.Conc
set_option linter.unusedVariables false
end Go.Proofs.Ytadlkikjfonkgaa
namespace Go.Proofs.Ytadlkikjfonkgaa
open Go.RowKit Go.Conc
set_option linter.unusedVariables false
theorem rlong_any (b p : Int) (s : Nat) (w : World) (h0 : 1 ≤ s) (h1 : s ≤ 8) : Calls Try.prog 78 #[.agg #[.int .i64 b, .int .i64 p, .int .i64 (s : Int)]] w fun e w' => e = .returned (.int .i64 (pgB s : Nat)) ∧ Below w.heap.size w w' := by
 have g0 : (1 : Int) ≤ s := by omega
 have g1 : (s : Int) ≤ 8 := by omega
 have HB0 : Hid (Below w.heap.size w (w.alloc (.cells #[.int .i64 b, .int .i64 p, .int .i64 (s : Int)] 23)).drew) := below_trans (below_alloc _ _) (drew_below _)
 have HX0 : Hid ((w.alloc (.cells #[.int .i64 b, .int .i64 p, .int .i64 (s : Int)] 23)).drew.heap[w.heap.size]? = some (.cells #[.int .i64 b, .int .i64 p, .int .i64 (s : Int)] 23 (0, 0))) := alloc_new w _
 go_enter Try.func78, Try.ntmps78
 go_wp2
 refine wp_region_held_drew (S := (fun u => u.cell? ⟨w.heap.size, 0, none⟩ = some (.int .i64 b) ∧ u.cell? ⟨w.heap.size, 1, none⟩ = some (.int .i64 p) ∧ u.cell? ⟨w.heap.size, 2, none⟩ = some (.int .i64 (s : Int)))) (by kernel_rfl) (cells3 HX0.out) (fun hHeld => ?_)
 refine tk 0 ?_
 refine tk 2 ?_
 refine rd 1 (fun K hK => ?_)
 go_simp
 go_at_call 44
 refine (rdata_any _ _ _ _ g0 g1).mono ?_
 rintro e u1 ⟨rfl, b1⟩
 have HB1 := hide (below_trans HB0.out b1)
 have HX1 := hide ((b1.block _ (lt_of_block HX0.out)).trans HX0.out)
 have hSnew := cells3 HX1.out
 clear b1
 go_wp2_with fail
 clear hHeld
 refine hK.out _ _ hSnew (fun hHeld => ?_)
 clear hK K hSnew
 try simp only [Act.put, zSt, zS0, zS1]
 refine rd 3 (fun K hK => ?_)
 go_simp
 go_at_call 81
 refine (rspareB_any _ _ _ _ g0 g1).mono ?_
 rintro e u2 ⟨rfl, b2⟩
 have HB2 := hide (below_trans HB1.out b2)
 have HX2 := hide ((b2.block _ (lt_of_block HX1.out)).trans HX1.out)
 have hSnew := cells3 HX2.out
 clear b2
 go_wp2_with fail
 clear hHeld
 refine hK.out _ _ hSnew (fun hHeld => ?_)
 clear hK K hSnew
 try simp only [Act.put, zSt, zS0, zS1]
 refine tk 4 ?_
 refine tk 5 ?_
 refine wpAnyH_done (by kernel_rfl) ?_ _
 clear hHeld
 go_wp2
 go_ret
 refine ⟨ret_int ?_, HB2.out⟩
 first | rfl | (unfold pgB; try simp only [IntKind.wrap_i64]; omega)
def unitI (s bit : Nat) : Int := if bit / 8 < 256 * s then ((bit / 8 / 256 : Nat) : Int) else if bit / 8 < 256 * s + 54 then -1 else (((bit / 8 - (256 * s + 54)) / 3 : Nat) : Int)
theorem unitI_in {s bit : Nat} (h : bit < 8 * pgB s) : -1 ≤ unitI s bit ∧ unitI s bit < s := by
 unfold unitI pgB at *
 split
 ·omega
 split
 ·omega
 ·omega
theorem unitN_I (s a : Nat) : unitN s a = if unitI s a = -1 then s else (unitI s a).toNat := by
 unfold unitN unitI
 by_cases c1 : a / 8 < 256 * s
 ·rw [if_pos c1, if_pos c1, if_neg (by omega)]
  rfl
 ·rw [if_neg c1, if_neg c1]
  by_cases c2 : a / 8 < 256 * s + 54
  ·rw [if_pos c2, if_pos c2, if_pos rfl]
  ·rw [if_neg c2, if_neg c2, if_neg (by omega)]
   rfl
theorem unitI_N {s a b : Nat} (h : unitI s a = unitI s b) : unitN s a = unitN s b := by rw [unitN_I, unitN_I, h]
set_option maxHeartbeats 4000000 in
theorem runit_any (b p : Int) (s bit : Nat) (w : World) (h0 : 1 ≤ s) (h1 : s ≤ 8) (hb : bit < 8 * pgB s) : Calls Try.prog 62 #[.agg #[.int .i64 b, .int .i64 p, .int .i64 (s : Int)], .int .i64 (bit : Int)] w fun e w' => e = .returned (.int .i64 (unitI s bit)) ∧ Below w.heap.size w w' := by
 have g0 : (1 : Int) ≤ s := by omega
 have g1 : (s : Int) ≤ 8 := by omega
 have HB0 := hide (below_alloc w (.cells #[.int .i64 b, .int .i64 p, .int .i64 (s : Int)] 23))
 have HX0 := hide (alloc_new w (.cells #[.int .i64 b, .int .i64 p, .int .i64 (s : Int)] 23))
 obtain ⟨L, hL⟩ : ∃ L, L = pgB s := ⟨_, rfl⟩
 have hL2 : L ≤ 2126 := by rw [hL]; exact pgB_le h1
 have dn : decide ((bit : Int) < 0) = false := decide_eq_false (by omega)
 have dg : decide ((bit : Int) ≥ 8 * (L : Int)) = false := decide_eq_false (by omega)
 have hq : (bit : Int).tdiv 8 = ((bit / 8 : Nat) : Int) := rfl
 obtain ⟨t, ht⟩ : ∃ t, bit / 8 = t := ⟨_, rfl⟩
 have htb : t ≤ 2500 := by omega
 have HT := hide ht
 have HL := hide hL
 rw [ht] at hq
 by_cases c1 : t < 256 * s
 ·have d1 : decide ((t : Int) < 256 * (s : Int)) = true := decide_eq_true (by omega)
  have hu : unitI s bit = (t : Int).tdiv 256 := by unfold unitI; rw [HT.out, if_pos c1]; rfl
  rw [hu]
  clear hu ht hL hb
  go_enter Try.func62, Try.ntmps62
  go_wp2_with (first | (go_at_call 78; refine (rlong_any b p s _ h0 h1).mono ?_; rintro e u1 ⟨rfl, b1⟩; rw [← HL.out]; have HB1 := hide (below_trans HB0.out b1); have HX1 := hide ((b1.block _ (lt_of_block HX0.out)).trans HX0.out); obtain ⟨x0, x1, x2⟩ := cells3 HX1.out; clear b1) | (go_at_call 44; refine (rdata_any _ _ _ _ g0 g1).mono ?_; rintro e u2 ⟨rfl, b2⟩; have HB2 := hide (below_trans HB1.out b2); clear b2))
  go_ret
  exact ⟨rfl, HB2.out⟩
 ·have d1 : decide ((t : Int) < 256 * (s : Int)) = false := decide_eq_false (by omega)
  obtain ⟨r, hr⟩ : ∃ r : Int, r = (t : Int) - 256 * (s : Int) - 54 := ⟨_, rfl⟩
  have HRr := hide hr
  by_cases c2 : t < 256 * s + 54
  ·have d2 : decide ((t : Int) - 256 * (s : Int) - 54 < 0) = true := decide_eq_true (by omega)
   have hu : unitI s bit = -1 := by unfold unitI; rw [HT.out, if_neg c1, if_pos c2]
   rw [hu]
   clear hu ht hL hb hr
   go_enter Try.func62, Try.ntmps62
   go_wp2_with (first | (go_at_call 78; refine (rlong_any b p s _ h0 h1).mono ?_; rintro e u1 ⟨rfl, b1⟩; rw [← HL.out]; have HB1 := hide (below_trans HB0.out b1); have HX1 := hide ((b1.block _ (lt_of_block HX0.out)).trans HX0.out); obtain ⟨x0, x1, x2⟩ := cells3 HX1.out; clear b1) | (go_at_call 44; have HB2' := HB2; refine (rdata_any _ _ _ _ g0 g1).mono ?_; rintro e u3 ⟨rfl, b3⟩; have HB3 := hide (below_trans HB2.out b3); clear b3 HB2') | (go_at_call 44; refine (rdata_any _ _ _ _ g0 g1).mono ?_; rintro e u2 ⟨rfl, b2⟩; have HB2 := hide (below_trans HB1.out b2); have HX2 := hide ((b2.block _ (lt_of_block HX1.out)).trans HX1.out); clear x0 x1 x2; obtain ⟨x0, x1, x2⟩ := cells3 HX2.out; clear b2))
   go_ret
   exact ⟨rfl, HB3.out⟩
  ·have d2 : decide ((t : Int) - 256 * (s : Int) - 54 < 0) = false := decide_eq_false (by omega)
   have hu : unitI s bit = ((t : Int) - 256 * (s : Int) - 54) / 3 := by
    unfold unitI
    rw [HT.out, if_neg c1, if_neg c2]
    omega
   rw [hu]
   clear hu ht hL hb hr
   go_enter Try.func62, Try.ntmps62
   go_wp2_with (first | (go_at_call 78; refine (rlong_any b p s _ h0 h1).mono ?_; rintro e u1 ⟨rfl, b1⟩; rw [← HL.out]; have HB1 := hide (below_trans HB0.out b1); have HX1 := hide ((b1.block _ (lt_of_block HX0.out)).trans HX0.out); obtain ⟨x0, x1, x2⟩ := cells3 HX1.out; clear b1) | (go_at_call 44; have HB2' := HB2; refine (rdata_any _ _ _ _ g0 g1).mono ?_; rintro e u3 ⟨rfl, b3⟩; have HB3 := hide (below_trans HB2.out b3); clear b3 HB2') | (go_at_call 44; refine (rdata_any _ _ _ _ g0 g1).mono ?_; rintro e u2 ⟨rfl, b2⟩; have HB2 := hide (below_trans HB1.out b2); have HX2 := hide ((b2.block _ (lt_of_block HX1.out)).trans HX1.out); clear x0 x1 x2; obtain ⟨x0, x1, x2⟩ := cells3 HX2.out; clear b2))
   go_ret
   exact ⟨rfl, HB3.out⟩
end Go.Proofs.Ytadlkikjfonkgaa
