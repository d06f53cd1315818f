/-
  SEAT Ytadlkikjfonkgaa: Ia, Lu, Lo, Lp.
-/
import Derived.Test.YtadlkikjfonkgaaQa
import Derived.Test.YtadlkikjfonkgaaQq
namespace Go.Proofs.Ytadlkikjfonkgaa
open Go.RowKit Go.Conc
set_option linter.unusedVariables false
set_option maxRecDepth 100000
set_option maxHeartbeats 4000000
variable {w U V u w1 : World} {g n gx gm gc cc m B i k L P cn mn mc : Nat} {F : Nat → Prop} {C : Ch} {x : Bx} {bs : List Bc} {fe : List Fe} {cs D zs : List Int} {ca a ma : Option Addr} {ms : List Bool} {S : Int}
theorem info4 : (Try.prog.info? 4).map (fun i => (i.zero, i.size, i.bytes)) = some (some (.bool false), 1, 1) := by kernel_rfl
theorem mk24 (w : World) (n : Nat) (hn : n ≤ 1000000000) : (Instr.makeSlice 24 (.int .i64 0) (.int .i64 (n : Int))).run Try.prog w = .ok (.slice (some ⟨w.heap.size, 0, none⟩) 0 n) (w.alloc (.cells (madeCells #[.int .u8 0] n) 5)) := by
 obtain ⟨i, hi, hz0, hz1, hb⟩ := info_parts info5
 have h := run_make (P := Try.prog) w 24 5 i _ Try.underlying24 hi hz0 .i64 .i64 (0 : Int) (n : Int) (by omega) (by omega) (by rw [hb]; omega) (by omega)
 rw [hz1] at h
 simp only [Int.toNat_natCast, Nat.mul_one] at h
 exact h
theorem mk25 (w : World) (n : Nat) (hn : n ≤ 4096) : (Instr.makeSlice 25 (.int .i64 (n : Int)) (.int .i64 (n : Int))).run Try.prog w = .ok (.slice (some ⟨w.heap.size, 0, none⟩) n n) (w.alloc (.cells (List.replicate n (.bool false)).toArray 4)) := by
 obtain ⟨i, hi, hz0, hz1, hb⟩ := info_parts info4
 have h := run_makeSlice (P := Try.prog) w 25 4 i _ Try.underlying25 hi hz0 .i64 .i64 (n : Int) (n : Int) (by omega) (by omega) (by rw [hz1]; simp; omega) (by rw [hb]; omega) (by omega)
 rw [hz1] at h
 simp only [Int.toNat_natCast] at h
 rw [h]
 have e := made_eq [.bool false] 1 rfl (by omega) n
 have e2 : (List.replicate n [Value.bool false]).flatMap id = List.replicate n (.bool false) := by
  clear e h hn
  induction n with
  | zero => rfl
  | succ n ih => rw [List.replicate_succ, List.replicate_succ, List.flatMap_cons, ih]; rfl
 rw [e2] at e
 rw [← e]
 rfl
structure I0 (w U : World) : Prop where
 bel : Below w.heap.size w U
 bx : U.heap[w.heap.size]? = some (.cells #[.int .i64 0, .int .i64 0, .int .i64 0, .slice none 0 0, .slice none 0 0] 27 (0, 0))
def IC (w U : World) (g n : Nat) : Prop := Own U (w.heap.size + 1) g 0 n []
def IM (w U : World) (g B : Nat) : Prop := U.heap[g]? = some (.cells (List.replicate B (.bool false)).toArray 4 (0, 0)) ∧ w.heap.size + 1 ≤ g
def IX (w U : World) (g : Nat) : Prop := U.heap[g]? = some (.cells #[.int .i64 0, .int .i64 0, .int .i64 0, .slice none 0 0, .slice none 0 0] 27 (0, 0)) ∧ w.heap.size + 1 ≤ g
theorem I0.lt (h : I0 w U) : w.heap.size + 1 ≤ U.heap.size := lt_of_block h.bx
theorem I0.keep (h : I0 w U) (hb : Below U.heap.size U V) : I0 w V := ⟨h.bel.trans (hb.mono h.bel.size), (hb.block _ (lt_of_block h.bx)).trans h.bx⟩
theorem IC.keep (h : IC w U g n) (hb : Below U.heap.size U V) : IC w V g n := Own.below h hb
theorem IM.keep (h : IM w U g n) (hb : Below U.heap.size U V) : IM w V g n := ⟨(hb.block _ (lt_of_block h.1)).trans h.1, h.2⟩
theorem IX.keep (h : IX w U g) (hb : Below U.heap.size U V) : IX w V g := ⟨(hb.block _ (lt_of_block h.1)).trans h.1, h.2⟩
theorem ic_new (w U : World) (n : Nat) (hn : n ≤ 1000000000) (hU : w.heap.size + 1 ≤ U.heap.size) : IC w (U.alloc (.cells (madeCells #[.int .u8 0] n) 5)) U.heap.size n :=
 ⟨rfl, Or.inr ⟨U.heap.size, n, _, rfl, hU, alloc_new _ _, Nat.zero_le _, by simp only [maxLen]; omega, by simp [size_madeCells], by simp⟩⟩
def IS (p : Nat) (C : Ch) (u : World) : Prop := u.cell? ⟨p, 0, none⟩ = some (.int .i64 (C.B : Int)) ∧ u.cell? ⟨p, 1, none⟩ = some (.int .i64 (C.P : Int)) ∧ u.cell? ⟨p, 2, none⟩ = some (.int .i64 (C.S : Int))
theorem CAt.is {p : Nat} (h : CAt w p F C x bs fe) (h0 : I0 w U) : IS p C U := by
 have N := h.below h0.bel
 have b0 := N.box.c0
 have b1 := N.box.c1
 have b2 := N.box.c2
 rw [N.B] at b0
 rw [N.P] at b1
 rw [N.S] at b2
 exact ⟨b0, b1, b2⟩
theorem cells5 {c0 c1 c2 c3 c4 : Value} {T : TypeId} (h : w.heap[g]? = some (.cells #[c0, c1, c2, c3, c4] T (0, 0))) : w.cell? ⟨g, 0, none⟩ = some c0 ∧ w.cell? ⟨g, 1, none⟩ = some c1 ∧ w.cell? ⟨g, 2, none⟩ = some c2 ∧ w.cell? ⟨g, 3, none⟩ = some c3 ∧ w.cell? ⟨g, 4, none⟩ = some c4 := by
 refine ⟨?_, ?_, ?_, ?_, ?_⟩ <;> simp [World.cell?, h]
theorem only50 (w : World) (p : Nat) (v0 v1 v2 v3 v4 : Value) : Only (· = p) w (((((w.setCell ⟨p, 0, none⟩ v0).setCell ⟨p, 1, none⟩ v1).setCell ⟨p, 2, none⟩ v2).setCell ⟨p, 3, none⟩ v3).setCell ⟨p, 4, none⟩ v4) :=
 ((((Only.setCell (· = p) w p 0 v0 rfl).trans' (Only.setCell _ _ p 1 v1 rfl)).trans' (Only.setCell _ _ p 2 v2 rfl)).trans' (Only.setCell _ _ p 3 v3 rfl)).trans' (Only.setCell _ _ p 4 v4 rfl)
theorem set50 {c0 c1 c2 c3 c4 : Value} {T : TypeId} (h : w.heap[g]? = some (.cells #[c0, c1, c2, c3, c4] T (0, 0))) (v0 v1 v2 v3 v4 : Value) : (((((w.setCell ⟨g, 0, none⟩ v0).setCell ⟨g, 1, none⟩ v1).setCell ⟨g, 2, none⟩ v2).setCell ⟨g, 3, none⟩ v3).setCell ⟨g, 4, none⟩ v4).heap[g]? = some (.cells #[v0, v1, v2, v3, v4] T (0, 0)) :=
 heap_setCell_same _ g 4 #[v0, v1, v2, v3, c4] T v4 (heap_setCell_same _ g 3 #[v0, v1, v2, c3, c4] T v3 (heap_setCell_same _ g 2 #[v0, v1, c2, c3, c4] T v2 (heap_setCell_same _ g 1 #[v0, c1, c2, c3, c4] T v1 (heap_setCell_same w g 0 #[c0, c1, c2, c3, c4] T v0 h))))
theorem i0_set (h : I0 w U) (hx : IX w U gx) (v0 v1 v2 v3 v4 : Value) : I0 w (((((U.setCell ⟨gx, 0, none⟩ v0).setCell ⟨gx, 1, none⟩ v1).setCell ⟨gx, 2, none⟩ v2).setCell ⟨gx, 3, none⟩ v3).setCell ⟨gx, 4, none⟩ v4) := by
 have ho := only50 U gx v0 v1 v2 v3 v4
 have h2 := hx.2
 exact ⟨h.bel.trans (ho.below (fun j hj => by rw [hj]; omega) h.bel.size), (ho.block _ (lt_of_block h.bx) (by omega)).trans h.bx⟩
theorem img_le (h : C.Ok) : C.B * C.P * pgB C.S ≤ 1000000000 := by
 have h1 := of_decide_eq_true h.fits
 have h2 : C.B * C.P ≤ 65536 := by have := h1; omega
 exact Nat.le_trans (Nat.mul_le_mul h2 (pgB_le h.s.2)) (by decide)
def imgB (C : Ch) (i : Nat) : List Int := (List.range C.P).flatMap (fun k => readL C i k)
def imgL (C : Ch) : List Int := (List.range C.B).flatMap (fun i => imgB C i)
def preL (C : Ch) (i k : Nat) : List Int := (List.range i).flatMap (imgB C) ++ (List.range k).flatMap (readL C i)
theorem preL_page (C : Ch) (i k : Nat) : preL C i (k + 1) = preL C i k ++ readL C i k := by
 unfold preL
 rw [List.range_succ, List.flatMap_append]
 simp
theorem preL_block (C : Ch) (i : Nat) : preL C i C.P = preL C (i + 1) 0 := by
 unfold preL
 rw [List.range_succ, List.flatMap_append]
 simp [imgB]
theorem preL_all (C : Ch) : preL C C.B 0 = imgL C := by
 unfold preL imgL
 simp
structure IR (w u : World) (C : Ch) (gx gm gc n cc : Nat) (cs : List Int) (m : Nat) : Prop where
 i0 : I0 w u
 hx : w.heap.size + 1 ≤ gx
 hm : w.heap.size + 1 ≤ gm
 box : u.heap[gx]? = some (.cells #[.int .i64 (C.B : Int), .int .i64 (C.P : Int), .int .i64 (C.S : Int), .slice (some ⟨gc, 0, none⟩) n cc, .slice (some ⟨gm, 0, none⟩) C.B C.B] 27 (0, 0))
 own : Own u (w.heap.size + 1) gc n cc cs
 mks : u.heap[gm]? = some (.cells ((C.bl.take m).map (fun (b : Bl) => Value.bool b.m) ++ List.replicate (C.B - m) (Value.bool false)).toArray 4 (0, 0))
theorem IR.start (h0 : I0 w U) (hl : IC w U gc n) (hm : IM w U gm C.B) (hx : IX w U gx) (v0 v1 v2 v3 v4 : Value) (e0 : v0 = .int .i64 (C.B : Int)) (e1 : v1 = .int .i64 (C.P : Int)) (e2 : v2 = .int .i64 (C.S : Int)) (e3 : v3 = .slice (some ⟨gc, 0, none⟩) 0 n) (e4 : v4 = .slice (some ⟨gm, 0, none⟩) C.B C.B) :
  IR w (((((U.setCell ⟨gx, 0, none⟩ v0).setCell ⟨gx, 1, none⟩ v1).setCell ⟨gx, 2, none⟩ v2).setCell ⟨gx, 3, none⟩ v3).setCell ⟨gx, 4, none⟩ v4) C gx gm gc 0 n (preL C 0 0) 0 := by
 subst e0 e1 e2 e3 e4
 have ho := only50 U gx (.int .i64 (C.B : Int)) (.int .i64 (C.P : Int)) (.int .i64 (C.S : Int)) (.slice (some ⟨gc, 0, none⟩) 0 n) (.slice (some ⟨gm, 0, none⟩) C.B C.B)
 refine ⟨i0_set h0 hx _ _ _ _ _, hx.2, hm.2, set50 hx.1 _ _ _ _ _, ?_, ?_⟩
 ·refine owns_keep hl (fun g hg => ?_)
  obtain ⟨cs, hc⟩ := own_tag hl hg
  exact ho.block g (lt_of_block hc) (tag_ne hc hx.1 (t := 5) (u := 27) rfl rfl (by decide))
 ·rw [ho.block gm (lt_of_block hm.1) (tag_ne hm.1 hx.1 (t := 4) (u := 27) rfl rfl (by decide)), hm.1]
  simp
theorem IR.keep {v : World} (h : IR w u C gx gm gc n cc cs m) (hb : Below u.heap.size u v) : IR w v C gx gm gc n cc cs m :=
 ⟨h.i0.keep hb, h.hx, h.hm, (hb.block _ (lt_of_block h.box)).trans h.box, h.own.below hb, (hb.block _ (lt_of_block h.mks)).trans h.mks⟩
theorem mk_set {l : List Bl} {b : Bl} (hl : l.length = B) (hb : l[m]? = some b) : ((l.take m).map (fun (b : Bl) => Value.bool b.m) ++ List.replicate (B - m) (Value.bool false)).set m (.bool b.m) = (l.take (m + 1)).map (fun (b : Bl) => Value.bool b.m) ++ List.replicate (B - (m + 1)) (Value.bool false) := by
 have hm : m < l.length := by
  rcases Nat.lt_or_ge m l.length with h | h
  ·exact h
  ·rw [List.getElem?_eq_none h] at hb; cases hb
 have e : l.take (m + 1) = l.take m ++ [b] := by rw [List.take_add_one, hb]; rfl
 rw [e, show B - m = (B - (m + 1)) + 1 by omega, List.replicate_succ, List.set_append_right _ _ (by simp; omega)]
 have e2 : m - ((l.take m).map (fun (b : Bl) => Value.bool b.m)).length = 0 := by simp; omega
 rw [e2]
 simp
theorem IR.mark {b : Bl} (h : IR w u C gx gm gc n cc cs m) (hl : C.bl.length = C.B) (hb : C.bl[m]? = some b) : IR w (u.setCell ⟨gm, m, none⟩ (.bool b.m)) C gx gm gc n cc cs (m + 1) := by
 have ho := Only.setCell (· = gm) u gm m (.bool b.m) rfl
 have hm := h.hm
 refine ⟨⟨h.i0.bel.trans (ho.below (fun j hj => by rw [hj]; omega) h.i0.bel.size), (ho.block _ (lt_of_block h.i0.bx) (by omega)).trans h.i0.bx⟩, h.hx, h.hm, (ho.block _ (lt_of_block h.box) (tag_ne h.box h.mks (t := 27) (u := 4) rfl rfl (by decide))).trans h.box, ?_, ?_⟩
 ·refine owns_keep h.own (fun g hg => ?_)
  obtain ⟨cs, hc⟩ := own_tag h.own hg
  exact ho.block g (lt_of_block hc) (tag_ne hc h.mks (t := 5) (u := 4) rfl rfl (by decide))
 ·have h1 := heap_setCell_same u gm m _ 4 (.bool b.m) h.mks
  rw [h1]
  simp only [List.setIfInBounds_toArray]
  rw [mk_set hl hb]
theorem IR.mcell (h : IR w u C gx gm gc n cc cs m) (hl : C.bl.length = C.B) (hm : m < C.B) : u.cell? ⟨gm, m, none⟩ = some (Value.bool false) := by
 have e : ((C.bl.take m).map (fun (b : Bl) => Value.bool b.m) ++ List.replicate (C.B - m) (Value.bool false))[m]? = some (Value.bool false) := by
  rw [List.getElem?_append_right (by simp; omega), List.getElem?_replicate, if_pos (by simp; omega)]
 simp only [World.cell?, h.mks, List.getElem?_toArray]
 exact e
theorem IR.app1 {t : World} (h : IR w t C gx gm gc n cc cs i) (hg : t.grownBy w1 (some gc)) : w1.heap[gx]? = some (.cells #[.int .i64 (C.B : Int), .int .i64 (C.P : Int), .int .i64 (C.S : Int), .slice (some ⟨gc, 0, none⟩) n cc, .slice (some ⟨gm, 0, none⟩) C.B C.B] 27 (0, 0)) := by
 obtain ⟨cs', hc⟩ := own_tag h.own (g := gc) rfl
 exact (hg.block gx (lt_of_block h.box) (fun e => tag_ne h.box hc (t := 27) (u := 5) rfl rfl (by decide) (Option.some.inj e))).trans h.box
theorem IR.app {t : World} {ga ca : Nat} (h : IR w t C gx gm gc n cc cs i) (ho : Own w1 (w.heap.size + 1) ga (n + m) ca (cs ++ D)) (hg : t.grownBy w1 (some gc)) :
  IR w (w1.setCell ⟨gx, 3, none⟩ (.slice (some ⟨ga, 0, none⟩) (n + m) ca)) C gx gm ga (n + m) ca (cs ++ D) i ∧ Only (fun k => k = gc ∨ k = gx) t (w1.setCell ⟨gx, 3, none⟩ (.slice (some ⟨ga, 0, none⟩) (n + m) ca)) := by
 obtain ⟨cs', hc⟩ := own_tag h.own (g := gc) rfl
 have hx1 := h.app1 hg
 have hgl := h.own.lt.1
 have hx := h.hx
 have o1 : Only (fun k => k = gc ∨ k = gx) t w1 := Only.ofG hg (fun j hj => Or.inl (Option.some.inj hj).symm)
 have o2 := Only.setCell (fun k => k = gc ∨ k = gx) w1 gx 3 (.slice (some ⟨ga, 0, none⟩) (n + m) ca) (Or.inr rfl)
 have o2' := Only.setCell (· = gx) w1 gx 3 (.slice (some ⟨ga, 0, none⟩) (n + m) ca) rfl
 have o := o1.trans' o2
 refine ⟨⟨⟨h.i0.bel.trans (o.below (fun j hj => by rcases hj with hj | hj <;> (rw [hj]; omega)) h.i0.bel.size), (o.block _ (lt_of_block h.i0.bx) (by omega)).trans h.i0.bx⟩, h.hx, h.hm, heap_setCell_same w1 gx 3 _ 27 _ hx1, ?_, ?_⟩, o⟩
 ·refine owns_keep ho (fun g hg' => ?_)
  obtain ⟨cs2, hc2⟩ := own_tag ho hg'
  exact o2'.block g (lt_of_block hc2) (tag_ne hc2 hx1 (t := 5) (u := 27) rfl rfl (by decide))
 ·refine (o.block _ (lt_of_block h.mks) (fun e => ?_)).trans h.mks
  rcases e with e | e
  ·exact tag_ne h.mks hc (t := 4) (u := 5) rfl rfl (by decide) e
  ·exact tag_ne h.mks h.box (t := 4) (u := 27) rfl rfl (by decide) e
theorem own_news {c : Nat} (h : Own w B g n c D) : ∀ j u, (D.map (Value.int .u8))[j]? = some u → w.cell? ((⟨g, 0, none⟩ : Addr).add j) = some u := fun j u hj => by
 have hl : j < (D.map (Value.int .u8)).length := by
  rcases Nat.lt_or_ge j (D.map (Value.int .u8)).length with h1 | h1
  ·exact h1
  ·rw [List.getElem?_eq_none h1] at hj; cases hj
 have hn : j < n := by simp at hl; have := h.len; omega
 rw [plain_add]
 have h1 := h.cell j hn
 simp only [Nat.zero_add]
 rw [h1]
 rw [List.getElem?_map] at hj
 cases hd : D[j]? with
 | none => rw [hd] at hj; cases hj
 | some z => rw [hd] at hj; cases hj; simp [List.getD, hd]
theorem readL_of {b : Bl} {q : Pg} (h1 : C.bl[i]? = some b) (h2 : b.ps[k]? = some q) : readL C i k = flipsL q.bits (C.fl i k) := by
 unfold readL
 simp only [h1, h2]
def ReadsB (w : World) (a : Option Addr) (len : Nat) (ms : List Bool) : Prop :=
 ms.length = len ∧ (a = none → len = 0) ∧ ∀ x, a = some x → ∀ i, i < len → w.cell? (x.add i) = some (.bool (ms.getD i false))
theorem ReadsB.below {w' : World} {len : Nat} (h : ReadsB w a len ms) (hb : Below w.heap.size w w') : ReadsB w' a len ms :=
 ⟨h.1, h.2.1, fun x hx i hi => (hb.cell (block_lt_of_cell (h.2.2 x hx i hi))).trans (h.2.2 x hx i hi)⟩
theorem ReadsB.pos {len : Nat} (h : ReadsB w a len ms) (hp : 0 < len) :
  ∃ b off, a = some ⟨b, off, none⟩ ∧ b < w.heap.size ∧ ∀ i, i < len → w.cell? ⟨b, off + i, none⟩ = some (.bool (ms.getD i false)) := by
 obtain ⟨hl, hn, hc⟩ := h
 cases a with
 | none => have := hn rfl; omega
 | some x =>
  obtain ⟨b, off, spot⟩ := x
  have h0 := hc _ rfl 0 hp
  have hspot : spot = none := by simpa [Addr.add] using World.cell?_spot h0
  subst hspot
  refine ⟨b, off, rfl, by simpa [Addr.add] using block_lt_of_cell h0, fun i hi => ?_⟩
  have h1 := hc _ rfl i hi
  rw [plain_add] at h1
  exact h1
theorem samePage_eq (w : World) (a1 a2 b1 b2 : Option Addr) (n1 n2 c1 c2 d1 d2 : Nat) (D Z : List Int) (h1 : Reads w a1 n1 D) (h2 : Reads w a2 n2 Z) (k1 : Reads w b1 n1 D) (k2 : Reads w b2 n2 Z) :
  Calls Try.prog 55 #[.agg #[.slice a1 n1 c1, .slice a2 n2 c2], .agg #[.slice b1 n1 d1, .slice b2 n2 d2]] w fun e w' => e = .returned (.bool true) ∧ Below w.heap.size w w' := by
 have hb := below_trans (below_alloc w (.cells #[.slice a1 n1 c1, .slice a2 n2 c2] 36)) (below_alloc _ (.cells #[.slice b1 n1 d1, .slice b2 n2 d2] 36))
 have v1 := conv a1 n1 c1 D _ (h1.below hb)
 have v2 := conv a2 n2 c2 Z _ (h2.below hb)
 have v3 := conv b1 n1 d1 D _ (k1.below hb)
 have v4 := conv b2 n2 d2 Z _ (k2.below hb)
 have HB := J hb
 clear hb h1 h2 k1 k2
 go_enter Try.func55, Try.ntmps55
 go_wp2
 go_ret
 exact ⟨rfl, HB.out⟩
theorem few_any (b p s : Int) (w : World) : Calls Try.prog 32 #[.agg #[.int .i64 b, .int .i64 p, .int .i64 s]] w fun e w' => e = .returned (.bool (Fits b p s && decide (b * p ≤ 128))) ∧ Below w.heap.size w w' := by
 have HB0 := J (below_alloc w (.cells #[.int .i64 b, .int .i64 p, .int .i64 s] 23))
 have HG0 := J (alloc_new w (.cells #[.int .i64 b, .int .i64 p, .int .i64 s] 23))
 cases hf : Fits b p s with
 | false =>
  go_enter Try.func32, Try.ntmps32
  go_wp2_with (first | (go_at_call 31; refine (shape_any b p s _).mono ?_; rintro e u1 ⟨rfl, b1⟩; rw [hf]; have HB1 := J (below_trans HB0.out b1); clear b1))
  go_ret
  exact ⟨rfl, HB1.out⟩
 | true =>
  have h0 := of_decide_eq_true hf
  have hw : IntKind.i64.wrap (b * p) = b * p := by
   have h1 : 0 ≤ b * p := Int.mul_nonneg (by omega) (by omega)
   simp only [IntKind.wrap_i64]
   omega
  clear h0
  go_enter Try.func32, Try.ntmps32
  go_wp2_with (first | (go_at_call 31; refine (shape_any b p s _).mono ?_; rintro e u1 ⟨rfl, b1⟩; rw [hf]; have HB1 := J (below_trans HB0.out b1); have hg1 := (b1.block _ (lt_of_block HG0.out)).trans HG0.out; obtain ⟨k0, k1, k2⟩ := cells3 hg1; clear b1 hg1))
  go_ret
  exact ⟨by simp, HB1.out⟩
theorem CAt.setP1 {p : Nat} {G : Nat → Prop} (h : CAt w p F C x bs fe) {i k : Nat} {b : Bc} {q q' : Pc} (hi : bs[i]? = some b) (hk : b.ps[k]? = some q) (hh : q'.h = q.h) (hF : ∀ k, F k → G k) (hG : ∀ k, G k → k < w.heap.size) (hq' : PcOk w G (pgB C.S) q') :
  CAt (w.setCell ⟨b.g, k * 2, none⟩ (.slice q'.a q'.n q'.c)) p G { C with bl := C.bl.set i { b.v with ps := b.v.ps.set k q'.v } } x (bs.set i { b with ps := b.ps.set k q' }) fe := by
 obtain ⟨h1, h2⟩ := h.setP (w0 := w) hi hk hF hG hq'
 have hb := h.bok b (List.mem_of_getElem? hi)
 have r1 := heap_setCell_same w b.g (k * 2) _ 108 (.slice q'.a q'.n q'.c) hb.row
 have r2 := heap_setCell_same _ b.g (k * 2 + 1) _ 108 (.bool q'.h) r1
 have s1 := flat_set Pc.cells 2 Pc.cells_len 0 (by omega) (.slice q'.a q'.n q'.c) { q with a := q'.a, n := q'.n, c := q'.c } b.ps k q hk rfl
 have hk1 : (b.ps.set k { q with a := q'.a, n := q'.n, c := q'.c })[k]? = some { q with a := q'.a, n := q'.n, c := q'.c } := by
  rw [List.getElem?_set_self (List.getElem?_eq_some_iff.1 hk).1]
 have s2 := flat_set Pc.cells 2 Pc.cells_len 1 (by omega) (.bool q'.h) { q with a := q'.a, n := q'.n, c := q'.c } (b.ps.set k { q with a := q'.a, n := q'.n, c := q'.c }) k _ hk1 (by rw [hh]; rfl)
 rw [List.set_set] at s2
 have e1 : ((b.ps.flatMap Pc.cells).toArray.setIfInBounds (k * 2) (.slice q'.a q'.n q'.c)).setIfInBounds (k * 2 + 1) (.bool q'.h) = (b.ps.flatMap Pc.cells).toArray.setIfInBounds (k * 2) (.slice q'.a q'.n q'.c) := by
  simp only [List.setIfInBounds_toArray]
  rw [Nat.add_zero] at s1
  rw [s1, s2]
 rw [e1, ← r1] at r2
 refine h1.keep (fun j hj => ?_) (fun _ h => h) (fun j hj => Nat.lt_of_lt_of_le (hG j hj) (by simp))
 by_cases hjb : j = b.g
 ·rw [hjb, r2]
 ·exact (heap_setCell_other _ ⟨b.g, k * 2 + 1, none⟩ j _ hjb).symm
def ldP (L P : Nat) (zs : List Int) (t j k : Nat) : Pg := if j * P + k < t then ⟨(zs.drop ((j * P + k) * L)).take L, false⟩ else ⟨List.replicate L 255, false⟩
def ldB (L P : Nat) (zs : List Int) (ms : List Bool) (m t j : Nat) : Bl := ⟨if j < m then ms.getD j false else false, false, 0, (List.range P).map (ldP L P zs t j)⟩
def ldL (L B P : Nat) (zs : List Int) (ms : List Bool) (m t : Nat) : List Bl := (List.range B).map (ldB L P zs ms m t)
def loadC (B P S : Nat) (zs : List Int) (ms : List Bool) (q : List Ft) : Ch := { emptyC B P S q with bl := ldL (pgB S) B P zs ms B (B * P) }
theorem ldL_0 (L B P : Nat) (zs : List Int) (ms : List Bool) : ldL L B P zs ms 0 0 = List.replicate B (bl0 P L) := by
 refine List.ext_getElem? (fun i => ?_)
 unfold ldL
 rw [List.getElem?_map, List.getElem?_replicate]
 by_cases h : i < B
 ·rw [List.getElem?_range h, if_pos h]
  simp only [Option.map_some, ldB, bl0, Nat.not_lt_zero, if_false]
  congr 2
  refine List.ext_getElem? (fun k => ?_)
  rw [List.getElem?_map, List.getElem?_replicate]
  by_cases h2 : k < P
  ·rw [List.getElem?_range h2, if_pos h2]; simp [ldP]
  ·rw [if_neg h2, List.getElem?_eq_none (by simp; omega)]; rfl
 ·rw [if_neg h, List.getElem?_eq_none (by simp; omega)]; rfl
theorem ldL_get {t : Nat} (h : i < B) : (ldL L B P zs ms m t)[i]? = some (ldB L P zs ms m t i) := by
 unfold ldL
 rw [List.getElem?_map, List.getElem?_range h]
 rfl
theorem ldL_mark {t : Nat} (h : m < B) : (ldL L B P zs ms m t).set m { ldB L P zs ms m t m with m := ms.getD m false } = ldL L B P zs ms (m + 1) t := by
 refine List.ext_getElem? (fun i => ?_)
 by_cases hi : i < B
 ·rw [ldL_get hi]
  by_cases e : m = i
  ·subst e
   rw [List.getElem?_set_self (by simp [ldL]; exact h)]
   simp [ldB]
  ·rw [List.getElem?_set_ne e, ldL_get hi]
   have h3 : (i < m) = (i < m + 1) := by apply propext; omega
   simp only [ldB, h3]
 ·rw [List.getElem?_eq_none (by simp [ldL]; omega), List.getElem?_eq_none (by simp [ldL]; omega)]
theorem ldL_page (h : i < B) (hk : k < P) : (ldL L B P zs ms m (i * P + k)).set i { ldB L P zs ms m (i * P + k) i with ps := (ldB L P zs ms m (i * P + k) i).ps.set k ⟨(zs.drop ((i * P + k) * L)).take L, false⟩ } = ldL L B P zs ms m (i * P + k + 1) := by
 refine List.ext_getElem? (fun j => ?_)
 by_cases hj : j < B
 ·rw [ldL_get hj]
  by_cases e : i = j
  ·subst e
   rw [List.getElem?_set_self (by simp [ldL]; exact h)]
   simp only [ldB]
   congr 2
   refine List.ext_getElem? (fun n => ?_)
   by_cases hn : n < P
   ·rw [List.getElem?_map, List.getElem?_range hn]
    by_cases e2 : k = n
    ·subst e2
     rw [List.getElem?_set_self (by simp; exact hk)]
     simp [ldP]
    ·rw [List.getElem?_set_ne e2, List.getElem?_map, List.getElem?_range hn]
     have h3 : (i * P + n < i * P + k) = (i * P + n < i * P + k + 1) := by apply propext; omega
     simp only [Option.map_some, ldP, h3]
   ·rw [List.getElem?_eq_none (by simp; omega), List.getElem?_eq_none (by simp; omega)]
  ·rw [List.getElem?_set_ne e, ldL_get hj]
   simp only [ldB]
   congr 2
   refine List.map_congr_left (fun n hn => ?_)
   have hn' : n < P := List.mem_range.1 hn
   have h3 : (j * P + n < i * P + k) = (j * P + n < i * P + k + 1) := by
    apply propext
    rcases Nat.lt_or_gt_of_ne e with h4 | h4
    ·have : i * P + P ≤ j * P := by rw [← Nat.succ_mul]; exact Nat.mul_le_mul_right _ h4
     omega
    ·have : j * P + P ≤ i * P := by rw [← Nat.succ_mul]; exact Nat.mul_le_mul_right _ h4
     omega
   simp only [ldP, h3]
 ·rw [List.getElem?_eq_none (by simp [ldL]; omega), List.getElem?_eq_none (by simp [ldL]; omega)]
def LB (w u : World) (B P S : Int) (ca : Option Addr) (cn cc : Nat) (ma : Option Addr) (mn mc : Nat) : Prop := u.heap[w.heap.size]? = some (.cells #[.int .i64 B, .int .i64 P, .int .i64 S, .slice ca cn cc, .slice ma mn mc] 27 (0, 0))
theorem LB.keep {v : World} {B P : Int} (h : LB w u B P S ca cn cc ma mn mc) (hb : Below u.heap.size u v) : LB w v B P S ca cn cc ma mn mc := (hb.block _ (lt_of_block h)).trans h
def LS (w : World) (B P S : Int) (ca : Option Addr) (cn cc : Nat) (ma : Option Addr) (mn mc : Nat) (u : World) : Prop := u.cell? ⟨w.heap.size, 0, none⟩ = some (.int .i64 B) ∧ u.cell? ⟨w.heap.size, 1, none⟩ = some (.int .i64 P) ∧ u.cell? ⟨w.heap.size, 2, none⟩ = some (.int .i64 S) ∧ u.cell? ⟨w.heap.size, 3, none⟩ = some (.slice ca cn cc) ∧ u.cell? ⟨w.heap.size, 4, none⟩ = some (.slice ma mn mc)
theorem LB.s {B P : Int} (h : LB w u B P S ca cn cc ma mn mc) : LS w B P S ca cn cc ma mn mc u := by
 obtain ⟨a, b, c, d, e⟩ := cells5 h
 exact ⟨a, b, c, d, e⟩
theorem LB.start (w : World) (B P S : Int) (ca : Option Addr) (cn cc : Nat) (ma : Option Addr) (mn mc : Nat) : LB w (w.alloc (.cells #[.int .i64 B, .int .i64 P, .int .i64 S, .slice ca cn cc, .slice ma mn mc] 27)) B P S ca cn cc ma mn mc := alloc_new _ _
theorem load_fit (w : World) (B P S : Int) (hf : Fits B P S = false) (ca : Option Addr) (cn cc : Nat) (ma : Option Addr) (mn mc : Nat) (sa : Option Addr) (n c : Nat) :
  Calls Try.prog 10 #[.agg #[.int .i64 B, .int .i64 P, .int .i64 S, .slice ca cn cc, .slice ma mn mc], .slice sa n c] w fun e w' => e = .returned (.tuple #[.pointer none, .int .i64 47]) ∧ Below w.heap.size w w' := by
 have H0 : Hid (LB w (w.alloc (.cells #[.int .i64 B, .int .i64 P, .int .i64 S, .slice ca cn cc, .slice ma mn mc] 27)).drew B P S ca cn cc ma mn mc) := LB.start w _ _ _ _ _ _ _ _ _
 have HBd : Hid (Below w.heap.size w (w.alloc (.cells #[.int .i64 B, .int .i64 P, .int .i64 S, .slice ca cn cc, .slice ma mn mc] 27)).drew) := below_trans (below_alloc _ _) (drew_below _)
 go_enter Try.func10, Try.ntmps10
 go_wp2
 refine wp_region_held_drew (S := (fun u => u.cell? ⟨w.heap.size, 0, none⟩ = some (.int .i64 B) ∧ u.cell? ⟨w.heap.size, 1, none⟩ = some (.int .i64 P) ∧ u.cell? ⟨w.heap.size, 2, none⟩ = some (.int .i64 S) ∧ u.cell? ⟨w.heap.size, 3, none⟩ = some (.slice ca cn cc) ∧ u.cell? ⟨w.heap.size, 4, none⟩ = some (.slice ma mn mc))) (by kernel_rfl) (H0.out.s) fun O => ?_
 refine tk 0 ?_
 refine tk 1 ?_
 refine rd 2 fun K N => ?_
 go_simp
 go_at_call 45
 refine (mayBe_any B P S _).mono ?_
 rintro e u1 ⟨rfl, b1⟩
 rw [hf]
 have HB1 := J (below_trans HBd.out b1)
 have H1 := J (H0.out.keep b1)
 have hZ := H1.out.s
 clear b1
 go_wp2_with fail
 clear O
 refine N.out _ _ hZ fun O => ?_
 clear N K hZ
 try simp only [zz]
 refine tk 3 ?_
 refine tk 4 ?_
 refine tu 5 ?_
 refine tu 6 ?_
 refine tu 7 ?_
 refine tu 8 ?_
 refine tu 9 ?_
 refine tu 10 ?_
 refine tu 11 ?_
 refine tu 12 ?_
 refine tu 13 ?_
 refine tu 14 ?_
 refine tu 15 ?_
 refine tu 16 ?_
 refine tu 17 ?_
 refine tu 18 ?_
 refine tu 19 ?_
 refine tk 20 ?_
 refine tk 21 ?_
 refine tu 22 ?_
 refine tu 23 ?_
 refine tu 24 ?_
 refine tu 25 ?_
 refine tu 26 ?_
 refine tu 27 ?_
 refine tu 28 ?_
 refine tk 29 ?_
 refine td ?_
 clear O
 go_wp2
 refine bodyPost_ret (v := .tuple #[.pointer none, .int .i64 47]) (by simp [results, Try.results10, go_sem]) rfl ?_
 exact ⟨rfl, HB1.out⟩
theorem load_cells (w : World) (B P S : Nat) (hf : Fits B P S = true) (ca : Option Addr) (cn cc : Nat) (ma : Option Addr) (mn mc : Nat) (sa : Option Addr) (n c : Nat) (hcn : cn ≠ B * P * pgB S) :
  Calls Try.prog 10 #[.agg #[.int .i64 (B : Int), .int .i64 (P : Int), .int .i64 (S : Int), .slice ca cn cc, .slice ma mn mc], .slice sa n c] w fun e w' => e = .returned (.tuple #[.pointer none, .int .i64 47]) ∧ Below w.heap.size w w' := by
 have hFB := of_decide_eq_true hf
 have hS : 1 ≤ S ∧ S ≤ 8 := by omega
 have hB4 : B ≤ 4096 := by omega
 have hP4 : P ≤ 4096 := by omega
 have hP2 : P ≤ 256 := by omega
 obtain ⟨n0, hn0e⟩ : ∃ n, n = B * P * pgB S := ⟨_, rfl⟩
 obtain ⟨m0, hm0e⟩ : ∃ m, m = B * P := ⟨_, rfl⟩
 obtain ⟨l0, hl0e⟩ : ∃ m, m = pgB S := ⟨_, rfl⟩
 have hm0 : m0 ≤ 65536 := by rw [hm0e]; omega
 have hl0 : l0 ≤ 2126 := by rw [hl0e]; exact pgB_le hS.2
 have hn0 : n0 ≤ 139329536 := by rw [hn0e, ← hm0e, ← hl0e]; exact Nat.le_trans (Nat.mul_le_mul hm0 hl0) (by decide)
 have HM0 : Hid (IntKind.i64.wrap ((B : Int) * (P : Int)) = (m0 : Int)) := by unfold Hid; rw [hm0e] at *; rw [← Int.natCast_mul]; simp only [IntKind.wrap_i64]; omega
 have HN0 : Hid (IntKind.i64.wrap ((m0 : Int) * (l0 : Int)) = (n0 : Int)) := by unfold Hid; rw [← Int.natCast_mul, hn0e, ← hm0e, ← hl0e]; rw [← hm0e, ← hl0e] at hn0e; simp only [IntKind.wrap_i64]; omega
 have HL0 := J hl0e
 have HNE := J hn0e
 have dcn : ((cn : Int) != (n0 : Int)) = true := by simp; omega
 clear hcn
 have H0 : Hid (LB w (w.alloc (.cells #[.int .i64 (B : Int), .int .i64 (P : Int), .int .i64 (S : Int), .slice ca cn cc, .slice ma mn mc] 27)).drew B P S ca cn cc ma mn mc) := LB.start w _ _ _ _ _ _ _ _ _
 have HBd : Hid (Below w.heap.size w (w.alloc (.cells #[.int .i64 (B : Int), .int .i64 (P : Int), .int .i64 (S : Int), .slice ca cn cc, .slice ma mn mc] 27)).drew) := below_trans (below_alloc _ _) (drew_below _)
 clear hFB hn0e hm0e hl0e
 go_enter Try.func10, Try.ntmps10
 go_wp2
 refine wp_region_held_drew (S := (fun u => u.cell? ⟨w.heap.size, 0, none⟩ = some (.int .i64 (B : Int)) ∧ u.cell? ⟨w.heap.size, 1, none⟩ = some (.int .i64 (P : Int)) ∧ u.cell? ⟨w.heap.size, 2, none⟩ = some (.int .i64 (S : Int)) ∧ u.cell? ⟨w.heap.size, 3, none⟩ = some (.slice ca cn cc) ∧ u.cell? ⟨w.heap.size, 4, none⟩ = some (.slice ma mn mc))) (by kernel_rfl) (H0.out.s) fun O => ?_
 refine tk 0 ?_
 refine tk 1 ?_
 refine rd 2 fun K N => ?_
 go_simp
 go_at_call 45
 refine (mayBe_any B P S _).mono ?_
 rintro e u1 ⟨rfl, b1⟩
 rw [hf]
 have HB1 := J (below_trans HBd.out b1)
 have H1 := J (H0.out.keep b1)
 have hZ := H1.out.s
 clear b1
 go_wp2_with fail
 clear O
 refine N.out _ _ hZ fun O => ?_
 clear N K hZ
 try simp only [zz]
 refine tk 3 ?_
 refine tk 4 ?_
 refine tk 5 ?_
 refine tk 6 ?_
 refine tk 7 ?_
 refine tk 8 ?_
 refine tk 9 ?_
 refine tk 10 ?_
 refine tk 11 ?_
 refine tk 12 ?_
 refine tk 13 ?_
 refine tk 14 ?_
 rw [HM0.out]
 refine tk 15 ?_
 refine tk 16 ?_
 refine rd 17 fun K N => ?_
 go_simp
 go_at_call 46
 refine (pageB_any _ _ S _ hS.1 hS.2).mono ?_
 rintro e u2 ⟨rfl, b2⟩
 rw [← HL0.out]
 have HB2 := J (below_trans HB1.out b2)
 have H2 := J (H1.out.keep b2)
 have hZ := H2.out.s
 clear b2
 go_wp2_with fail
 clear O
 refine N.out _ _ hZ fun O => ?_
 clear N K hZ
 try simp only [zz]
 refine tk 18 ?_
 rw [HN0.out]
 refine tk 19 ?_
 refine tk 20 ?_
 refine tk 21 ?_
 refine tu 22 ?_
 refine tu 23 ?_
 refine tu 24 ?_
 refine tu 25 ?_
 refine tu 26 ?_
 refine tu 27 ?_
 refine tu 28 ?_
 refine tk 29 ?_
 refine td ?_
 clear O
 go_wp2
 refine bodyPost_ret (v := .tuple #[.pointer none, .int .i64 47]) (by simp [results, Try.results10, go_sem]) rfl ?_
 exact ⟨rfl, HB2.out⟩
theorem load_marks (w : World) (B P S : Nat) (hf : Fits B P S = true) (ca : Option Addr) (cn cc : Nat) (ma : Option Addr) (mn mc : Nat) (sa : Option Addr) (n c : Nat) (hcn : cn = B * P * pgB S) (hmn : mn ≠ B) :
  Calls Try.prog 10 #[.agg #[.int .i64 (B : Int), .int .i64 (P : Int), .int .i64 (S : Int), .slice ca cn cc, .slice ma mn mc], .slice sa n c] w fun e w' => e = .returned (.tuple #[.pointer none, .int .i64 47]) ∧ Below w.heap.size w w' := by
 have hFB := of_decide_eq_true hf
 have hS : 1 ≤ S ∧ S ≤ 8 := by omega
 have hB4 : B ≤ 4096 := by omega
 have hP4 : P ≤ 4096 := by omega
 have hP2 : P ≤ 256 := by omega
 obtain ⟨n0, hn0e⟩ : ∃ n, n = B * P * pgB S := ⟨_, rfl⟩
 obtain ⟨m0, hm0e⟩ : ∃ m, m = B * P := ⟨_, rfl⟩
 obtain ⟨l0, hl0e⟩ : ∃ m, m = pgB S := ⟨_, rfl⟩
 have hm0 : m0 ≤ 65536 := by rw [hm0e]; omega
 have hl0 : l0 ≤ 2126 := by rw [hl0e]; exact pgB_le hS.2
 have hn0 : n0 ≤ 139329536 := by rw [hn0e, ← hm0e, ← hl0e]; exact Nat.le_trans (Nat.mul_le_mul hm0 hl0) (by decide)
 have HM0 : Hid (IntKind.i64.wrap ((B : Int) * (P : Int)) = (m0 : Int)) := by unfold Hid; rw [hm0e] at *; rw [← Int.natCast_mul]; simp only [IntKind.wrap_i64]; omega
 have HN0 : Hid (IntKind.i64.wrap ((m0 : Int) * (l0 : Int)) = (n0 : Int)) := by unfold Hid; rw [← Int.natCast_mul, hn0e, ← hm0e, ← hl0e]; rw [← hm0e, ← hl0e] at hn0e; simp only [IntKind.wrap_i64]; omega
 have HL0 := J hl0e
 have HNE := J hn0e
 have dcn : ((cn : Int) != (n0 : Int)) = false := by simp; omega
 have dmn : ((mn : Int) != (B : Int)) = true := by simp; omega
 clear hcn hmn
 have H0 : Hid (LB w (w.alloc (.cells #[.int .i64 (B : Int), .int .i64 (P : Int), .int .i64 (S : Int), .slice ca cn cc, .slice ma mn mc] 27)).drew B P S ca cn cc ma mn mc) := LB.start w _ _ _ _ _ _ _ _ _
 have HBd : Hid (Below w.heap.size w (w.alloc (.cells #[.int .i64 (B : Int), .int .i64 (P : Int), .int .i64 (S : Int), .slice ca cn cc, .slice ma mn mc] 27)).drew) := below_trans (below_alloc _ _) (drew_below _)
 clear hFB hn0e hm0e hl0e
 go_enter Try.func10, Try.ntmps10
 go_wp2
 refine wp_region_held_drew (S := (fun u => u.cell? ⟨w.heap.size, 0, none⟩ = some (.int .i64 (B : Int)) ∧ u.cell? ⟨w.heap.size, 1, none⟩ = some (.int .i64 (P : Int)) ∧ u.cell? ⟨w.heap.size, 2, none⟩ = some (.int .i64 (S : Int)) ∧ u.cell? ⟨w.heap.size, 3, none⟩ = some (.slice ca cn cc) ∧ u.cell? ⟨w.heap.size, 4, none⟩ = some (.slice ma mn mc))) (by kernel_rfl) (H0.out.s) fun O => ?_
 refine tk 0 ?_
 refine tk 1 ?_
 refine rd 2 fun K N => ?_
 go_simp
 go_at_call 45
 refine (mayBe_any B P S _).mono ?_
 rintro e u1 ⟨rfl, b1⟩
 rw [hf]
 have HB1 := J (below_trans HBd.out b1)
 have H1 := J (H0.out.keep b1)
 have hZ := H1.out.s
 clear b1
 go_wp2_with fail
 clear O
 refine N.out _ _ hZ fun O => ?_
 clear N K hZ
 try simp only [zz]
 refine tk 3 ?_
 refine tk 4 ?_
 refine tk 5 ?_
 refine tk 6 ?_
 refine tk 7 ?_
 refine tk 8 ?_
 refine tk 9 ?_
 refine tk 10 ?_
 refine tk 11 ?_
 refine tk 12 ?_
 refine tk 13 ?_
 refine tk 14 ?_
 rw [HM0.out]
 refine tk 15 ?_
 refine tk 16 ?_
 refine rd 17 fun K N => ?_
 go_simp
 go_at_call 46
 refine (pageB_any _ _ S _ hS.1 hS.2).mono ?_
 rintro e u2 ⟨rfl, b2⟩
 rw [← HL0.out]
 have HB2 := J (below_trans HB1.out b2)
 have H2 := J (H1.out.keep b2)
 have hZ := H2.out.s
 clear b2
 go_wp2_with fail
 clear O
 refine N.out _ _ hZ fun O => ?_
 clear N K hZ
 try simp only [zz]
 refine tk 18 ?_
 rw [HN0.out]
 refine tk 19 ?_
 refine tk 20 ?_
 refine tk 21 ?_
 refine tk 22 ?_
 refine tk 23 ?_
 refine tk 24 ?_
 refine tk 25 ?_
 refine tk 26 ?_
 refine tk 27 ?_
 refine tk 28 ?_
 refine tk 29 ?_
 refine td ?_
 clear O
 go_wp2
 refine bodyPost_ret (v := .tuple #[.pointer none, .int .i64 47]) (by simp [results, Try.results10, go_sem]) rfl ?_
 exact ⟨rfl, HB2.out⟩
theorem load_flt (w : World) (B P S : Nat) (hf : Fits B P S = true) (ca : Option Addr) (cn cc : Nat) (ma : Option Addr) (mn mc : Nat) (sa : Option Addr) (n c : Nat) (hcn : cn = B * P * pgB S) (hmn : mn = B) (fs : List Fc) (hF : ReadsF w sa n fs) (hn : n ≤ 9223372036854775807) (hs : faultsB fs = false) :
  Calls Try.prog 10 #[.agg #[.int .i64 (B : Int), .int .i64 (P : Int), .int .i64 (S : Int), .slice ca cn cc, .slice ma mn mc], .slice sa n c] w fun e w' => e = .returned (.tuple #[.pointer none, .int .i64 48]) ∧ Below w.heap.size w w' := by
 have hFB := of_decide_eq_true hf
 have hS : 1 ≤ S ∧ S ≤ 8 := by omega
 have hB4 : B ≤ 4096 := by omega
 have hP4 : P ≤ 4096 := by omega
 have hP2 : P ≤ 256 := by omega
 obtain ⟨n0, hn0e⟩ : ∃ n, n = B * P * pgB S := ⟨_, rfl⟩
 obtain ⟨m0, hm0e⟩ : ∃ m, m = B * P := ⟨_, rfl⟩
 obtain ⟨l0, hl0e⟩ : ∃ m, m = pgB S := ⟨_, rfl⟩
 have hm0 : m0 ≤ 65536 := by rw [hm0e]; omega
 have hl0 : l0 ≤ 2126 := by rw [hl0e]; exact pgB_le hS.2
 have hn0 : n0 ≤ 139329536 := by rw [hn0e, ← hm0e, ← hl0e]; exact Nat.le_trans (Nat.mul_le_mul hm0 hl0) (by decide)
 have HM0 : Hid (IntKind.i64.wrap ((B : Int) * (P : Int)) = (m0 : Int)) := by unfold Hid; rw [hm0e] at *; rw [← Int.natCast_mul]; simp only [IntKind.wrap_i64]; omega
 have HN0 : Hid (IntKind.i64.wrap ((m0 : Int) * (l0 : Int)) = (n0 : Int)) := by unfold Hid; rw [← Int.natCast_mul, hn0e, ← hm0e, ← hl0e]; rw [← hm0e, ← hl0e] at hn0e; simp only [IntKind.wrap_i64]; omega
 have HL0 := J hl0e
 have HNE := J hn0e
 have dcn : ((cn : Int) != (n0 : Int)) = false := by simp; omega
 have dmn : ((mn : Int) != (B : Int)) = false := by simp; omega
 clear hcn hmn
 have HRF := J hF
 clear hF
 have H0 : Hid (LB w (w.alloc (.cells #[.int .i64 (B : Int), .int .i64 (P : Int), .int .i64 (S : Int), .slice ca cn cc, .slice ma mn mc] 27)).drew B P S ca cn cc ma mn mc) := LB.start w _ _ _ _ _ _ _ _ _
 have HBd : Hid (Below w.heap.size w (w.alloc (.cells #[.int .i64 (B : Int), .int .i64 (P : Int), .int .i64 (S : Int), .slice ca cn cc, .slice ma mn mc] 27)).drew) := below_trans (below_alloc _ _) (drew_below _)
 clear hFB hn0e hm0e hl0e
 go_enter Try.func10, Try.ntmps10
 go_wp2
 refine wp_region_held_drew (S := (fun u => u.cell? ⟨w.heap.size, 0, none⟩ = some (.int .i64 (B : Int)) ∧ u.cell? ⟨w.heap.size, 1, none⟩ = some (.int .i64 (P : Int)) ∧ u.cell? ⟨w.heap.size, 2, none⟩ = some (.int .i64 (S : Int)) ∧ u.cell? ⟨w.heap.size, 3, none⟩ = some (.slice ca cn cc) ∧ u.cell? ⟨w.heap.size, 4, none⟩ = some (.slice ma mn mc))) (by kernel_rfl) (H0.out.s) fun O => ?_
 refine tk 0 ?_
 refine tk 1 ?_
 refine rd 2 fun K N => ?_
 go_simp
 go_at_call 45
 refine (mayBe_any B P S _).mono ?_
 rintro e u1 ⟨rfl, b1⟩
 rw [hf]
 have HB1 := J (below_trans HBd.out b1)
 have H1 := J (H0.out.keep b1)
 have hZ := H1.out.s
 clear b1
 go_wp2_with fail
 clear O
 refine N.out _ _ hZ fun O => ?_
 clear N K hZ
 try simp only [zz]
 refine tk 3 ?_
 refine tk 4 ?_
 refine tk 5 ?_
 refine tk 6 ?_
 refine tk 7 ?_
 refine tk 8 ?_
 refine tk 9 ?_
 refine tk 10 ?_
 refine tk 11 ?_
 refine tk 12 ?_
 refine tk 13 ?_
 refine tk 14 ?_
 rw [HM0.out]
 refine tk 15 ?_
 refine tk 16 ?_
 refine rd 17 fun K N => ?_
 go_simp
 go_at_call 46
 refine (pageB_any _ _ S _ hS.1 hS.2).mono ?_
 rintro e u2 ⟨rfl, b2⟩
 rw [← HL0.out]
 have HB2 := J (below_trans HB1.out b2)
 have H2 := J (H1.out.keep b2)
 have hZ := H2.out.s
 clear b2
 go_wp2_with fail
 clear O
 refine N.out _ _ hZ fun O => ?_
 clear N K hZ
 try simp only [zz]
 refine tk 18 ?_
 rw [HN0.out]
 refine tk 19 ?_
 refine tk 20 ?_
 refine tk 21 ?_
 refine tk 22 ?_
 refine tk 23 ?_
 refine tk 24 ?_
 refine tk 25 ?_
 refine tk 26 ?_
 refine tk 27 ?_
 refine tk 28 ?_
 refine tk 29 ?_
 refine td ?_
 clear O
 go_wp2_with (first | (go_at_call 47; refine (faults_any _ sa n c fs (HRF.out.below HB2.out) hn).mono ?_; rintro e u3 ⟨rfl, b3⟩; rw [hs]; have HB3 := J (below_trans HB2.out b3); clear b3))
 refine bodyPost_ret (v := .tuple #[.pointer none, .int .i64 48]) (by simp [results, Try.results10, go_sem]) rfl ?_
 exact ⟨rfl, HB3.out⟩
end Go.Proofs.Ytadlkikjfonkgaa
