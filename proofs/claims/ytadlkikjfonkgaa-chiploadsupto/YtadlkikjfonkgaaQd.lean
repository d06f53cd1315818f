/-
  SEAT Ytadlkikjfonkgaa: Cc, Cb, Cd.
-/
import Derived.Test.YtadlkikjfonkgaaQc
import Derived.Test.YtadlkikjfonkgaaQa
import Derived.Laws.Cover3
namespace Go.Proofs.Ytadlkikjfonkgaa
open Go.RowKit Go.Conc
set_option linter.unusedVariables false
set_option maxRecDepth 100000
set_option maxHeartbeats 4000000
variable {w w' : World} {F : Nat → Prop} {x : Bx} {C : Ch} {bs : List Bc} {fe : List Fe} {g : Nat}
def takeF (n : Int) : List Ft → Ft
 | [] => Ft.no
 | f :: _ => if f.a = n then f else Ft.no
def takeR (n : Int) : List Ft → List Ft
 | [] => []
 | f :: r => if f.a = n then r else f :: r
structure Scr (x x' : Bx) : Prop where
 e : x'.B = x.B ∧ x'.P = x.P ∧ x'.S = x.S ∧ x'.gb = x.gb ∧ x'.nb = x.nb ∧ x'.gm = x.gm ∧ x'.c = x.c
 t : x'.ta = x.ta ∧ x'.tl = x.tl ∧ x'.tc = x.tc
 d : x'.dark = x.dark
 n : x'.cnt = x.cnt
theorem ftNo (w : World) (F : Nat → Prop) : FtOk w F (.agg #[.int .i64 0, .int .i64 0, .slice none 0 0, .int .u8 255]) Ft.no := ⟨⟨none, 0, 0, rfl, MaskOk.nil w F, Nat.le_refl _⟩, by decide⟩
theorem script_keep {p : Nat} (hb : x.at w p) (hc : ∃ cap buf cl s r tm, w.heap[x.c]? = some (.chan cap buf cl s r tm)) (ho : Only (fun k => k = p ∨ k = x.c) w w') : KeepT F (fun t => t = 102 ∨ t = 1002) w w' :=
 ho.keepT (fun k o t hg hk ht => by
  obtain ⟨cap, buf, cl, s, r, tm, hc⟩ := hc
  rcases hg with e | e
  ·rw [e, show w.heap[p]? = _ from hb] at hk
   cases hk
   exact Or.inl ht.symm
  ·rw [e, hc] at hk
   cases hk
   exact Or.inr ht)
theorem meets_q (w : World) (F : Nat → Prop) (x : Bx) (p : Nat) (q : List Ft) (n : Int) (hb : x.at w p) (hq : QAt w F x q) :
  Calls Try.prog 113 #[.pointer (some ⟨p, 5, none⟩), .int .i64 n] w fun e w' => ∃ v x', e = .returned v ∧ FtOk w' F v (takeF n q) ∧ x'.at w' p ∧ QAt w' F x' (takeR n q) ∧ Scr x x' ∧ Only (fun k => k = p ∨ k = x.c) w w' ∧ KeepT F (fun t => t = 102 ∨ t = 1002) w w' := by
 obtain ⟨cap, s, r, vs, hc, hn⟩ := hq.ex
 have hkn : ∀ w', Below w.heap.size w w' → Only (fun k => k = p ∨ k = x.c) w w' := fun w' h => Only.ofB h
 have hex : ∃ cap buf cl s r tm, w.heap[x.c]? = some (.chan cap buf cl s r tm) := ⟨_, _, _, _, _, _, hc⟩
 cases q with
 | nil =>
  obtain ⟨h1, h2⟩ := hn
  refine (meets_none x p n w hb (Or.inl h1)).mono ?_
  rintro e w' ⟨rfl, hB⟩
  have hT := script_keep (F := F) hb hex (hkn w' hB)
  refine ⟨_, x, rfl, ftNo w' F, hb.keep (hB.block _ hb.lt), ?_, ⟨⟨rfl, rfl, rfl, rfl, rfl, rfl, rfl⟩, ⟨rfl, rfl, rfl⟩, rfl, rfl⟩, hkn w' hB, hT⟩
  exact ⟨⟨cap, s, r, vs, (hB.block _ (lt_of_block hc)).trans hc, h1, h2⟩, hq.fc⟩
 | cons f rest =>
  have hn' := hn
  obtain ⟨h1, h2, h3, h4, h5, h6, h7, h8, h9⟩ := hn
  by_cases ha : f.a = n
  ·have tF : takeF n (f :: rest) = f := if_pos ha
   have tR : takeR n (f :: rest) = rest := if_pos ha
   rw [tF, tR]
   cases rest with
   | nil =>
    have hv : vs = [] := List.eq_nil_of_length_eq_zero (by simpa using h8)
    subst hv
    refine (meets_last w x p cap s r n hc hb h1 (h2.trans ha)).mono ?_
    rintro e w' ⟨rfl, k1, k2, k3⟩
    have hT := script_keep (F := F) hb hex k3
    refine ⟨_, _, rfl, ⟨⟨x.ma, x.ml, x.mc, by rw [h2, h3, h4], h6.keep hT (by decide) (fun _ h => h), h7⟩, h5⟩, k1, ?_, ⟨⟨rfl, rfl, rfl, rfl, rfl, rfl, rfl⟩, ⟨rfl, rfl, rfl⟩, rfl, rfl⟩, k3, hT⟩
    exact ⟨⟨cap, s, r, [], k2, rfl, rfl⟩, hq.fc⟩
   | cons g rest =>
    cases vs with
    | nil => simp at h8
    | cons v vs =>
     have hg := h9 0 v g rfl rfl
     obtain ⟨ga, gl, gc, gv, gm, gle⟩ := hg.ex
     have hfill := hg.fill
     subst gv
     refine (meets_more w x p cap s r n g.a g.k g.f ga gl gc vs hc hb h1 (h2.trans ha)).mono ?_
     rintro e w' ⟨rfl, k1, k2, k3⟩
     have hT := script_keep (F := F) hb hex k3
     refine ⟨_, _, rfl, ⟨⟨x.ma, x.ml, x.mc, by rw [h2, h3, h4], h6.keep hT (by decide) (fun _ h => h), h7⟩, h5⟩, k1, ?_, ⟨⟨rfl, rfl, rfl, rfl, rfl, rfl, rfl⟩, ⟨rfl, rfl, rfl⟩, rfl, rfl⟩, k3, hT⟩
     exact ⟨⟨cap, s, r + 1, vs, k2, rfl, rfl, rfl, rfl, hfill, gm.keep hT (by decide) (fun _ h => h), gle, by simpa using h8, fun i v' g' hv' hg' => (h9 (i + 1) v' g' (by simpa using hv') (by simpa using hg')).keep hT (by decide) (fun _ h => h)⟩, hq.fc⟩
  ·have tF : takeF n (f :: rest) = Ft.no := if_neg ha
   have tR : takeR n (f :: rest) = f :: rest := if_neg ha
   rw [tF, tR]
   refine (meets_none x p n w hb (Or.inr (by rw [h2]; exact ha))).mono ?_
   rintro e w' ⟨rfl, hB⟩
   have hT := script_keep (F := F) hb hex (hkn w' hB)
   refine ⟨_, x, rfl, ftNo w' F, hb.keep (hB.block _ hb.lt), ?_, ⟨⟨rfl, rfl, rfl, rfl, rfl, rfl, rfl⟩, ⟨rfl, rfl, rfl⟩, rfl, rfl⟩, hkn w' hB, hT⟩
   exact ⟨⟨cap, s, r, vs, (hB.block _ (lt_of_block hc)).trans hc, hn'.keep hT (by decide) (fun _ h => h) ⟨rfl, rfl, rfl, rfl, rfl, rfl, rfl⟩⟩, hq.fc⟩
theorem CAt.script {p : Nat} {x' : Bx} (h : CAt w p F C x bs fe) {q : List Ft} (hT : KeepT F (fun t => t = 102 ∨ t = 1002) w w') (hsz : w.heap.size ≤ w'.heap.size) (hx : x'.at w' p) (hs : Scr x x') (hq : QAt w' F x' q) : CAt w' p F { C with q := q } x' bs fe := by
 obtain ⟨a1, a2, a3, a4, a5, a6, a7⟩ := hs.e
 refine ⟨hx, h.fp, ?_, ?_, ?_, a5.trans h.nb, hs.d.trans h.dark, hs.n.trans h.cnt, ?_, ?_, h.bl, ?_, h.gs, ?_, h.fs, hq, ?_, fun k hk => Nat.lt_of_lt_of_le (h.fin k hk) hsz⟩
 ·rw [a1]; exact h.B
 ·rw [a2]; exact h.P
 ·rw [a3]; exact h.S
 ·rw [a4]; exact hT _ _ 106 h.fb h.row rfl (by decide)
 ·rw [a4]; exact h.fb
 ·exact fun b hb => (h.bok b hb).keep hT (by decide) (fun _ h => h) ((hT _ _ 108 (h.bok b hb).fg (h.bok b hb).row rfl (by decide)).trans (h.bok b hb).row.symm)
 ·rw [a6]; exact h.fl.keep hT (by decide) (by decide) (fun _ h => h)
 ·exact h.tr.keep hT (by decide) (fun _ h => h) hs.t
theorem drew_below (w : World) : Below w.heap.size w w.drew := ⟨rfl, rfl, rfl, Nat.le_refl _, fun _ _ => rfl⟩
theorem bits_some (w : World) (p : Nat) (F : Nat → Prop) (C : Ch) (x : Bx) (bs : List Bc) (fe : List Fe) (h : CAt w p F C x bs fe) (i k : Nat) (b : Bc) (q : Pc) (hi : bs[i]? = some b) (hk : b.ps[k]? = some q) (ad : Addr) (ha : q.a = some ad) :
  Calls Try.prog 93 #[.pointer (some ⟨p, 0, none⟩), .agg #[.int .i64 (i : Int), .int .i64 (k : Int)]] w fun e w' => e = .returned (.slice q.a q.n q.c) ∧ Below w.heap.size w w' := by
 have N : CAt (w.alloc (.cells #[.int .i64 (i : Int), .int .i64 (k : Int)] 41)).drew p F C x bs fe := h.below ⟨rfl, rfl, rfl, by simp, fun j hj => alloc_old _ _ hj⟩
 have hp := h.box.lt
 have c3 := N.box.c3
 obtain ⟨_, _, _, c4⟩ := N.blk hi
 have hbm : b ∈ bs := List.mem_of_getElem? hi
 have hqm : q ∈ b.ps := List.mem_of_getElem? hk
 obtain ⟨c5, _⟩ := (N.bok b hbm).page hk
 have hil : i < bs.length := (List.getElem?_eq_some_iff.1 hi).1
 have hkl : k < b.ps.length := (List.getElem?_eq_some_iff.1 hk).1
 have i1 : (i : Int) < (x.nb : Int) := by rw [h.nb]; omega
 have k1 : (k : Int) < (b.ps.length : Int) := by omega
 have HQ := J ((N.bok b hbm).pg q hqm)
 have HK := J N
 have HC := J h
 rw [ha] at c5
 rw [ha]
 clear h N hbm hqm hil hkl hi hk
 go_enter Try.func93, Try.ntmps93
 go_wp2
 refine wp_region_held_drew (S := (fun u => u.cell? ⟨w.heap.size, 0, none⟩ = some (.int .i64 (i : Int)) ∧ u.cell? ⟨w.heap.size, 1, none⟩ = some (.int .i64 (k : Int)) ∧ u.cell? ⟨p, 3, none⟩ = some (.slice (some ⟨x.gb, 0, none⟩) x.nb x.nb) ∧ u.cell? ⟨x.gb, i * 4 + 3, none⟩ = some (.slice (some ⟨b.g, 0, none⟩) b.ps.length b.ps.length) ∧ u.cell? ⟨b.g, k * 2, none⟩ = some (.slice (some ad) q.n q.c))) (by kernel_rfl) (⟨by simp, by simp, c3, c4, c5⟩) fun O => ?_
 refine tk 0 ?_
 refine tk 1 ?_
 refine tk 2 ?_
 refine tk 3 ?_
 refine tk 4 ?_
 refine tk 5 ?_
 refine tk 6 ?_
 refine tk 7 ?_
 refine tk 8 ?_
 refine tk 9 ?_
 refine tk 10 ?_
 refine tk 11 ?_
 refine tk 12 ?_
 refine tk 13 ?_
 refine tk 14 ?_
 refine td ?_
 clear O c3 c4 c5 i1 k1 HQ HK HC ha
 go_wp2
 go_ret
 exact ⟨rfl, below_trans (below_alloc w _) ⟨rfl, rfl, rfl, Nat.le_refl _, fun _ _ => rfl⟩⟩
theorem riseL_zero (n : Nat) : ∀ k, k ≤ n → riseL (List.replicate n 0) [] 255 k = List.replicate k 255
 | 0, _ => rfl
 | k + 1, hk => by
  rw [riseL, riseL_zero n k (by omega), List.replicate_succ']
  congr 1
  have e : (List.replicate n (0 : Int)).getD k 0 = 0 := by rw [List.getD_eq_getElem?_getD, List.getElem?_replicate]; split <;> rfl
  rw [e]
  have e2 : mk [] 255 k = 255 := by simp [mk]
  rw [e2]
  rfl
theorem bits_none (w : World) (p : Nat) (F : Nat → Prop) (C : Ch) (x : Bx) (bs : List Bc) (fe : List Fe) (h : CAt w p F C x bs fe) (i k : Nat) (b : Bc) (q : Pc) (hi : bs[i]? = some b) (hk : b.ps[k]? = some q) (ha : q.a = none) (hs : 1 ≤ C.S ∧ C.S ≤ 8) :
  Calls Try.prog 93 #[.pointer (some ⟨p, 0, none⟩), .agg #[.int .i64 (i : Int), .int .i64 (k : Int)]] w fun e w' => ∃ g c, e = .returned (.slice (some ⟨g, 0, none⟩) (pgB C.S) c) ∧ Own w' w.heap.size g (pgB C.S) c (List.replicate (pgB C.S) 255) ∧ Below w.heap.size w w' := by
 have N : CAt (w.alloc (.cells #[.int .i64 (i : Int), .int .i64 (k : Int)] 41)).drew p F C x bs fe := h.below ⟨rfl, rfl, rfl, by simp, fun j hj => alloc_old _ _ hj⟩
 have hp := h.box.lt
 have c3 := N.box.c3
 obtain ⟨_, _, _, c4⟩ := N.blk hi
 have hbm : b ∈ bs := List.mem_of_getElem? hi
 have hqm : q ∈ b.ps := List.mem_of_getElem? hk
 obtain ⟨c5, _⟩ := (N.bok b hbm).page hk
 have hil : i < bs.length := (List.getElem?_eq_some_iff.1 hi).1
 have hkl : k < b.ps.length := (List.getElem?_eq_some_iff.1 hk).1
 have i1 : (i : Int) < (x.nb : Int) := by rw [h.nb]; omega
 have k1 : (k : Int) < (b.ps.length : Int) := by omega
 have HQ := J ((N.bok b hbm).pg q hqm)
 have HK := J N
 have HC := J h
 have hs4 := HQ.out.sl
 rw [ha] at c5 hs4
 obtain ⟨_, hn0, hc0, _⟩ : _ := hs4.resolve_right (fun ⟨g, h1, _⟩ => by cases h1)
 rw [hn0, hc0] at c5
 have hL := pgB_le hs.2
 obtain ⟨L, hLe⟩ : ∃ L, pgB C.S = L := ⟨_, rfl⟩
 have d0 := N.box.c0
 have d1 := N.box.c1
 have d2 := N.box.c2
 rw [h.S] at d2
 obtain ⟨i0, hi0, hz0, hz1, hz2⟩ := info_parts info5
 rw [hLe] at hL
 have hmk : ∀ u : World, (Instr.makeSlice 24 (.int .i64 (L : Int)) (.int .i64 (L : Int))).run Try.prog u =
   .ok (.slice (some ⟨u.heap.size, 0, none⟩) L L) (u.alloc (.cells (madeCells #[.int .u8 0] L) 5)) := fun u => by
  have h := run_make (P := Try.prog) u 24 5 i0 (.int .u8 0) Try.underlying24 hi0 hz0 .i64 .i64 (L : Int) (L : Int) (by omega) (Int.le_refl _) (by rw [hz2]; omega) (by omega)
  simpa [hz1, Value.cells] using h
 have HL := J hLe
 clear h N hbm hqm hil hkl hi hk hs4 hi0 hz0 hz1 hz2
 go_enter Try.func93, Try.ntmps93
 go_wp2
 refine wp_region_held_drew (S := (fun u => u.cell? ⟨w.heap.size, 0, none⟩ = some (.int .i64 (i : Int)) ∧ u.cell? ⟨w.heap.size, 1, none⟩ = some (.int .i64 (k : Int)) ∧ u.cell? ⟨p, 3, none⟩ = some (.slice (some ⟨x.gb, 0, none⟩) x.nb x.nb) ∧ u.cell? ⟨x.gb, i * 4 + 3, none⟩ = some (.slice (some ⟨b.g, 0, none⟩) b.ps.length b.ps.length) ∧ u.cell? ⟨b.g, k * 2, none⟩ = some (.slice none 0 0))) (by kernel_rfl) (⟨by simp, by simp, c3, c4, c5⟩) fun O => ?_
 refine tk 0 ?_
 refine tk 1 ?_
 refine tk 2 ?_
 refine tk 3 ?_
 refine tk 4 ?_
 refine tk 5 ?_
 refine tk 6 ?_
 refine tk 7 ?_
 refine tk 8 ?_
 refine tk 9 ?_
 refine tk 10 ?_
 refine tk 11 ?_
 refine tk 12 ?_
 refine tk 13 ?_
 refine tk 14 ?_
 refine td ?_
 clear O c3 c4 c5 i1 k1 HQ HK HC ha hn0 hc0
 go_wp2_with (first
  | (go_at_call 46; refine (pageB_any _ _ C.S _ hs.1 hs.2).mono ?_; rintro e u1 ⟨rfl, b1⟩; rw [HL.out]; have B1 := J b1; have HM := J (made_full u1 L (by omega)); clear b1)
  | (go_at_call 106; refine (rise_any _ L _ (List.replicate L 0) none 0 0 [] 255 _ (by omega) (by omega) (by have hq := HM.out.reads (fun x hx => by have := (List.mem_replicate.1 hx).2; omega) L (Nat.le_refl _); rwa [List.take_of_length_le (by simp)] at hq) ⟨rfl, by simp, fun _ => rfl, fun _ h => by cases h⟩).mono ?_; rintro e u2 ⟨g, c, rfl, o2, b2⟩; rw [riseL_zero L L (Nat.le_refl _)] at o2; have O2 := J o2; have B2 := J b2; clear o2 b2))
 go_ret
 have hb1 : Below w.heap.size w u1 := below_trans (below_trans (below_alloc w (.cells #[.int .i64 (i : Int), .int .i64 (k : Int)] 41)) (drew_below _)) B1.out
 have hb2 : Below w.heap.size w u2 := below_trans (below_trans hb1 (below_alloc _ _)) B2.out
 rw [HL.out]
 refine ⟨g, c, rfl, ?_, hb2⟩
 exact own_base O2.out (by have := hb1.size; simp; omega)
theorem set4 {c0 c1 c2 c3 : Value} {T : TypeId} (h : w.heap[g]? = some (.cells #[c0, c1, c2, c3] T (0, 0))) (v0 v1 v2 v3 : Value) : ((((w.setCell ⟨g, 0, none⟩ v0).setCell ⟨g, 1, none⟩ v1).setCell ⟨g, 2, none⟩ v2).setCell ⟨g, 3, none⟩ v3).heap[g]? = some (.cells #[v0, v1, v2, v3] T (0, 0)) :=
 heap_setCell_same _ g 3 #[v0, v1, v2, c3] T _ (heap_setCell_same _ g 2 #[v0, v1, c2, c3] T _ (heap_setCell_same _ g 1 #[v0, c1, c2, c3] T _ (heap_setCell_same w g 0 _ T _ h)))
theorem only4 (w : World) (g : Nat) (v0 v1 v2 v3 : Value) : Only (· = g) w ((((w.setCell ⟨g, 0, none⟩ v0).setCell ⟨g, 1, none⟩ v1).setCell ⟨g, 2, none⟩ v2).setCell ⟨g, 3, none⟩ v3) :=
 (((Only.setCell (· = g) w g 0 v0 rfl).trans' (Only.setCell _ _ g 1 v1 rfl)).trans' (Only.setCell _ _ g 2 v2 rfl)).trans' (Only.setCell _ _ g 3 v3 rfl)
theorem CAt.k12 {p : Nat} (h : CAt w p F C x bs fe) : w.cell? ⟨p, 12, none⟩ = some (.int .i64 (C.cnt : Int)) := by
 have h9 := h.box.c12
 rw [h.cnt] at h9
 exact h9
theorem cells4 {c0 c1 c2 c3 : Value} {T : TypeId} {fr : Nat × Nat} (h : w.heap[g]? = some (.cells #[c0, c1, c2, c3] T fr)) : w.cell? ⟨g, 0, none⟩ = some c0 ∧ w.cell? ⟨g, 1, none⟩ = some c1 ∧ w.cell? ⟨g, 2, none⟩ = some c2 ∧ w.cell? ⟨g, 3, none⟩ = some c3 := by
 simp [World.cell?, h]
theorem take_any (w : World) (p : Nat) (F : Nat → Prop) (C : Ch) (x : Bx) (bs : List Bc) (fe : List Fe) (h : CAt w p F C x bs fe) (hcn : C.cnt ≤ 4000000000000) :
  Calls Try.prog 103 #[.pointer (some ⟨p, 0, none⟩)] w fun e w' => ∃ v x', e = .returned v ∧ FtOk w' F v (takeF C.cnt C.q) ∧ CAt w' p F { C with q := takeR C.cnt C.q, cnt := C.cnt + 1 } x' bs fe ∧ x'.gb = x.gb ∧ Only (fun k => k = p ∨ k = x.c) w w' := by
 have hp := h.box.lt
 have HC : Hid (CAt (w.alloc (.cells #[.int .i64 0, .int .i64 0, .slice none 0 0, .int .u8 0] 58)).drew p F C x bs fe) := h.below ⟨rfl, rfl, rfl, by simp, fun j hj => alloc_old _ _ hj⟩
 have HC1 : Hid (CAt ((w.alloc (.cells #[.int .i64 0, .int .i64 0, .slice none 0 0, .int .u8 0] 58)).alloc (.cells #[.int .i64 0, .int .i64 0, .slice none 0 0, .int .u8 0] 58)).drew p F C x bs fe) := (h.below (below_alloc _ _)).below (below_trans (below_alloc _ _) (drew_below _))
 have c12 := HC.out.box.c12
 rw [HC.out.cnt] at c12
 have hc2 : (C.cnt : Int) ≤ 4000000000000 := by omega
 have HFW : Hid (∀ k, F k → k < w.heap.size) := h.fin
 clear h
 go_enter Try.func103, Try.ntmps103
 go_wp2
 refine wp_region_held_drew (S := (fun u => u.cell? ⟨p, 12, none⟩ = some (.int .i64 (C.cnt : Int)))) (by kernel_rfl) (c12) fun O => ?_
 refine tk 0 ?_
 refine tk 1 ?_
 refine tk 2 ?_
 refine tk 3 ?_
 refine tk 4 ?_
 refine tk 5 ?_
 refine tk 6 ?_
 refine wpAnyH_ready (rs := [7, 8]) (by kernel_rfl) (by simp) ?_
 refine AllReadyH.cons (o := { dst := some 11, op := Op.call { callee := Callee.value (Operand.func 113), args := #[Operand.tmp 6, Operand.tmp 10], argTypes := #[100, 3] }, type := 58, pos := "commands.go:107", after := #[{ on := 2, ground := Ground.data }, { on := 6, ground := Ground.data }], guard := none }) rfl (fun K N => ?_) (AllReadyH.cons (o := { dst := some 3, op := Op.alloc 58, type := 0, pos := "commands.go:107", after := #[], guard := none }) rfl (fun K N => ?_) AllReadyH.nil)
 ·go_simp
  go_at_call 113
  refine (meets_q _ F x p C.q (C.cnt : Int) HC.out.box HC.out.q).mono ?_
  rintro e u1 ⟨v, x2, rfl, vk, k1, k2, k3, k4, k5⟩
  obtain ⟨ma, ml, mc, hve, mok, mle⟩ := vk.ex
  have hvf := vk.fill
  obtain ⟨fa, hfa⟩ : ∃ z, (takeF (C.cnt : Int) C.q).a = z := ⟨_, rfl⟩
  obtain ⟨fk, hfk⟩ : ∃ z, (takeF (C.cnt : Int) C.q).k = z := ⟨_, rfl⟩
  obtain ⟨ff, hff⟩ : ∃ z, (takeF (C.cnt : Int) C.q).f = z := ⟨_, rfl⟩
  rw [hfa, hfk, hff] at hve
  subst hve
  have HC2 := J (HC.out.script k5 k4.size k1 k3 k2)
  have HO := J k4
  have HS2 := J k3
  have hZ := HC2.out.k12
  have HV := J vk
  have HE := J (And.intro hfa (And.intro hfk hff))
  clear vk mok mle hvf k1 k2 k3 k4 k5 hfa hfk hff
  go_wp2_with fail
  clear O
  refine N.out _ _ hZ fun O => ?_
  clear N K hZ
  try simp only [zz]
  refine rd 8 fun K N => ?_
  go_simp
  go_wp2_with fail
  have hZ := (HC2.out.below (below_alloc _ (.cells #[.int .i64 0, .int .i64 0, .slice none 0 0, .int .u8 0] 58))).k12
  clear O
  refine N.out _ _ hZ fun O => ?_
  clear N K hZ
  try simp only [zz]
  refine rd 9 fun K N => ?_
  go_simp
  go_wp2_with fail
  have hZ := (HC2.out.below (below_alloc _ (.cells #[.int .i64 fa, .int .i64 fk, .slice ma ml mc, .int .u8 ff] 58))).k12
  clear O
  refine N.out _ _ hZ fun O => ?_
  clear N K hZ
  try simp only [zz]
  have TC := HC2.out.below (below_alloc _ (.cells #[.int .i64 fa, .int .i64 fk, .slice ma ml mc, .int .u8 ff] 58))
  have f0 := alloc_new u1 (.cells #[.int .i64 fa, .int .i64 fk, .slice ma ml mc, .int .u8 ff] 58)
  have r0 : (u1.alloc (.cells #[.int .i64 fa, .int .i64 fk, .slice ma ml mc, .int .u8 ff] 58)).heap[w.heap.size]? = some (.cells #[.int .i64 0, .int .i64 0, .slice none 0 0, .int .u8 0] 58 (0, 0)) := (alloc_old _ _ (by have := HO.out.size; simp at this; omega)).trans ((HO.out.block _ (by simp) (by have h1 := HC.out.fin _ HC.out.q.fc; have h2 := HFW.out _ HC.out.q.fc; omega)).trans (alloc_new w (.cells #[.int .i64 0, .int .i64 0, .slice none 0 0, .int .u8 0] 58)))
  have OT : Only (fun k => k = p ∨ k = x.c) w (u1.alloc (.cells #[.int .i64 fa, .int .i64 fk, .slice ma ml mc, .int .u8 ff] 58)) := ((Only.ofB (below_trans (below_alloc w (.cells #[.int .i64 0, .int .i64 0, .slice none 0 0, .int .u8 0] 58)) (drew_below _))).trans HO.out (fun _ _ h => h)).trans (Only.ofB (F := fun _ => False) (below_alloc _ _)) (fun _ _ h => h.elim)
  have HKV : Hid (∀ k, F k → (u1.alloc (.cells #[.int .i64 fa, .int .i64 fk, .slice ma ml mc, .int .u8 ff] 58)).heap[k]? = u1.heap[k]?) := fun k hk => alloc_old _ _ (HC2.out.fin k hk)
  refine td ?_
  clear O c12 HC HC1
  obtain ⟨t, ht⟩ : ∃ t, t = u1.alloc (.cells #[.int .i64 fa, .int .i64 fk, .slice ma ml mc, .int .u8 ff] 58) := ⟨_, rfl⟩
  rw [← ht] at TC r0 f0 OT HKV ⊢
  clear ht
  have d12 := TC.k12
  have fz := TC.box.fz 12
  obtain ⟨q0, q1, q2, q3⟩ := cells4 r0
  obtain ⟨g0, g1, g2, g3⟩ := cells4 f0
  have n1 : u1.heap.size ≠ p := fun e => (tag_ne f0 TC.box (t := 58) (u := 102) rfl rfl (by decide)) e
  have n2 : w.heap.size ≠ p := fun e => (tag_ne r0 TC.box (t := 58) (u := 102) rfl rfl (by decide)) e
  have fq := fun j => frozen_of_row t w.heap.size j _ 58 r0
  have HT := J TC
  have HR0 := J r0
  have HOT := J OT
  clear TC r0 f0 OT
  go_wp2
  have hX := (HT.out.box.setCnt ((C.cnt : Int) + 1))
  generalize hz : World.setCell t ⟨p, 12, none⟩ _ = z at hX ⊢
  have oz : Only (· = p) t z := by rw [← hz]; exact Only.setCell (· = p) t p 12 _ rfl
  have rz := (oz.block w.heap.size (lt_of_block HR0.out) n2).trans HR0.out
  have rs4 := set4 rz (.int .i64 fa) (.int .i64 fk) (.slice ma ml mc) (.int .u8 ff)
  have os4 := only4 z w.heap.size (.int .i64 fa) (.int .i64 fk) (.slice ma ml mc) (.int .u8 ff)
  generalize hy : World.setCell _ ⟨w.heap.size, 3, none⟩ _ = y at rs4 os4 ⊢
  have CZ : CAt z p F { C with q := takeR C.cnt C.q, cnt := C.cnt + 1 } _ bs fe := HT.out.box2 (HT.out.onlyBox oz (fun k hk => hk)) oz.size hX ⟨rfl, rfl, rfl, rfl, rfl, rfl, rfl⟩ ⟨rfl, rfl, rfl, rfl, rfl, rfl, rfl⟩ ⟨rfl, rfl, rfl⟩ HT.out.dark (by simp) ⟨rfl, rfl, rfl, rfl, rfl, rfl, rfl⟩
  have fw : ∀ k, F k → k ≠ w.heap.size := fun k hk e => by have h1 := HFW.out k hk; omega
  have CY := CZ.keep (w' := y) (fun k hk => os4.block k (CZ.fin k hk) (fw k hk)) (fun _ h => h) (fun k hk => Nat.lt_of_lt_of_le (CZ.fin k hk) os4.size)
  have oy : Only (fun k => k = p ∨ k = x.c) w y := (HOT.out.trans oz (fun j _ e => Or.inl e)).trans os4 (fun j hj e => absurd e (by omega))
  have vy : FtOk y F (.agg #[.int .i64 fa, .int .i64 fk, .slice ma ml mc, .int .u8 ff]) (takeF C.cnt C.q) := by
   have v1 := HV.out.keep (T := fun _ => False) (KeepT.of (fun k hk => HKV.out k hk) _) (fun h => h) (fun _ h => h)
   have v2 := v1.keep (HT.out.onlyBox oz (fun k hk => hk)) (by decide) (fun _ h => h)
   exact v2.keep (KeepT.of (fun k hk => os4.block k (CZ.fin k hk) (fw k hk)) (fun _ => False)) (fun h => h) (fun _ h => h)
  obtain ⟨y0, y1, y2, y3⟩ := cells4 rs4
  refine bodyPost_ret (v := .agg #[.int .i64 fa, .int .i64 fk, .slice ma ml mc, .int .u8 ff]) (by simp [results, Try.results103, go_sem, y0, y1, y2, y3]) rfl ?_
  exact ⟨_, rfl, vy, _, CY, HS2.out.e.2.2.2.1, oy⟩
 ·go_simp
  go_wp2_with fail
  have hZ := HC1.out.k12
  clear O
  refine N.out _ _ hZ fun O => ?_
  clear N K hZ
  try simp only [zz]
  refine rd 7 fun K N => ?_
  go_simp
  go_at_call 113
  refine (meets_q _ F x p C.q (C.cnt : Int) HC1.out.box HC1.out.q).mono ?_
  rintro e u1 ⟨v, x2, rfl, vk, k1, k2, k3, k4, k5⟩
  obtain ⟨ma, ml, mc, hve, mok, mle⟩ := vk.ex
  have hvf := vk.fill
  obtain ⟨fa, hfa⟩ : ∃ z, (takeF (C.cnt : Int) C.q).a = z := ⟨_, rfl⟩
  obtain ⟨fk, hfk⟩ : ∃ z, (takeF (C.cnt : Int) C.q).k = z := ⟨_, rfl⟩
  obtain ⟨ff, hff⟩ : ∃ z, (takeF (C.cnt : Int) C.q).f = z := ⟨_, rfl⟩
  rw [hfa, hfk, hff] at hve
  subst hve
  have HC2 := J (HC1.out.script k5 k4.size k1 k3 k2)
  have HO := J k4
  have HS2 := J k3
  have hZ := HC2.out.k12
  have HV := J vk
  have HE := J (And.intro hfa (And.intro hfk hff))
  clear vk mok mle hvf k1 k2 k3 k4 k5 hfa hfk hff
  go_wp2_with fail
  have b0 : u1.heap[w.heap.size + 1]? = some (.cells #[.int .i64 0, .int .i64 0, .slice none 0 0, .int .u8 0] 58 (0, 0)) := (HO.out.block _ (by simp) (by have h1 := HFW.out _ HC1.out.q.fc; omega)).trans (by have h2 := alloc_new (w.alloc (.cells #[.int .i64 0, .int .i64 0, .slice none 0 0, .int .u8 0] 58)) (.cells #[.int .i64 0, .int .i64 0, .slice none 0 0, .int .u8 0] 58); rw [alloc_size] at h2; exact h2)
  have a0 : u1.heap[w.heap.size]? = some (.cells #[.int .i64 0, .int .i64 0, .slice none 0 0, .int .u8 0] 58 (0, 0)) := (HO.out.block _ (by simp; omega) (by have h1 := HFW.out _ HC1.out.q.fc; omega)).trans ((alloc_old _ _ (by simp)).trans (alloc_new w (.cells #[.int .i64 0, .int .i64 0, .slice none 0 0, .int .u8 0] 58)))
  obtain ⟨p0, p1, p2, p3⟩ := cells4 b0
  have fp := fun j => frozen_of_row u1 (w.heap.size + 1) j _ 58 b0
  have HB0 := J b0
  have HA0 := J a0
  clear b0 a0
  clear O
  refine N.out _ _ hZ fun O => ?_
  clear N K hZ
  try simp only [zz]
  refine rd 9 fun K N => ?_
  go_simp
  go_wp2_with fail
  have o9 := only4 u1 (w.heap.size + 1) (.int .i64 fa) (.int .i64 fk) (.slice ma ml mc) (.int .u8 ff)
  have f9 := set4 HB0.out (.int .i64 fa) (.int .i64 fk) (.slice ma ml mc) (.int .u8 ff)
  have C9 := HC2.out.keep (G := F) (fun k hk => o9.block k (HC2.out.fin k hk) (fun e => by have h1 := HFW.out k hk; omega)) (fun _ h => h) (fun k hk => Nat.lt_of_lt_of_le (HC2.out.fin k hk) o9.size)
  have hZ := C9.k12
  have O9 := J o9
  have F9 := J f9
  have HC9 := J C9
  clear o9 f9 C9 p0 p1 p2 p3 fp
  clear O
  refine N.out _ _ hZ fun O => ?_
  clear N K hZ
  try simp only [zz]
  have TC := HC9.out
  have f0 := F9.out
  have r0 := (O9.out.block w.heap.size (lt_of_block HA0.out) (by omega)).trans HA0.out
  have OT := ((Only.ofB (F := fun k => k = p ∨ k = x.c) (below_trans (below_trans (below_alloc w (.cells #[.int .i64 0, .int .i64 0, .slice none 0 0, .int .u8 0] 58)) (below_alloc _ (.cells #[.int .i64 0, .int .i64 0, .slice none 0 0, .int .u8 0] 58))) (drew_below _))).trans HO.out (fun _ _ h => h)).trans O9.out (fun j hj e => absurd e (by omega))
  have HKV : Hid (∀ k, F k → ((((u1.setCell ⟨w.heap.size + 1, 0, none⟩ (.int .i64 fa)).setCell ⟨w.heap.size + 1, 1, none⟩ (.int .i64 fk)).setCell ⟨w.heap.size + 1, 2, none⟩ (.slice ma ml mc)).setCell ⟨w.heap.size + 1, 3, none⟩ (.int .u8 ff)).heap[k]? = u1.heap[k]?) := fun k hk => O9.out.block k (HC2.out.fin k hk) (fun e => by have h1 := HFW.out k hk; omega)
  refine td ?_
  clear O c12 HC HC1
  obtain ⟨t, ht⟩ : ∃ t, t = ((((u1.setCell ⟨w.heap.size + 1, 0, none⟩ (.int .i64 fa)).setCell ⟨w.heap.size + 1, 1, none⟩ (.int .i64 fk)).setCell ⟨w.heap.size + 1, 2, none⟩ (.slice ma ml mc)).setCell ⟨w.heap.size + 1, 3, none⟩ (.int .u8 ff)) := ⟨_, rfl⟩
  rw [← ht] at TC r0 f0 OT HKV ⊢
  clear ht
  have d12 := TC.k12
  have fz := TC.box.fz 12
  obtain ⟨q0, q1, q2, q3⟩ := cells4 r0
  obtain ⟨g0, g1, g2, g3⟩ := cells4 f0
  have n1 : (w.heap.size + 1) ≠ p := fun e => (tag_ne f0 TC.box (t := 58) (u := 102) rfl rfl (by decide)) e
  have n2 : w.heap.size ≠ p := fun e => (tag_ne r0 TC.box (t := 58) (u := 102) rfl rfl (by decide)) e
  have fq := fun j => frozen_of_row t w.heap.size j _ 58 r0
  have HT := J TC
  have HR0 := J r0
  have HOT := J OT
  clear TC r0 f0 OT
  go_wp2
  have hX := (HT.out.box.setCnt ((C.cnt : Int) + 1))
  generalize hz : World.setCell t ⟨p, 12, none⟩ _ = z at hX ⊢
  have oz : Only (· = p) t z := by rw [← hz]; exact Only.setCell (· = p) t p 12 _ rfl
  have rz := (oz.block w.heap.size (lt_of_block HR0.out) n2).trans HR0.out
  have rs4 := set4 rz (.int .i64 fa) (.int .i64 fk) (.slice ma ml mc) (.int .u8 ff)
  have os4 := only4 z w.heap.size (.int .i64 fa) (.int .i64 fk) (.slice ma ml mc) (.int .u8 ff)
  generalize hy : World.setCell _ ⟨w.heap.size, 3, none⟩ _ = y at rs4 os4 ⊢
  have CZ : CAt z p F { C with q := takeR C.cnt C.q, cnt := C.cnt + 1 } _ bs fe := HT.out.box2 (HT.out.onlyBox oz (fun k hk => hk)) oz.size hX ⟨rfl, rfl, rfl, rfl, rfl, rfl, rfl⟩ ⟨rfl, rfl, rfl, rfl, rfl, rfl, rfl⟩ ⟨rfl, rfl, rfl⟩ HT.out.dark (by simp) ⟨rfl, rfl, rfl, rfl, rfl, rfl, rfl⟩
  have fw : ∀ k, F k → k ≠ w.heap.size := fun k hk e => by have h1 := HFW.out k hk; omega
  have CY := CZ.keep (w' := y) (fun k hk => os4.block k (CZ.fin k hk) (fw k hk)) (fun _ h => h) (fun k hk => Nat.lt_of_lt_of_le (CZ.fin k hk) os4.size)
  have oy : Only (fun k => k = p ∨ k = x.c) w y := (HOT.out.trans oz (fun j _ e => Or.inl e)).trans os4 (fun j hj e => absurd e (by omega))
  have vy : FtOk y F (.agg #[.int .i64 fa, .int .i64 fk, .slice ma ml mc, .int .u8 ff]) (takeF C.cnt C.q) := by
   have v1 := HV.out.keep (T := fun _ => False) (KeepT.of (fun k hk => HKV.out k hk) _) (fun h => h) (fun _ h => h)
   have v2 := v1.keep (HT.out.onlyBox oz (fun k hk => hk)) (by decide) (fun _ h => h)
   exact v2.keep (KeepT.of (fun k hk => os4.block k (CZ.fin k hk) (fw k hk)) (fun _ => False)) (fun h => h) (fun _ h => h)
  obtain ⟨y0, y1, y2, y3⟩ := cells4 rs4
  refine bodyPost_ret (v := .agg #[.int .i64 fa, .int .i64 fk, .slice ma ml mc, .int .u8 ff]) (by simp [results, Try.results103, go_sem, y0, y1, y2, y3]) rfl ?_
  exact ⟨_, rfl, vy, _, CY, HS2.out.e.2.2.2.1, oy⟩
end Go.Proofs.Ytadlkikjfonkgaa
