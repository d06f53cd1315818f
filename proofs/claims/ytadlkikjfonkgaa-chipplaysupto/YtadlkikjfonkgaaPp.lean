/-
  SEAT Ytadlkikjfonkgaa: Xb, Xc, Wb.
-/
import Derived.Test.YtadlkikjfonkgaaPa
import Derived.Test.YtadlkikjfonkgaaPo
import Derived.Test.YtadlkikjfonkgaaPc
import Derived.Test.YtadlkikjfonkgaaPl
import Derived.Test.YtadlkikjfonkgaaPe
namespace Go.Proofs.Ytadlkikjfonkgaa
open Go.RowKit Go.Conc
set_option linter.unusedVariables false
theorem Rx.at.lt {x : Rx} {w : World} {p : Nat} (h : x.at w p) : p < w.heap.size := lt_of_block h
theorem rblock_any {x : Rx} {w : World} {p : Nat} (h : x.at w p) (b : Int) (B : Nat) (hB : x.B = B) :
  Calls Try.prog 97 #[.pointer (some ⟨p, 0, none⟩), .int .i64 b] w fun e w' => e = .returned (.bool (hasB B b)) ∧ w' = w := by
 have c0 := h.c0
 rw [hB] at c0
 clear h hB
 by_cases h0 : 0 ≤ b
 ·have d0 : decide (b ≥ 0) = true := decide_eq_true h0
  by_cases h1 : b < (B : Int)
  ·have d1 : decide (b < (B : Int)) = true := decide_eq_true h1
   rw [show hasB B b = true from decide_eq_true ⟨h0, h1⟩]
   clear h0 h1
   go_enter Try.func97, Try.ntmps97
   go_wp2
   go_ret
   exact ⟨rfl, rfl⟩
  ·have d1 : decide (b < (B : Int)) = false := decide_eq_false h1
   rw [show hasB B b = false from decide_eq_false (by omega)]
   clear h0 h1
   go_enter Try.func97, Try.ntmps97
   go_wp2
   go_ret
   exact ⟨rfl, rfl⟩
 ·have d0 : decide (b ≥ 0) = false := decide_eq_false h0
  rw [show hasB B b = false from decide_eq_false (by omega)]
  clear h0
  go_enter Try.func97, Try.ntmps97
  go_wp2
  go_ret
  exact ⟨rfl, rfl⟩
theorem place_a (x : Rx) (p B P : Nat) (pb pp : Int) (w : World) (h : x.at w p) (hB : x.B = B) (hP : x.P = P) (hv : hasB B pb = false) :
  Calls Try.prog 101 #[.pointer (some ⟨p, 0, none⟩), .agg #[.int .i64 pb, .int .i64 pp]] w fun e w' => e = .returned (.bool false) ∧ Below w.heap.size w w' := by
 have hp := h.lt
 have HX : Hid (x.at (w.alloc (.cells #[.int .i64 pb, .int .i64 pp] 41)).drew p) := h.keep (alloc_old _ _ hp)
 have c1 := HX.out.c1
 rw [hP] at c1
 clear h hP
 go_enter Try.func101, Try.ntmps101
 go_wp2
 refine wp_region_held_drew (S := (fun u => u.cell? ⟨w.heap.size, 0, none⟩ = some (.int .i64 pb) ∧ u.cell? ⟨w.heap.size, 1, none⟩ = some (.int .i64 pp) ∧ u.cell? ⟨p, 1, none⟩ = some (.int .i64 (P : Int)))) (by kernel_rfl) (⟨by simp, by simp, c1⟩) (fun hHeld => ?_)
 refine tk 0 ?_
 refine tk 1 ?_
 refine tk 2 ?_
 refine rd 3 (fun K hK => ?_)
 go_simp
 go_at_call 97
 refine (rblock_any (HX.out) pb B hB).mono ?_
 rintro e u1 ⟨rfl, h1⟩
 rw [h1, hv]
 clear h1
 have hSnew := hHeld
 go_wp2_with fail
 clear hHeld
 refine hK.out _ _ hSnew (fun hHeld => ?_)
 clear hK K hSnew
 try simp only [Act.put, zSt, zS0, zS1]
 refine tk 4 ?_
 refine tu 5 ?_
 refine tu 6 ?_
 refine tu 7 ?_
 refine tk 8 ?_
 refine tk 9 ?_
 refine tu 10 ?_
 refine tu 11 ?_
 refine tu 12 ?_
 refine tu 13 ?_
 refine tu 14 ?_
 refine tu 15 ?_
 refine tu 16 ?_
 refine tu 17 ?_
 refine tk 18 ?_
 refine tk 19 ?_
 refine wpAnyH_done (by kernel_rfl) ?_ _
 go_wp2
 go_ret
 exact ⟨rfl, below_trans (below_alloc w _) ⟨rfl, rfl, rfl, Nat.le_refl _, fun _ _ => rfl⟩⟩
theorem place_b (x : Rx) (p B P : Nat) (pb pp : Int) (w : World) (h : x.at w p) (hB : x.B = B) (hP : x.P = P) (hv : hasB B pb = true) (h0 : decide (pp ≥ 0) = false) :
  Calls Try.prog 101 #[.pointer (some ⟨p, 0, none⟩), .agg #[.int .i64 pb, .int .i64 pp]] w fun e w' => e = .returned (.bool false) ∧ Below w.heap.size w w' := by
 have hp := h.lt
 have HX : Hid (x.at (w.alloc (.cells #[.int .i64 pb, .int .i64 pp] 41)).drew p) := h.keep (alloc_old _ _ hp)
 have c1 := HX.out.c1
 rw [hP] at c1
 clear h hP
 go_enter Try.func101, Try.ntmps101
 go_wp2
 refine wp_region_held_drew (S := (fun u => u.cell? ⟨w.heap.size, 0, none⟩ = some (.int .i64 pb) ∧ u.cell? ⟨w.heap.size, 1, none⟩ = some (.int .i64 pp) ∧ u.cell? ⟨p, 1, none⟩ = some (.int .i64 (P : Int)))) (by kernel_rfl) (⟨by simp, by simp, c1⟩) (fun hHeld => ?_)
 refine tk 0 ?_
 refine tk 1 ?_
 refine tk 2 ?_
 refine rd 3 (fun K hK => ?_)
 go_simp
 go_at_call 97
 refine (rblock_any (HX.out) pb B hB).mono ?_
 rintro e u1 ⟨rfl, h1⟩
 rw [h1, hv]
 clear h1
 have hSnew := hHeld
 go_wp2_with fail
 clear hHeld
 refine hK.out _ _ hSnew (fun hHeld => ?_)
 clear hK K hSnew
 try simp only [Act.put, zSt, zS0, zS1]
 refine tk 4 ?_
 refine tk 5 ?_
 refine tk 6 ?_
 refine tk 7 ?_
 refine tk 8 ?_
 refine tk 9 ?_
 refine tu 10 ?_
 refine tu 11 ?_
 refine tu 12 ?_
 refine tu 13 ?_
 refine tu 14 ?_
 refine tu 15 ?_
 refine tu 16 ?_
 refine tu 17 ?_
 refine tk 18 ?_
 refine tk 19 ?_
 refine wpAnyH_done (by kernel_rfl) ?_ _
 go_wp2
 go_ret
 exact ⟨rfl, below_trans (below_alloc w _) ⟨rfl, rfl, rfl, Nat.le_refl _, fun _ _ => rfl⟩⟩
theorem place_c (x : Rx) (p B P : Nat) (pb pp : Int) (w : World) (h : x.at w p) (hB : x.B = B) (hP : x.P = P) (hv : hasB B pb = true) (h0 : decide (pp ≥ 0) = true) (h1 : decide (pp < (P : Int)) = false) :
  Calls Try.prog 101 #[.pointer (some ⟨p, 0, none⟩), .agg #[.int .i64 pb, .int .i64 pp]] w fun e w' => e = .returned (.bool false) ∧ Below w.heap.size w w' := by
 have hp := h.lt
 have HX : Hid (x.at (w.alloc (.cells #[.int .i64 pb, .int .i64 pp] 41)).drew p) := h.keep (alloc_old _ _ hp)
 have c1 := HX.out.c1
 rw [hP] at c1
 clear h hP
 go_enter Try.func101, Try.ntmps101
 go_wp2
 refine wp_region_held_drew (S := (fun u => u.cell? ⟨w.heap.size, 0, none⟩ = some (.int .i64 pb) ∧ u.cell? ⟨w.heap.size, 1, none⟩ = some (.int .i64 pp) ∧ u.cell? ⟨p, 1, none⟩ = some (.int .i64 (P : Int)))) (by kernel_rfl) (⟨by simp, by simp, c1⟩) (fun hHeld => ?_)
 refine tk 0 ?_
 refine tk 1 ?_
 refine tk 2 ?_
 refine rd 3 (fun K hK => ?_)
 go_simp
 go_at_call 97
 refine (rblock_any (HX.out) pb B hB).mono ?_
 rintro e u1 ⟨rfl, h1⟩
 rw [h1, hv]
 clear h1
 have hSnew := hHeld
 go_wp2_with fail
 clear hHeld
 refine hK.out _ _ hSnew (fun hHeld => ?_)
 clear hK K hSnew
 try simp only [Act.put, zSt, zS0, zS1]
 refine tk 4 ?_
 refine tk 5 ?_
 refine tk 6 ?_
 refine tk 7 ?_
 refine tk 8 ?_
 refine tk 9 ?_
 refine tk 10 ?_
 refine tk 11 ?_
 refine tk 12 ?_
 refine tk 13 ?_
 refine tk 14 ?_
 refine tk 15 ?_
 refine tk 16 ?_
 refine tk 17 ?_
 refine tk 18 ?_
 refine tk 19 ?_
 refine wpAnyH_done (by kernel_rfl) ?_ _
 go_wp2
 go_ret
 exact ⟨rfl, below_trans (below_alloc w _) ⟨rfl, rfl, rfl, Nat.le_refl _, fun _ _ => rfl⟩⟩
theorem place_d (x : Rx) (p B P : Nat) (pb pp : Int) (w : World) (h : x.at w p) (hB : x.B = B) (hP : x.P = P) (hv : hasB B pb = true) (h0 : decide (pp ≥ 0) = true) (h1 : decide (pp < (P : Int)) = true) :
  Calls Try.prog 101 #[.pointer (some ⟨p, 0, none⟩), .agg #[.int .i64 pb, .int .i64 pp]] w fun e w' => e = .returned (.bool true) ∧ Below w.heap.size w w' := by
 have hp := h.lt
 have HX : Hid (x.at (w.alloc (.cells #[.int .i64 pb, .int .i64 pp] 41)).drew p) := h.keep (alloc_old _ _ hp)
 have c1 := HX.out.c1
 rw [hP] at c1
 clear h hP
 go_enter Try.func101, Try.ntmps101
 go_wp2
 refine wp_region_held_drew (S := (fun u => u.cell? ⟨w.heap.size, 0, none⟩ = some (.int .i64 pb) ∧ u.cell? ⟨w.heap.size, 1, none⟩ = some (.int .i64 pp) ∧ u.cell? ⟨p, 1, none⟩ = some (.int .i64 (P : Int)))) (by kernel_rfl) (⟨by simp, by simp, c1⟩) (fun hHeld => ?_)
 refine tk 0 ?_
 refine tk 1 ?_
 refine tk 2 ?_
 refine rd 3 (fun K hK => ?_)
 go_simp
 go_at_call 97
 refine (rblock_any (HX.out) pb B hB).mono ?_
 rintro e u1 ⟨rfl, h1⟩
 rw [h1, hv]
 clear h1
 have hSnew := hHeld
 go_wp2_with fail
 clear hHeld
 refine hK.out _ _ hSnew (fun hHeld => ?_)
 clear hK K hSnew
 try simp only [Act.put, zSt, zS0, zS1]
 refine tk 4 ?_
 refine tk 5 ?_
 refine tk 6 ?_
 refine tk 7 ?_
 refine tk 8 ?_
 refine tk 9 ?_
 refine tk 10 ?_
 refine tk 11 ?_
 refine tk 12 ?_
 refine tk 13 ?_
 refine tk 14 ?_
 refine tk 15 ?_
 refine tk 16 ?_
 refine tk 17 ?_
 refine tk 18 ?_
 refine tk 19 ?_
 refine wpAnyH_done (by kernel_rfl) ?_ _
 go_wp2
 go_ret
 exact ⟨rfl, below_trans (below_alloc w _) ⟨rfl, rfl, rfl, Nat.le_refl _, fun _ _ => rfl⟩⟩
theorem place_any (x : Rx) (p B P : Nat) (pb pp : Int) (w : World) (h : x.at w p) (hB : x.B = B) (hP : x.P = P) :
  Calls Try.prog 101 #[.pointer (some ⟨p, 0, none⟩), .agg #[.int .i64 pb, .int .i64 pp]] w fun e w' => e = .returned (.bool (hasP B P pb pp)) ∧ Below w.heap.size w w' := by
 unfold hasP
 cases hv : hasB B pb with
 | false => rw [Bool.false_and]; exact place_a x p B P pb pp w h hB hP hv
 | true =>
  rw [Bool.true_and]
  by_cases h0 : 0 ≤ pp
  ·by_cases h1 : pp < (P : Int)
   ·rw [show hasB P pp = true from decide_eq_true ⟨h0, h1⟩]
    exact place_d x p B P pb pp w h hB hP hv (decide_eq_true h0) (decide_eq_true h1)
   ·rw [show hasB P pp = false from decide_eq_false (by omega)]
    exact place_c x p B P pb pp w h hB hP hv (decide_eq_true h0) (decide_eq_false h1)
  ·rw [show hasB P pp = false from decide_eq_false (by omega)]
   exact place_b x p B P pb pp w h hB hP hv (decide_eq_false h0)
section
variable {w0 w : World} {p : Nat} {F : Nat → Prop} {C : Ch} {fs : List Fc} {x : Rx} {rs : List Rc}
theorem own_cells {u : World} {B e size n c g j : Nat} {xs : List Value} (h : u.ownsRow B e size (.slice (some ⟨g, 0, none⟩) n c) n xs) (hj : j < n * size) : u.cell? ⟨g, j, none⟩ = xs[j]? := World.ownsRow.cellAt h j hj
theorem RAt.blk (h : RAt w0 w p F C fs x rs) {i : Nat} {r : Rc} (hi : rs[i]? = some r) : w.cell? ⟨x.gr, i * 4, none⟩ = some (.slice (some ⟨r.g, 0, none⟩) r.ls.length r.cap) ∧ w.cell? ⟨x.gr, i * 4 + 1, none⟩ = some (.bool r.m) ∧ w.cell? ⟨x.gr, i * 4 + 2, none⟩ = some (.bool r.r) ∧ w.cell? ⟨x.gr, i * 4 + 3, none⟩ = some (.int .i64 r.nx) := by
 have hl : i < rs.length := (List.getElem?_eq_some_iff.1 hi).1
 have hn := h.nr
 have h0 := flat_get Rc.cells 4 Rc.cells_len 0 (by omega) rs i r hi
 have h1 := flat_get Rc.cells 4 Rc.cells_len 1 (by omega) rs i r hi
 have h2 := flat_get Rc.cells 4 Rc.cells_len 2 (by omega) rs i r hi
 have h3 := flat_get Rc.cells 4 Rc.cells_len 3 (by omega) rs i r hi
 exact ⟨(own_cells h.row (by omega)).trans h0, (own_cells h.row (by omega)).trans h1, (own_cells h.row (by omega)).trans h2, (own_cells h.row (by omega)).trans h3⟩
theorem RcOk.leaf {L P : Nat} {r : Rc} (h : RcOk w F L P r) {k : Nat} {l : Lc} (hk : r.ls[k]? = some l) : w.cell? ⟨r.g, k * 3, none⟩ = some (.slice l.a l.n l.c) ∧ w.cell? ⟨r.g, k * 3 + 1, none⟩ = some (.slice l.fa l.fn l.fc) ∧ w.cell? ⟨r.g, k * 3 + 2, none⟩ = some (.bool l.h) := by
 have hl : k < r.ls.length := (List.getElem?_eq_some_iff.1 hk).1
 have h0 := flat_get Lc.cells 3 Lc.cells_len 0 (by omega) r.ls k l hk
 have h1 := flat_get Lc.cells 3 Lc.cells_len 1 (by omega) r.ls k l hk
 have h2 := flat_get Lc.cells 3 Lc.cells_len 2 (by omega) r.ls k l hk
 exact ⟨(own_cells h.row (by omega)).trans h0, (own_cells h.row (by omega)).trans h1, (own_cells h.row (by omega)).trans h2⟩
theorem RAt.len (h : RAt w0 w p F C fs x rs) : rs.length = C.bl.length := by rw [← h.bl]; simp
end
theorem rOn_any (w0 w : World) (p : Nat) (F : Nat → Prop) (C : Ch) (fs : List Fc) (h : RefAt w0 w p F C fs) :
  Calls Try.prog 69 #[.pointer (some ⟨p, 0, none⟩)] w fun e w' => e = .returned (.tuple #[]) ∧ RefAt w0 w' p F { C with dark := false } fs ∧ Only F w w' := by
 obtain ⟨x, rs, h⟩ := h
 have HC := hide h
 have c := h.box.c5
 have f := h.box.fz 5
 clear h
 go_enter Try.func69, Try.ntmps69
 go_wp2
 go_end0
 have ho := Only.setCell (· = p) w p 5 (.bool false) rfl
 have hF : ∀ k, k = p → F k := fun k e => e ▸ HC.out.fp
 have hT : KeepT F (· = 135) w (w.setCell ⟨p, 5, none⟩ (.bool false)) := ho.keepT (fun k o t hg hk ht => by
  rw [hg, show w.heap[p]? = _ from HC.out.box] at hk
  cases hk
  exact ht.symm)
 refine ⟨rfl, ⟨_, rs, HC.out.frame hT (by decide) (by decide) (by decide) (by decide) (HC.out.old.trans (ho.below (fun k e => HC.out.lo k (hF k e)) HC.out.old.size)) (fun _ h => h) (fun k hk => Nat.lt_of_lt_of_le (HC.out.fin k hk) ho.size) HC.out.lo (HC.out.box.setDark false) ⟨rfl, rfl, rfl, rfl, rfl, rfl, rfl, rfl⟩ ⟨rfl, rfl, rfl, rfl, rfl⟩ rfl HC.out.cnt HC.out.q ?_ HC.out.tl HC.out.ft⟩, ho.mono (fun k _ e => hF k e)⟩
 exact owns_keep HC.out.tr (fun g hg => by obtain ⟨cs, hc⟩ := own_tag HC.out.tr hg; exact (hT g _ 120 (HC.out.ft g hg) hc rfl (by decide)).trans hc.symm)
theorem rMarked_any (w0 w : World) (p : Nat) (F : Nat → Prop) (C : Ch) (fs : List Fc) (h : RefAt w0 w p F C fs) (hok : C.Ok) (pb : Int) :
  Calls Try.prog 72 #[.pointer (some ⟨p, 0, none⟩), .int .i64 pb] w fun e w' => e = .returned (.tuple #[.bool (MarkedB C pb), .int .i64 (MarkedE C pb)]) ∧ w' = w := by
 obtain ⟨x, rs, h⟩ := h
 have c5 := h.box.c5
 rw [h.dark] at c5
 have HC := hide h
 clear h
 cases hd : C.dark with
 | true =>
  have e1 : MarkedE C pb = 45 := by unfold MarkedE; rw [hd]; rfl
  have e2 : MarkedB C pb = false := by unfold MarkedB; rw [e1]; rfl
  rw [e1, e2]
  rw [hd] at c5
  go_enter Try.func72, Try.ntmps72
  go_wp2
  go_ret2
  exact ⟨rfl, rfl⟩
 | false =>
  rw [hd] at c5
  cases hb : hasB C.B pb with
  | false =>
   have e1 : MarkedE C pb = 41 := by unfold MarkedE; rw [hd, hb]; rfl
   have e2 : MarkedB C pb = false := by unfold MarkedB; rw [e1]; rfl
   rw [e1, e2]
   go_enter Try.func72, Try.ntmps72
   go_wp2_with (first | (go_at_call 97; refine (rblock_any HC.out.box pb C.B HC.out.B).mono ?_; rintro e u1 ⟨rfl, hu⟩; subst u1; rw [hb]))
   go_ret2
   exact ⟨rfl, rfl⟩
  | true =>
   have hx := of_decide_eq_true hb
   obtain ⟨i, rfl⟩ : ∃ i : Nat, pb = i := ⟨pb.toNat, by omega⟩
   have hil : i < rs.length := by rw [HC.out.len, hok.bl]; omega
   obtain ⟨r, hr⟩ : ∃ r, rs[i]? = some r := ⟨_, List.getElem?_eq_getElem hil⟩
   have e1 : MarkedE C i = 0 := by unfold MarkedE; rw [hd, hb]; rfl
   have hbl : C.bl[i]? = some r.v := by rw [← HC.out.bl, List.getElem?_map, hr]; rfl
   have e2 : MarkedB C i = r.m := by unfold MarkedB; rw [e1, if_pos rfl]; simp only [Int.toNat_natCast, hbl]; rfl
   rw [e1, e2]
   obtain ⟨k0, k1, k2, k3⟩ := HC.out.blk hr
   have c3 := HC.out.box.c3
   have i1 : (i : Int) < (x.nr : Int) := by rw [HC.out.nr]; omega
   clear hx hil e1 e2 hbl
   go_enter Try.func72, Try.ntmps72
   go_wp2_with (first | (go_at_call 97; refine (rblock_any HC.out.box (i : Int) C.B HC.out.B).mono ?_; rintro e u1 ⟨rfl, hu⟩; subst u1; rw [hb]))
   go_ret2
   exact ⟨rfl, rfl⟩
end Go.Proofs.Ytadlkikjfonkgaa
namespace Go.Proofs.Ytadlkikjfonkgaa
open Go.RowKit Go.Conc
set_option linter.unusedVariables false
def RefG (w0 w : World) (p : Nat) (F : Nat → Prop) (C : Ch) (fs : List Fc) (g : Nat) (rs : List Rc) : Prop := ∃ x, x.gr = g ∧ RAt w0 w p F C fs x rs
theorem RefG.ref {w0 w : World} {p : Nat} {F : Nat → Prop} {C : Ch} {fs : List Fc} {g : Nat} {rs : List Rc} (h : RefG w0 w p F C fs g rs) : RefAt w0 w p F C fs := by
 obtain ⟨x, _, h⟩ := h
 exact ⟨x, rs, h⟩
theorem RefG.more {w0 w : World} {p : Nat} {F G : Nat → Prop} {C : Ch} {fs : List Fc} {g : Nat} {rs : List Rc} (h : RefG w0 w p F C fs g rs) (hF : ∀ k, F k → G k) (hG : ∀ k, G k → k < w.heap.size) (hl : ∀ k, G k → w0.heap.size ≤ k) : RefG w0 w p G C fs g rs := by
 obtain ⟨x, e, h1⟩ := h
 exact ⟨x, e, h1.keep (fun _ _ => rfl) h1.old hF hG hl⟩
theorem rnote_end {w Y : World} {p : Nat} {F : Nat → Prop} {C : Ch} {w0 : World} {fs : List Fc} {x : Rx} {rs : List Rc} {k pb pp s : Int} {gn tc : Nat} (htr : C.tr.length ≤ 4000000000000) (h : RAt w0 ((w.alloc (.cells #[.int .i64 pb, .int .i64 pp] 41)).alloc (.cells #[.int .i64 k, .int .i64 pb, .int .i64 pp, .int .i64 s] 120)).drew p F C fs x rs) (hfw : ∀ k, F k → k < w.heap.size) (hw0 : w0.heap.size ≤ w.heap.size) (htl : x.tl = C.tr.length)
  (how : Y.ownsRow 0 120 4 (.slice (some ⟨gn, 0, none⟩) (x.tl + 1) tc) (x.tl + 1) (C.tr.flatMap Cmd.cells ++ [.int .i64 k, .int .i64 pb, .int .i64 pp, .int .i64 s])) (hg : (((w.alloc (.cells #[.int .i64 pb, .int .i64 pp] 41)).alloc (.cells #[.int .i64 k, .int .i64 pb, .int .i64 pp, .int .i64 s] 120)).drew).grownBy Y (Value.slice x.ta x.tl x.tc).ownBlock) (hli : (Value.slice x.ta x.tl x.tc).ownBlock = some gn ∨ gn = w.heap.size + 2) :
  RefG w0 (Y.setCell ⟨p, 7, none⟩ (.slice (some ⟨gn, 0, none⟩) (x.tl + 1) tc)) p (Fx F w (Y.setCell ⟨p, 7, none⟩ (.slice (some ⟨gn, 0, none⟩) (x.tl + 1) tc))) { C with tr := C.tr ++ [⟨k, pb, pp, s⟩] } fs x.gr rs ∧ Only F w (Y.setCell ⟨p, 7, none⟩ (.slice (some ⟨gn, 0, none⟩) (x.tl + 1) tc)) := by
 have hp : p < w.heap.size := hfw p h.fp
 have kt : ∀ g, (Value.slice x.ta x.tl x.tc).ownBlock = some g → ∃ cs, (((w.alloc (.cells #[.int .i64 pb, .int .i64 pp] 41)).alloc (.cells #[.int .i64 k, .int .i64 pb, .int .i64 pp, .int .i64 s] 120)).drew).heap[g]? = some (.cells cs 120 (0, 0)) := fun g hg => own_tag h.tr hg
 have k0 : ∀ g, (Value.slice x.ta x.tl x.tc).ownBlock = some g → g ≠ p := fun g hg => by
  obtain ⟨cs, hc⟩ := kt g hg
  exact tag_ne hc h.box (t := 120) (u := 135) rfl rfl (by decide)
 have hXY : x.at Y p := h.box.keep (hg.block p h.box.lt (fun e => k0 p e.symm rfl))
 have hZ := hXY.setTr (some ⟨gn, 0, none⟩) (x.tl + 1) tc
 have oY : Only (fun g => (Value.slice x.ta x.tl x.tc).ownBlock = some g) ((w.alloc (.cells #[.int .i64 pb, .int .i64 pp] 41)).alloc (.cells #[.int .i64 k, .int .i64 pb, .int .i64 pp, .int .i64 s] 120)).drew Y := Only.ofG hg (fun j e => e)
 have oZ := Only.setCell (· = p) Y p 7 (.slice (some ⟨gn, 0, none⟩) (x.tl + 1) tc) rfl
 have oXZ : Only (fun g => (Value.slice x.ta x.tl x.tc).ownBlock = some g ∨ g = p) ((w.alloc (.cells #[.int .i64 pb, .int .i64 pp] 41)).alloc (.cells #[.int .i64 k, .int .i64 pb, .int .i64 pp, .int .i64 s] 120)).drew (Y.setCell ⟨p, 7, none⟩ (.slice (some ⟨gn, 0, none⟩) (x.tl + 1) tc)) := (oY.mono (fun _ _ h => Or.inl h)).trans oZ (fun _ _ h => Or.inr h)
 have hsz : w.heap.size ≤ (((w.alloc (.cells #[.int .i64 pb, .int .i64 pp] 41)).alloc (.cells #[.int .i64 k, .int .i64 pb, .int .i64 pp, .int .i64 s] 120)).drew).heap.size := by simp; omega
 have hsz2 := oXZ.size
 have hT : KeepT F (fun t => t = 120 ∨ t = 135) ((w.alloc (.cells #[.int .i64 pb, .int .i64 pp] 41)).alloc (.cells #[.int .i64 k, .int .i64 pb, .int .i64 pp, .int .i64 s] 120)).drew (Y.setCell ⟨p, 7, none⟩ (.slice (some ⟨gn, 0, none⟩) (x.tl + 1) tc)) := oXZ.keepT (fun j o t hj ho ht => by
  rcases hj with e | e
  ·obtain ⟨cs, hc⟩ := kt j e
   rw [hc] at ho
   cases ho
   exact Or.inl ht.symm
  ·rw [e, show (((w.alloc (.cells #[.int .i64 pb, .int .i64 pp] 41)).alloc (.cells #[.int .i64 k, .int .i64 pb, .int .i64 pp, .int .i64 s] 120)).drew).heap[p]? = _ from h.box] at ho
   cases ho
   exact Or.inr ht.symm)
 have hownZ : (Y.setCell ⟨p, 7, none⟩ (.slice (some ⟨gn, 0, none⟩) (x.tl + 1) tc)).ownsRow 0 120 4 (.slice (some ⟨gn, 0, none⟩) (x.tl + 1) tc) (x.tl + 1) ((C.tr ++ [(⟨k, pb, pp, s⟩ : Cmd)]).flatMap Cmd.cells) := by
  rw [List.flatMap_append]
  refine owns_keep how (fun g hg => oZ.block g ?_ ?_)
  ·exact (how.lt g hg).2
  ·obtain ⟨cs, hc⟩ := own_tag how hg
   exact tag_ne hc hXY (t := 120) (u := 135) rfl rfl (by decide)
 have hblk : ∀ g, (Value.slice (some ⟨gn, 0, none⟩) (x.tl + 1) tc).ownBlock = some g → Fx F w (Y.setCell ⟨p, 7, none⟩ (.slice (some ⟨gn, 0, none⟩) (x.tl + 1) tc)) g := fun g hg' => by
  have hlt := (how.lt g hg').2
  have e0 : gn = g := Option.some.inj hg'
  subst e0
  rcases hli with e | e
  ·exact Or.inl (h.ft _ e)
  ·exact Or.inr ⟨by omega, by have := oZ.size; omega⟩
 refine ⟨⟨{ x with ta := some ⟨gn, 0, none⟩, tl := x.tl + 1, tc := tc }, rfl, h.frame hT (by decide) (by decide) (by decide) (by decide) (h.old.trans (oXZ.below (fun j e => h.lo j (e.elim (fun e => h.ft j e) (fun e => by rw [e]; exact h.fp))) h.old.size)) (fun k hk => Or.inl hk) (fun k hk => ?_) (fun k hk => ?_) hZ ⟨rfl, rfl, rfl, rfl, rfl, rfl, rfl, rfl⟩ ⟨rfl, rfl, rfl, rfl, rfl⟩ h.dark h.cnt h.q hownZ (by simp [htl]) hblk⟩, ?_⟩
 ·rcases hk with h1 | h1
  ·exact Nat.lt_of_lt_of_le (hfw k h1) (Nat.le_trans hsz hsz2)
  ·exact h1.2
 ·rcases hk with h1 | h1
  ·exact h.lo k h1
  ·exact Nat.le_trans hw0 h1.1
 ·refine (Only.ofB (F := F) (below_trans (below_trans (below_alloc w (.cells #[.int .i64 pb, .int .i64 pp] 41)) (below_alloc _ (.cells #[.int .i64 k, .int .i64 pb, .int .i64 pp, .int .i64 s] 120))) (drew_below _))).trans oXZ (fun j hj e => ?_)
  rcases e with e | e
  ·exact h.ft j e
  ·rw [e]; exact h.fp
set_option maxRecDepth 100000 in
set_option maxHeartbeats 1000000 in
theorem traced_any (w : World) (p : Nat) (F : Nat → Prop) (C : Ch) (w0 : World) (fs : List Fc) (x : Rx) (rs : List Rc) (h : RAt w0 w p F C fs x rs) (htr : C.tr.length ≤ 4000000000000) (k pb pp s : Int) :
  Calls Try.prog 98 #[.pointer (some ⟨p, 0, none⟩), .int .i64 k, .agg #[.int .i64 pb, .int .i64 pp], .int .i64 s] w fun e w' => e = .returned (.int .i64 s) ∧ RefG w0 w' p (Fx F w w') { C with tr := C.tr ++ [⟨k, pb, pp, s⟩] } fs x.gr rs ∧ Only F w w' := by
 obtain ⟨i0, hi, hz0, hz1, hz2⟩ := info_parts info120
 have hp := h.box.lt
 have HC : Hid (RAt w0 (w.alloc (.cells #[.int .i64 pb, .int .i64 pp] 41)).drew p F C fs x rs) := h.below (below_trans (below_alloc _ _) (drew_below _))
 have HC1 : Hid (RAt w0 ((w.alloc (.cells #[.int .i64 pb, .int .i64 pp] 41)).alloc (.cells #[.int .i64 k, .int .i64 pb, .int .i64 pp, .int .i64 s] 120)).drew p F C fs x rs) := (h.below (below_alloc _ _)).below (below_trans (below_alloc _ _) (drew_below _))
 have c13 := HC.out.box.c7
 have HTL : Hid (x.tl = C.tr.length) := h.tl
 have HFW : Hid (∀ k, F k → k < w.heap.size) := h.fin
 have HW0 : Hid (w0.heap.size ≤ w.heap.size) := h.old.size
 have HS12 : Hid ((((w.alloc (.cells #[.int .i64 pb, .int .i64 pp] 41)).alloc (.cells #[.int .i64 k, .int .i64 pb, .int .i64 pp, .int .i64 s] 120)).drew).cell? ⟨w.heap.size, 0, none⟩ = some (.int .i64 pb) ∧ (((w.alloc (.cells #[.int .i64 pb, .int .i64 pp] 41)).alloc (.cells #[.int .i64 k, .int .i64 pb, .int .i64 pp, .int .i64 s] 120)).drew).cell? ⟨w.heap.size, 1, none⟩ = some (.int .i64 pp)) := ⟨by simp, by simp⟩
 have d13 := HC1.out.box.c7
 have HNW : Hid (∀ j u, ([.int .i64 k, .int .i64 pb, .int .i64 pp, .int .i64 s] : List Value)[j]? = some u → (((w.alloc (.cells #[.int .i64 pb, .int .i64 pp] 41)).alloc (.cells #[.int .i64 k, .int .i64 pb, .int .i64 pp, .int .i64 s] 120)).drew).cell? ((⟨w.heap.size + 1, 0, none⟩ : Addr).add j) = some u) := by
  intro j u hj
  rw [plain_add, Nat.zero_add]
  match j, hj with
  | 0, hj => simp at hj; subst hj; simp
  | 1, hj => simp at hj; subst hj; simp
  | 2, hj => simp at hj; subst hj; simp
  | 3, hj => simp at hj; subst hj; simp
 have hx0 : x.at w p := h.box
 clear h hx0
 go_enter Try.func98, Try.ntmps98
 go_wp2
 refine wp_region_held_drew (S := (fun u => u.cell? ⟨w.heap.size, 0, none⟩ = some (.int .i64 pb) ∧ u.cell? ⟨w.heap.size, 1, none⟩ = some (.int .i64 pp))) (by kernel_rfl) (⟨by simp, by simp⟩) (fun hHeld => ?_)
 refine tk 0 ?_
 refine tk 1 ?_
 refine tk 2 ?_
 refine tk 3 ?_
 refine tk 5 ?_
 refine tk 6 ?_
 refine tk 7 ?_
 refine tk 8 ?_
 refine tk 9 ?_
 refine tk 10 ?_
 refine tk 11 ?_
 refine wpAnyH_ready (rs := [4, 12]) (by kernel_rfl) (by simp) ?_
 refine AllReadyH.cons (o := { dst := some 13, op := Op.load 45 (Operand.tmp 12), type := 45, pos := "ref.go:191", after := #[{ on := 3, ground := Ground.data }], guard := none }) rfl (fun K hK => ?_) (AllReadyH.cons (o := { dst := some 21, op := Op.buildSlice 45 1 #[(0, Operand.tmp 20)], type := 45, pos := "ref.go:191", after := #[{ on := 11, ground := Ground.data }], guard := none }) rfl (fun K hK => ?_) AllReadyH.nil)
 ·go_simp
  go_wp2_with fail
  have hSnew := hHeld
  refine hK.out _ _ hSnew (fun hHeld4 => ?_)
  clear hK K hSnew hHeld
  have hHeld := hHeld4
  clear hHeld4
  try simp only [Act.put, zSt, zS0, zS1]
  refine rd 12 (fun K hK => ?_)
  go_simp
  go_wp2_with fail
  have hSnew := HS12.out
  refine hK.out _ _ hSnew (fun hHeld12 => ?_)
  clear hK K hSnew hHeld
  have hHeld := hHeld12
  clear hHeld12
  try simp only [Act.put, zSt, zS0, zS1]
  refine rd 13 (fun K hK => ?_)
  refine wp_append_lies _ (.tmp 13) (.tmp 21) 45 rfl 0 120 i0 (.agg #[.int .i64 0, .int .i64 0, .int .i64 0, .int .i64 0]) 4 32 Try.underlying45 hi hz0 hz1 hz2 rfl (by decide) _ x.tl (C.tr.flatMap Cmd.cells) rfl HC1.out.tr ⟨w.heap.size + 1, 0, none⟩ 1 1 [.int .i64 k, .int .i64 pb, .int .i64 pp, .int .i64 s] rfl rfl HNW.out (by intro u hu; simp at hu; rcases hu with rfl | rfl | rfl | rfl <;> rfl) (by decide) (by rw [HTL.out]; simp [maxLen]; omega) (by rw [HTL.out]; omega) (Nat.zero_le _) (w.heap.size + 2) (by simp) ?_
  intro gn tc Y own grow lies _
  have k0 : ∀ g, (Value.slice x.ta x.tl x.tc).ownBlock = some g → g ≠ p := fun g hg => (by obtain ⟨cs, hc⟩ := own_tag HC1.out.tr hg; exact tag_ne hc HC1.out.box (t := 120) (u := 135) rfl rfl (by decide))
  have kb : ∀ g, (Value.slice x.ta x.tl x.tc).ownBlock = some g → g < w.heap.size := fun g hg => HFW.out g (HC1.out.ft g hg)
  have hXY : x.at Y p := HC1.out.box.keep (grow.block p HC1.out.box.lt (fun e => k0 p e.symm rfl))
  have y0 : Y.cell? ⟨w.heap.size, 0, none⟩ = some (.int .i64 pb) ∧ Y.cell? ⟨w.heap.size, 1, none⟩ = some (.int .i64 pp) := ⟨(grow.cell HS12.out.1 (fun e => Nat.lt_irrefl _ (kb _ e.symm))), (grow.cell HS12.out.2 (fun e => Nat.lt_irrefl _ (kb _ e.symm)))⟩
  have hSnew := y0
  have HXY := hide hXY
  have HOW := hide own
  have HG := hide grow
  have HLI := hide lies
  have fz13 := hXY.fz 7
  have e13 := hXY.c7
  clear own grow hXY y0 k0 kb lies
  refine hK.out _ _ hSnew (fun hHeld13 => ?_)
  clear hK K hSnew hHeld
  have hHeld := hHeld13
  clear hHeld13
  try simp only [Act.put, zSt, zS0, zS1]
  refine tk 14 ?_
  refine tk 15 ?_
  refine rd 16 (fun K hK => ?_)
  go_simp
  go_wp2_with fail
  have n0 : w.heap.size ≠ p := by omega
  have hSnew : (Y.setCell ⟨p, 7, none⟩ (.slice (some ⟨gn, 0, none⟩) (x.tl + 1) tc)).cell? ⟨w.heap.size, 0, none⟩ = some (.int .i64 pb) ∧ (Y.setCell ⟨p, 7, none⟩ (.slice (some ⟨gn, 0, none⟩) (x.tl + 1) tc)).cell? ⟨w.heap.size, 1, none⟩ = some (.int .i64 pp) := ⟨(Only.setCell (· = p) Y p 7 _ rfl).cell hHeld.1 n0, (Only.setCell (· = p) Y p 7 _ rfl).cell hHeld.2 n0⟩
  refine hK.out _ _ hSnew (fun hHeld16 => ?_)
  clear hK K hSnew hHeld hHeld16
  try simp only [Act.put, zSt, zS0, zS1]
  refine wpAnyH_done (by kernel_rfl) ?_ _
  clear c13 d13
  go_wp2
  go_ret
  exact ⟨rfl, rnote_end htr HC1.out HFW.out HW0.out HTL.out HOW.out HG.out HLI.out⟩
 ·go_simp
  go_wp2_with fail
  have hSnew := HS12.out
  refine hK.out _ _ hSnew (fun hHeld12 => ?_)
  clear hK K hSnew hHeld
  have hHeld := hHeld12
  clear hHeld12
  try simp only [Act.put, zSt, zS0, zS1]
  refine rd 4 (fun K hK => ?_)
  go_simp
  go_wp2_with fail
  have hSnew := hHeld
  refine hK.out _ _ hSnew (fun hHeld4 => ?_)
  clear hK K hSnew hHeld
  have hHeld := hHeld4
  clear hHeld4
  try simp only [Act.put, zSt, zS0, zS1]
  refine rd 13 (fun K hK => ?_)
  refine wp_append_lies _ (.tmp 13) (.tmp 21) 45 rfl 0 120 i0 (.agg #[.int .i64 0, .int .i64 0, .int .i64 0, .int .i64 0]) 4 32 Try.underlying45 hi hz0 hz1 hz2 rfl (by decide) _ x.tl (C.tr.flatMap Cmd.cells) rfl HC1.out.tr ⟨w.heap.size + 1, 0, none⟩ 1 1 [.int .i64 k, .int .i64 pb, .int .i64 pp, .int .i64 s] rfl rfl HNW.out (by intro u hu; simp at hu; rcases hu with rfl | rfl | rfl | rfl <;> rfl) (by decide) (by rw [HTL.out]; simp [maxLen]; omega) (by rw [HTL.out]; omega) (Nat.zero_le _) (w.heap.size + 2) (by simp) ?_
  intro gn tc Y own grow lies _
  have k0 : ∀ g, (Value.slice x.ta x.tl x.tc).ownBlock = some g → g ≠ p := fun g hg => (by obtain ⟨cs, hc⟩ := own_tag HC1.out.tr hg; exact tag_ne hc HC1.out.box (t := 120) (u := 135) rfl rfl (by decide))
  have kb : ∀ g, (Value.slice x.ta x.tl x.tc).ownBlock = some g → g < w.heap.size := fun g hg => HFW.out g (HC1.out.ft g hg)
  have hXY : x.at Y p := HC1.out.box.keep (grow.block p HC1.out.box.lt (fun e => k0 p e.symm rfl))
  have y0 : Y.cell? ⟨w.heap.size, 0, none⟩ = some (.int .i64 pb) ∧ Y.cell? ⟨w.heap.size, 1, none⟩ = some (.int .i64 pp) := ⟨(grow.cell HS12.out.1 (fun e => Nat.lt_irrefl _ (kb _ e.symm))), (grow.cell HS12.out.2 (fun e => Nat.lt_irrefl _ (kb _ e.symm)))⟩
  have hSnew := y0
  have HXY := hide hXY
  have HOW := hide own
  have HG := hide grow
  have HLI := hide lies
  have fz13 := hXY.fz 7
  have e13 := hXY.c7
  clear own grow hXY y0 k0 kb lies
  refine hK.out _ _ hSnew (fun hHeld13 => ?_)
  clear hK K hSnew hHeld
  have hHeld := hHeld13
  clear hHeld13
  try simp only [Act.put, zSt, zS0, zS1]
  refine tk 14 ?_
  refine tk 15 ?_
  refine rd 16 (fun K hK => ?_)
  go_simp
  go_wp2_with fail
  have n0 : w.heap.size ≠ p := by omega
  have hSnew : (Y.setCell ⟨p, 7, none⟩ (.slice (some ⟨gn, 0, none⟩) (x.tl + 1) tc)).cell? ⟨w.heap.size, 0, none⟩ = some (.int .i64 pb) ∧ (Y.setCell ⟨p, 7, none⟩ (.slice (some ⟨gn, 0, none⟩) (x.tl + 1) tc)).cell? ⟨w.heap.size, 1, none⟩ = some (.int .i64 pp) := ⟨(Only.setCell (· = p) Y p 7 _ rfl).cell hHeld.1 n0, (Only.setCell (· = p) Y p 7 _ rfl).cell hHeld.2 n0⟩
  refine hK.out _ _ hSnew (fun hHeld16 => ?_)
  clear hK K hSnew hHeld hHeld16
  try simp only [Act.put, zSt, zS0, zS1]
  refine wpAnyH_done (by kernel_rfl) ?_ _
  clear c13 d13
  go_wp2
  go_ret
  exact ⟨rfl, rnote_end htr HC1.out HFW.out HW0.out HTL.out HOW.out HG.out HLI.out⟩
end Go.Proofs.Ytadlkikjfonkgaa
namespace Go.Proofs.Ytadlkikjfonkgaa
open Go.RowKit Go.Conc
set_option linter.unusedVariables false
def fmb : Int → List Fc → Bool
 | _, [] => true
 | l, c :: r => if decide (c.a ≤ l) || (c.k != 1 && c.k != 2) then false else fmb c.a r
def faultsB (fs : List Fc) : Bool := decide (fs.length ≤ 4096) && fmb (-1) fs
set_option maxRecDepth 100000 in
theorem faults_any (w : World) (sa : Option Addr) (n c : Nat) (fs : List Fc) (hR : ReadsF w sa n fs) (hn : n ≤ 9223372036854775807) :
  Calls Try.prog 47 #[.slice sa n c] w fun e w' => e = .returned (.bool (faultsB fs)) ∧ Below w.heap.size w w' := by
 have hl := hR.1
 by_cases hbig : (n : Int) > 4096
 ·have hd : decide ((n : Int) > 4096) = true := decide_eq_true hbig
  have e1 : faultsB fs = false := by unfold faultsB; rw [decide_eq_false (by omega)]; rfl
  rw [e1]
  clear hR
  go_enter Try.func47, Try.ntmps47
  go_wp2
  go_ret
  exact ⟨rfl, Below.refl _ _⟩
 ·have hd : decide ((n : Int) > 4096) = false := decide_eq_false hbig
  have e1 : faultsB fs = fmb (-1) fs := by unfold faultsB; rw [decide_eq_true (by omega)]; rfl
  rw [e1]
  clear e1
  have HR := hide hR
  have HL := hide hl
  clear hR hl
  go_enter Try.func47, Try.ntmps47
  go_wp2
  go_loopw [3, 11] (fun s3 s11 wr => ∃ (m : Nat) (last : Int), m ≤ n ∧ s3 = .int .i64 last ∧ s11 = .int .i64 m ∧ Hid (Below w.heap.size w wr) ∧ Hid (fmb (-1) fs = fmb last (fs.drop m)))
   (fun s3 s11 _ => n - (intOf s11).toNat)
  case atStart => exact ⟨0, -1, Nat.zero_le _, rfl, rfl, Below.refl _ _, rfl⟩
  case round =>
   obtain ⟨m, last, hm, rfl, rfl, HB, HQ⟩ := hrel
   by_cases hlt : m < n
   ·obtain ⟨b, off, rfl, hb, hcells⟩ := HR.out.pos (by omega)
    obtain ⟨k0, k1, k2, k3⟩ := hcells m hlt
    obtain ⟨g, hg⟩ : ∃ g, fs.getD m Fc.zero = g := ⟨_, rfl⟩
    rw [hg] at k0 k1 k2 k3
    have d0 := (HB.out.cell (block_lt_of_cell k0)).trans k0
    have d1 := (HB.out.cell (block_lt_of_cell k1)).trans k1
    have d2 := (HB.out.cell (block_lt_of_cell k2)).trans k2
    have d3 := (HB.out.cell (block_lt_of_cell k3)).trans k3
    have HD : Hid (fmb last (fs.drop m) = if decide (g.a ≤ last) || (g.k != 1 && g.k != 2) then false else fmb g.a (fs.drop (m + 1))) := by
     have hml : m < fs.length := by rw [HL.out]; exact hlt
     unfold Hid
     rw [List.drop_eq_getElem_cons hml]
     rw [List.getD_eq_getElem?_getD, List.getElem?_eq_getElem hml] at hg
     rw [show fs[m] = g from hg]
     rfl
    have m1 : (m : Int) < (n : Int) := by omega
    have dm : decide ((m : Int) < (n : Int)) = true := decide_eq_true m1
    have HNB : Hid (Below w.heap.size w (wr.alloc (.cells #[.int .i64 g.a, .int .i64 g.k, .slice g.ma g.ml g.mc, .int .u8 g.f] 58))) := below_trans HB.out (below_alloc _ _)
    clear k0 k1 k2 k3 hg hcells
    cases h1 : decide (g.a ≤ last) with
    | true =>
     go_wp2
     go_ret
     exact ⟨by rw [HQ.out, HD.out, h1]; rfl, HNB.out⟩
    | false =>
     cases h2 : (g.k != 1) with
     | false =>
      go_wp2
      exact ⟨⟨m + 1, g.a, by omega, rfl, by simp, HNB.out, by rw [HQ.out, HD.out, h1, h2]; rfl⟩, by simp [intOf]; omega⟩
     | true =>
      cases h3 : (g.k != 2) with
      | false =>
       go_wp2
       exact ⟨⟨m + 1, g.a, by omega, rfl, by simp, HNB.out, by rw [HQ.out, HD.out, h1, h2, h3]; rfl⟩, by simp [intOf]; omega⟩
      | true =>
       go_wp2
       go_ret
       exact ⟨by rw [HQ.out, HD.out, h1, h2, h3]; rfl, HNB.out⟩
   ·have dm : decide ((m : Int) < (n : Int)) = false := decide_eq_false (by omega)
    go_wp2
    go_ret
    refine ⟨?_, HB.out⟩
    have hml : fs.length ≤ m := by rw [HL.out]; omega
    rw [HQ.out, List.drop_eq_nil_of_le hml]
    rfl
end Go.Proofs.Ytadlkikjfonkgaa
