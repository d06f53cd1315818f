/-
  SEAT Ytadlkikjfonkgaa: Xa, Xb, Xc.
-/
import Derived.Test.YtadlkikjfonkgaaQo
import Derived.Test.YtadlkikjfonkgaaQa
import Derived.Test.YtadlkikjfonkgaaQc
import Derived.Test.YtadlkikjfonkgaaQl
import Derived.Test.YtadlkikjfonkgaaQe
namespace Go.Proofs.Ytadlkikjfonkgaa
open Go.RowKit Go.Conc
set_option linter.unusedVariables false
set_option maxRecDepth 100000
set_option maxHeartbeats 4000000
variable {T F : Nat → Prop} {w w0 : World} {g : Nat} {C : Ch}
structure Lc where
 a : Option Addr
 n : Nat
 c : Nat
 fa : Option Addr
 fn : Nat
 fc : Nat
 bits : List Int
 xs : List Nat
 h : Bool
structure Rc where
 g : Nat
 cap : Nat
 m : Bool
 r : Bool
 nx : Int
 ls : List Lc
def Lc.fs (l : Lc) : Value := .slice l.fa l.fn l.fc
def Lc.cells (l : Lc) : List Value := [.slice l.a l.n l.c, .slice l.fa l.fn l.fc, .bool l.h]
def Rc.cells (r : Rc) : List Value := [.slice (some ⟨r.g, 0, none⟩) r.ls.length r.cap, .bool r.m, .bool r.r, .int .i64 r.nx]
theorem Lc.cells_len (l : Lc) : l.cells.length = 3 := rfl
theorem Rc.cells_len (r : Rc) : r.cells.length = 4 := rfl
def Lc.v (l : Lc) : Pg := ⟨l.bits, l.h⟩
def Rc.v (r : Rc) : Bl := ⟨r.m, r.r, r.nx, r.ls.map Lc.v⟩
structure LcOk (w : World) (F : Nat → Prop) (L : Nat) (l : Lc) : Prop where
 len : l.bits.length = L
 byt : ∀ x ∈ l.bits, 0 ≤ x ∧ x ≤ 255
 sl : ∃ g, l.a = some ⟨g, 0, none⟩ ∧ F g ∧ l.n = L ∧ L ≤ l.c ∧ Reads w l.a L l.bits ∧ Is5 w g
 row : w.ownsRow 0 3 1 l.fs l.fn (l.xs.map fun (i : Nat) => Value.int .i64 (i : Int))
 fg : ∀ g, l.fs.ownBlock = some g → F g
structure RcOk (w : World) (F : Nat → Prop) (L P : Nat) (r : Rc) : Prop where
 row : w.ownsRow 0 144 3 (.slice (some ⟨r.g, 0, none⟩) r.ls.length r.cap) r.ls.length (r.ls.flatMap Lc.cells)
 fg : F r.g
 np : r.ls.length = P
 lf : ∀ l ∈ r.ls, LcOk w F L l
section
variable {w w' : World} {F G : Nat → Prop} {L P : Nat} {l : Lc} {r : Rc}
theorem LcOk.keep (h : LcOk w F L l) (hk : KeepT F T w w') (h5 : ¬ T 5) (h3 : ¬ T 3) (hF : ∀ k, F k → G k) : LcOk w' G L l := by
 obtain ⟨g, h1, h2, h3', h4, h5', h6⟩ := h.sl
 obtain ⟨k1, k2⟩ := h6.keep h2 hk h5
 refine ⟨h.len, h.byt, ⟨g, h1, hF g h2, h3', h4, reads_keep h5' (fun x hx _ => ?_), k1⟩, ?_, fun g hg => hF g (h.fg g hg)⟩
 ·rw [h1] at hx
  cases hx
  exact k2
 ·exact owns_keep h.row (fun g hg => by obtain ⟨cs, hc⟩ := own_tag h.row hg; exact (hk g _ 3 (h.fg g hg) hc rfl h3).trans hc.symm)
theorem RcOk.keep (h : RcOk w F L P r) (hk : KeepT F T w w') (h5 : ¬ T 5) (h3 : ¬ T 3) (hF : ∀ k, F k → G k) (hr : w'.heap[r.g]? = w.heap[r.g]?) : RcOk w' G L P r :=
 ⟨owns_keep h.row (fun g hg => by cases hg; exact hr), hF _ h.fg, h.np, fun p hp => (h.lf p hp).keep hk h5 h3 hF⟩
end
structure Rx where
 B : Nat
 P : Nat
 S : Nat
 gr : Nat
 nr : Nat
 cr : Nat
 fa : Option Addr
 fn : Nat
 fc : Nat
 dark : Bool
 cnt : Nat
 ta : Option Addr
 tl : Nat
 tc : Nat
def Rx.arr (x : Rx) : Array Value := #[.int .i64 (x.B : Int), .int .i64 (x.P : Int), .int .i64 (x.S : Int), .slice (some ⟨x.gr, 0, none⟩) x.nr x.cr, .slice x.fa x.fn x.fc, .bool x.dark, .int .i64 (x.cnt : Int), .slice x.ta x.tl x.tc]
def Rx.at (x : Rx) (w : World) (p : Nat) : Prop := w.heap[p]? = some (.cells x.arr 135 (0, 0))
section
variable {x : Rx} {w : World} {p : Nat}
theorem Rx.at.c0 (h : x.at w p) : w.cell? ⟨p, 0, none⟩ = some (.int .i64 (x.B : Int)) := by unfold Rx.at at h; simp only [World.cell?, h]; rfl
theorem Rx.at.c1 (h : x.at w p) : w.cell? ⟨p, 1, none⟩ = some (.int .i64 (x.P : Int)) := by unfold Rx.at at h; simp only [World.cell?, h]; rfl
theorem Rx.at.c2 (h : x.at w p) : w.cell? ⟨p, 2, none⟩ = some (.int .i64 (x.S : Int)) := by unfold Rx.at at h; simp only [World.cell?, h]; rfl
theorem Rx.at.c3 (h : x.at w p) : w.cell? ⟨p, 3, none⟩ = some (.slice (some ⟨x.gr, 0, none⟩) x.nr x.cr) := by unfold Rx.at at h; simp only [World.cell?, h]; rfl
theorem Rx.at.c4 (h : x.at w p) : w.cell? ⟨p, 4, none⟩ = some (.slice x.fa x.fn x.fc) := by unfold Rx.at at h; simp only [World.cell?, h]; rfl
theorem Rx.at.c5 (h : x.at w p) : w.cell? ⟨p, 5, none⟩ = some (.bool x.dark) := by unfold Rx.at at h; simp only [World.cell?, h]; rfl
theorem Rx.at.c6 (h : x.at w p) : w.cell? ⟨p, 6, none⟩ = some (.int .i64 (x.cnt : Int)) := by unfold Rx.at at h; simp only [World.cell?, h]; rfl
theorem Rx.at.c7 (h : x.at w p) : w.cell? ⟨p, 7, none⟩ = some (.slice x.ta x.tl x.tc) := by unfold Rx.at at h; simp only [World.cell?, h]; rfl
theorem Rx.at.fz (h : x.at w p) (j : Nat) : w.frozen? ⟨p, j, none⟩ = false := by unfold Rx.at at h; simp [World.frozen?, h]
theorem Rx.at.keep {w' : World} (h : x.at w p) (hb : w'.heap[p]? = w.heap[p]?) : x.at w' p := hb.trans h
theorem Rx.at.setDark (h : x.at w p) (d : Bool) : Rx.at { x with dark := d } (w.setCell ⟨p, 5, none⟩ (.bool d)) p := by
 unfold Rx.at at h ⊢
 rw [heap_setCell_same w p 5 _ 135 _ h]
 rfl
theorem Rx.at.setCnt (h : x.at w p) (n : Nat) : Rx.at { x with cnt := n } (w.setCell ⟨p, 6, none⟩ (.int .i64 (n : Int))) p := by
 unfold Rx.at at h ⊢
 rw [heap_setCell_same w p 6 _ 135 _ h]
 rfl
theorem Rx.at.setTr (h : x.at w p) (a : Option Addr) (l c : Nat) : Rx.at { x with ta := a, tl := l, tc := c } (w.setCell ⟨p, 7, none⟩ (.slice a l c)) p := by
 unfold Rx.at at h ⊢
 rw [heap_setCell_same w p 7 _ 135 _ h]
 rfl
end
def QRel (q : List Ft) (cnt : Nat) (fs : List Fc) : Prop := q = (fs.map Fc.t).filter (fun f => decide ((cnt : Int) ≤ f.a))
structure RAt (w0 w : World) (p : Nat) (F : Nat → Prop) (C : Ch) (fs : List Fc) (x : Rx) (rs : List Rc) : Prop where
 old : Below w0.heap.size w0 w
 lo : ∀ k, F k → w0.heap.size ≤ k
 flt : ReadsF w0 x.fa x.fn fs
 box : x.at w p
 fp : F p
 B : x.B = C.B
 P : x.P = C.P
 S : x.S = C.S
 nr : x.nr = rs.length
 dark : x.dark = C.dark
 cnt : x.cnt = C.cnt
 row : w.ownsRow 0 142 4 (.slice (some ⟨x.gr, 0, none⟩) x.nr x.cr) x.nr (rs.flatMap Rc.cells)
 fb : F x.gr
 bl : rs.map Rc.v = C.bl
 rok : ∀ r ∈ rs, RcOk w F (pgB C.S) C.P r
 gs : rs.Pairwise (fun b c => b.g ≠ c.g)
 far : (rs.flatMap Rc.ls).Pairwise (fun f g => ∀ k, f.fs.ownBlock = some k → g.fs.ownBlock ≠ some k)
 fl : ∀ (i k : Nat) r l, rs[i]? = some r → r.ls[k]? = some l → l.xs = C.fl i k
 q : QRel C.q C.cnt fs
 tr : w.ownsRow 0 120 4 (.slice x.ta x.tl x.tc) x.tl (C.tr.flatMap Cmd.cells)
 tl : x.tl = C.tr.length
 ft : ∀ g, (Value.slice x.ta x.tl x.tc).ownBlock = some g → F g
 fin : ∀ k, F k → k < w.heap.size
def RefAt (w0 w : World) (p : Nat) (F : Nat → Prop) (C : Ch) (fs : List Fc) : Prop := ∃ x rs, RAt w0 w p F C fs x rs
section
variable {w0 w w' : World} {p : Nat} {F G : Nat → Prop} {C C' : Ch} {fs : List Fc} {x x' : Rx} {rs : List Rc}
theorem RAt.frame (h : RAt w0 w p F C fs x rs) (hT : KeepT F T w w') (h142 : ¬ T 142) (h144 : ¬ T 144) (h5 : ¬ T 5) (h3 : ¬ T 3) (hold : Below w0.heap.size w0 w') (hF : ∀ k, F k → G k) (hG : ∀ k, G k → k < w'.heap.size) (hlo : ∀ k, G k → w0.heap.size ≤ k) (hx : x'.at w' p)
  (e : x'.B = x.B ∧ x'.P = x.P ∧ x'.S = x.S ∧ x'.gr = x.gr ∧ x'.nr = x.nr ∧ x'.cr = x.cr ∧ x'.fa = x.fa ∧ x'.fn = x.fn)
  (hC : C'.B = C.B ∧ C'.P = C.P ∧ C'.S = C.S ∧ C'.bl = C.bl ∧ C'.fl = C.fl) (hd : x'.dark = C'.dark) (hc : x'.cnt = C'.cnt) (hq : QRel C'.q C'.cnt fs)
  (htr : w'.ownsRow 0 120 4 (.slice x'.ta x'.tl x'.tc) x'.tl (C'.tr.flatMap Cmd.cells)) (htl : x'.tl = C'.tr.length) (hft : ∀ g, (Value.slice x'.ta x'.tl x'.tc).ownBlock = some g → G g) : RAt w0 w' p G C' fs x' rs := by
 obtain ⟨e1, e2, e3, e4, e5, e6, e7, e8⟩ := e
 obtain ⟨c1, c2, c3, c4, c5⟩ := hC
 refine ⟨hold, hlo, by rw [e7, e8]; exact h.flt, hx, hF _ h.fp, by rw [e1, c1]; exact h.B, by rw [e2, c2]; exact h.P, by rw [e3, c3]; exact h.S, by rw [e5]; exact h.nr, hd, hc, ?_, by rw [e4]; exact hF _ h.fb, by rw [c4]; exact h.bl, ?_, h.gs, h.far, fun i k r l h1 h2 => by rw [c5]; exact h.fl i k r l h1 h2, hq, htr, htl, hft, hG⟩
 ·rw [e4, e5, e6]
  exact owns_keep h.row (fun g hg => by cases hg; obtain ⟨cs, hcs⟩ := own_tag h.row rfl; exact (hT _ _ 142 h.fb hcs rfl h142).trans hcs.symm)
 ·intro r hr
  rw [c3, c2]
  have hr9 := h.rok r hr
  obtain ⟨cs, hcs⟩ := own_tag hr9.row rfl
  exact hr9.keep hT h5 h3 hF ((hT _ _ 144 hr9.fg hcs rfl h144).trans hcs.symm)
theorem RAt.keep (h : RAt w0 w p F C fs x rs) (hk : ∀ k, F k → w'.heap[k]? = w.heap[k]?) (hold : Below w0.heap.size w0 w') (hF : ∀ k, F k → G k) (hG : ∀ k, G k → k < w'.heap.size) (hlo : ∀ k, G k → w0.heap.size ≤ k) : RAt w0 w' p G C fs x rs :=
 h.frame (T := fun _ => False) (fun k o t hf ho ht _ => (hk k hf).trans ho) (fun h => h) (fun h => h) (fun h => h) (fun h => h) hold hF hG hlo (h.box.keep (hk _ h.fp)) ⟨rfl, rfl, rfl, rfl, rfl, rfl, rfl, rfl⟩ ⟨rfl, rfl, rfl, rfl, rfl⟩ h.dark h.cnt h.q
  (owns_keep h.tr (fun g hg => hk g (h.ft g hg))) h.tl (fun g hg => hF g (h.ft g hg))
theorem RAt.below (h : RAt w0 w p F C fs x rs) (hb : Below w.heap.size w w') : RAt w0 w' p F C fs x rs :=
 h.keep (fun k hk => hb.block k (h.fin k hk)) (h.old.trans (hb.mono h.old.size)) (fun _ h => h) (fun k hk => Nat.lt_of_lt_of_le (h.fin k hk) hb.size) h.lo
theorem RefAt.below (h : RefAt w0 w p F C fs) (hb : Below w.heap.size w w') : RefAt w0 w' p F C fs := by
 obtain ⟨x, rs, h1⟩ := h
 exact ⟨x, rs, h1.below hb⟩
theorem RefAt.fin (h : RefAt w0 w p F C fs) : ∀ k, F k → k < w.heap.size := by
 obtain ⟨x, rs, h1⟩ := h
 exact h1.fin
theorem RefAt.only {H : Nat → Prop} (h : RefAt w0 w p F C fs) (hb : Only H w w') (hd : ∀ k, F k → ¬ H k) (hl : ∀ k, H k → w0.heap.size ≤ k) : RefAt w0 w' p F C fs := by
 obtain ⟨x, rs, h1⟩ := h
 exact ⟨x, rs, h1.keep (fun k hk => hb.block k (h1.fin k hk) (hd k hk)) (h1.old.trans (hb.below hl h1.old.size)) (fun _ h => h) (fun k hk => Nat.lt_of_lt_of_le (h1.fin k hk) hb.size) h1.lo⟩
theorem RefAt.fx (h : RefAt w0 w p F C fs) (hb : Below w.heap.size w w') : RefAt w0 w' p (Fx F w w') C fs := by
 obtain ⟨x, rs, h1⟩ := h
 exact ⟨x, rs, h1.keep (fun k hk => hb.block k (h1.fin k hk)) (h1.old.trans (hb.mono h1.old.size)) (fun _ h => Or.inl h) (fun k hk => hk.elim (fun h2 => Nat.lt_of_lt_of_le (h1.fin k h2) hb.size) (fun h2 => h2.2)) (fun k hk => hk.elim (h1.lo k) (fun h2 => Nat.le_trans h1.old.size h2.1))⟩
end
theorem Rx.at.lt {x : Rx} {p : Nat} (h : x.at w p) : p < w.heap.size := lt_of_block h
theorem rblock_any {x : Rx} {p : Nat} (h : x.at w p) (b : Int) (B : Nat) (hB : x.B = B) :
  Calls Try.prog 97 #[.pointer (some ⟨p, 0, none⟩), .int .i64 b] w fun e w' => e = .returned (.bool (hasB B b)) ∧ w' = w := by
 have c0 := h.c0
 rw [hB] at c0
 clear h hB
 by_cases h0 : 0 ≤ b
 ·have d0 : decide (b ≥ 0) = true := decide_eq_true h0
  by_cases h1 : b < (B : Int)
  ·have d1 : decide (b < (B : Int)) = true := decide_eq_true h1
   rw [show hasB B b = true from decide_eq_true ⟨h0, h1⟩]
   clear h0 h1
   go_enter Try.func97, Try.ntmps97
   go_wp2
   go_ret
   exact ⟨rfl, rfl⟩
  ·have d1 : decide (b < (B : Int)) = false := decide_eq_false h1
   rw [show hasB B b = false from decide_eq_false (by omega)]
   clear h0 h1
   go_enter Try.func97, Try.ntmps97
   go_wp2
   go_ret
   exact ⟨rfl, rfl⟩
 ·have d0 : decide (b ≥ 0) = false := decide_eq_false h0
  rw [show hasB B b = false from decide_eq_false (by omega)]
  clear h0
  go_enter Try.func97, Try.ntmps97
  go_wp2
  go_ret
  exact ⟨rfl, rfl⟩
theorem place_a (x : Rx) (p B P : Nat) (pb pp : Int) (w : World) (h : x.at w p) (hB : x.B = B) (hP : x.P = P) (hv : hasB B pb = false) :
  Calls Try.prog 101 #[.pointer (some ⟨p, 0, none⟩), .agg #[.int .i64 pb, .int .i64 pp]] w fun e w' => e = .returned (.bool false) ∧ Below w.heap.size w w' := by
 have hp := h.lt
 have HX : Hid (x.at (w.alloc (.cells #[.int .i64 pb, .int .i64 pp] 41)).drew p) := h.keep (alloc_old _ _ hp)
 have c1 := HX.out.c1
 rw [hP] at c1
 clear h hP
 go_enter Try.func101, Try.ntmps101
 go_wp2
 refine wp_region_held_drew (S := (fun u => u.cell? ⟨w.heap.size, 0, none⟩ = some (.int .i64 pb) ∧ u.cell? ⟨w.heap.size, 1, none⟩ = some (.int .i64 pp) ∧ u.cell? ⟨p, 1, none⟩ = some (.int .i64 (P : Int)))) (by kernel_rfl) (⟨by simp, by simp, c1⟩) fun O => ?_
 refine tk 0 ?_
 refine tk 1 ?_
 refine tk 2 ?_
 refine rd 3 fun K N => ?_
 go_simp
 go_at_call 97
 refine (rblock_any (HX.out) pb B hB).mono ?_
 rintro e u1 ⟨rfl, h1⟩
 rw [h1, hv]
 clear h1
 have hZ := O
 go_wp2_with fail
 clear O
 refine N.out _ _ hZ fun O => ?_
 clear N K hZ
 try simp only [zz]
 refine tk 4 ?_
 refine tu 5 ?_
 refine tu 6 ?_
 refine tu 7 ?_
 refine tk 8 ?_
 refine tk 9 ?_
 refine tu 10 ?_
 refine tu 11 ?_
 refine tu 12 ?_
 refine tu 13 ?_
 refine tu 14 ?_
 refine tu 15 ?_
 refine tu 16 ?_
 refine tu 17 ?_
 refine tk 18 ?_
 refine tk 19 ?_
 refine td ?_
 go_wp2
 go_ret
 exact ⟨rfl, below_trans (below_alloc w _) ⟨rfl, rfl, rfl, Nat.le_refl _, fun _ _ => rfl⟩⟩
theorem place_b (x : Rx) (p B P : Nat) (pb pp : Int) (w : World) (h : x.at w p) (hB : x.B = B) (hP : x.P = P) (hv : hasB B pb = true) (h0 : decide (pp ≥ 0) = false) :
  Calls Try.prog 101 #[.pointer (some ⟨p, 0, none⟩), .agg #[.int .i64 pb, .int .i64 pp]] w fun e w' => e = .returned (.bool false) ∧ Below w.heap.size w w' := by
 have hp := h.lt
 have HX : Hid (x.at (w.alloc (.cells #[.int .i64 pb, .int .i64 pp] 41)).drew p) := h.keep (alloc_old _ _ hp)
 have c1 := HX.out.c1
 rw [hP] at c1
 clear h hP
 go_enter Try.func101, Try.ntmps101
 go_wp2
 refine wp_region_held_drew (S := (fun u => u.cell? ⟨w.heap.size, 0, none⟩ = some (.int .i64 pb) ∧ u.cell? ⟨w.heap.size, 1, none⟩ = some (.int .i64 pp) ∧ u.cell? ⟨p, 1, none⟩ = some (.int .i64 (P : Int)))) (by kernel_rfl) (⟨by simp, by simp, c1⟩) fun O => ?_
 refine tk 0 ?_
 refine tk 1 ?_
 refine tk 2 ?_
 refine rd 3 fun K N => ?_
 go_simp
 go_at_call 97
 refine (rblock_any (HX.out) pb B hB).mono ?_
 rintro e u1 ⟨rfl, h1⟩
 rw [h1, hv]
 clear h1
 have hZ := O
 go_wp2_with fail
 clear O
 refine N.out _ _ hZ fun O => ?_
 clear N K hZ
 try simp only [zz]
 refine tk 4 ?_
 refine tk 5 ?_
 refine tk 6 ?_
 refine tk 7 ?_
 refine tk 8 ?_
 refine tk 9 ?_
 refine tu 10 ?_
 refine tu 11 ?_
 refine tu 12 ?_
 refine tu 13 ?_
 refine tu 14 ?_
 refine tu 15 ?_
 refine tu 16 ?_
 refine tu 17 ?_
 refine tk 18 ?_
 refine tk 19 ?_
 refine td ?_
 go_wp2
 go_ret
 exact ⟨rfl, below_trans (below_alloc w _) ⟨rfl, rfl, rfl, Nat.le_refl _, fun _ _ => rfl⟩⟩
theorem place_c (x : Rx) (p B P : Nat) (pb pp : Int) (w : World) (h : x.at w p) (hB : x.B = B) (hP : x.P = P) (hv : hasB B pb = true) (h0 : decide (pp ≥ 0) = true) (h1 : decide (pp < (P : Int)) = false) :
  Calls Try.prog 101 #[.pointer (some ⟨p, 0, none⟩), .agg #[.int .i64 pb, .int .i64 pp]] w fun e w' => e = .returned (.bool false) ∧ Below w.heap.size w w' := by
 have hp := h.lt
 have HX : Hid (x.at (w.alloc (.cells #[.int .i64 pb, .int .i64 pp] 41)).drew p) := h.keep (alloc_old _ _ hp)
 have c1 := HX.out.c1
 rw [hP] at c1
 clear h hP
 go_enter Try.func101, Try.ntmps101
 go_wp2
 refine wp_region_held_drew (S := (fun u => u.cell? ⟨w.heap.size, 0, none⟩ = some (.int .i64 pb) ∧ u.cell? ⟨w.heap.size, 1, none⟩ = some (.int .i64 pp) ∧ u.cell? ⟨p, 1, none⟩ = some (.int .i64 (P : Int)))) (by kernel_rfl) (⟨by simp, by simp, c1⟩) fun O => ?_
 refine tk 0 ?_
 refine tk 1 ?_
 refine tk 2 ?_
 refine rd 3 fun K N => ?_
 go_simp
 go_at_call 97
 refine (rblock_any (HX.out) pb B hB).mono ?_
 rintro e u1 ⟨rfl, h1⟩
 rw [h1, hv]
 clear h1
 have hZ := O
 go_wp2_with fail
 clear O
 refine N.out _ _ hZ fun O => ?_
 clear N K hZ
 try simp only [zz]
 refine tk 4 ?_
 refine tk 5 ?_
 refine tk 6 ?_
 refine tk 7 ?_
 refine tk 8 ?_
 refine tk 9 ?_
 refine tk 10 ?_
 refine tk 11 ?_
 refine tk 12 ?_
 refine tk 13 ?_
 refine tk 14 ?_
 refine tk 15 ?_
 refine tk 16 ?_
 refine tk 17 ?_
 refine tk 18 ?_
 refine tk 19 ?_
 refine td ?_
 go_wp2
 go_ret
 exact ⟨rfl, below_trans (below_alloc w _) ⟨rfl, rfl, rfl, Nat.le_refl _, fun _ _ => rfl⟩⟩
theorem place_d (x : Rx) (p B P : Nat) (pb pp : Int) (w : World) (h : x.at w p) (hB : x.B = B) (hP : x.P = P) (hv : hasB B pb = true) (h0 : decide (pp ≥ 0) = true) (h1 : decide (pp < (P : Int)) = true) :
  Calls Try.prog 101 #[.pointer (some ⟨p, 0, none⟩), .agg #[.int .i64 pb, .int .i64 pp]] w fun e w' => e = .returned (.bool true) ∧ Below w.heap.size w w' := by
 have hp := h.lt
 have HX : Hid (x.at (w.alloc (.cells #[.int .i64 pb, .int .i64 pp] 41)).drew p) := h.keep (alloc_old _ _ hp)
 have c1 := HX.out.c1
 rw [hP] at c1
 clear h hP
 go_enter Try.func101, Try.ntmps101
 go_wp2
 refine wp_region_held_drew (S := (fun u => u.cell? ⟨w.heap.size, 0, none⟩ = some (.int .i64 pb) ∧ u.cell? ⟨w.heap.size, 1, none⟩ = some (.int .i64 pp) ∧ u.cell? ⟨p, 1, none⟩ = some (.int .i64 (P : Int)))) (by kernel_rfl) (⟨by simp, by simp, c1⟩) fun O => ?_
 refine tk 0 ?_
 refine tk 1 ?_
 refine tk 2 ?_
 refine rd 3 fun K N => ?_
 go_simp
 go_at_call 97
 refine (rblock_any (HX.out) pb B hB).mono ?_
 rintro e u1 ⟨rfl, h1⟩
 rw [h1, hv]
 clear h1
 have hZ := O
 go_wp2_with fail
 clear O
 refine N.out _ _ hZ fun O => ?_
 clear N K hZ
 try simp only [zz]
 refine tk 4 ?_
 refine tk 5 ?_
 refine tk 6 ?_
 refine tk 7 ?_
 refine tk 8 ?_
 refine tk 9 ?_
 refine tk 10 ?_
 refine tk 11 ?_
 refine tk 12 ?_
 refine tk 13 ?_
 refine tk 14 ?_
 refine tk 15 ?_
 refine tk 16 ?_
 refine tk 17 ?_
 refine tk 18 ?_
 refine tk 19 ?_
 refine td ?_
 go_wp2
 go_ret
 exact ⟨rfl, below_trans (below_alloc w _) ⟨rfl, rfl, rfl, Nat.le_refl _, fun _ _ => rfl⟩⟩
theorem place_any (x : Rx) (p B P : Nat) (pb pp : Int) (w : World) (h : x.at w p) (hB : x.B = B) (hP : x.P = P) :
  Calls Try.prog 101 #[.pointer (some ⟨p, 0, none⟩), .agg #[.int .i64 pb, .int .i64 pp]] w fun e w' => e = .returned (.bool (hasP B P pb pp)) ∧ Below w.heap.size w w' := by
 unfold hasP
 cases hv : hasB B pb with
 | false => rw [Bool.false_and]; exact place_a x p B P pb pp w h hB hP hv
 | true =>
  rw [Bool.true_and]
  by_cases h0 : 0 ≤ pp
  ·by_cases h1 : pp < (P : Int)
   ·rw [show hasB P pp = true from decide_eq_true ⟨h0, h1⟩]
    exact place_d x p B P pb pp w h hB hP hv (decide_eq_true h0) (decide_eq_true h1)
   ·rw [show hasB P pp = false from decide_eq_false (by omega)]
    exact place_c x p B P pb pp w h hB hP hv (decide_eq_true h0) (decide_eq_false h1)
  ·rw [show hasB P pp = false from decide_eq_false (by omega)]
   exact place_b x p B P pb pp w h hB hP hv (decide_eq_false h0)
section
variable {w0 w : World} {p : Nat} {F : Nat → Prop} {C : Ch} {fs : List Fc} {x : Rx} {rs : List Rc}
theorem own_cells {u : World} {B e size n c j : Nat} {xs : List Value} (h : u.ownsRow B e size (.slice (some ⟨g, 0, none⟩) n c) n xs) (hj : j < n * size) : u.cell? ⟨g, j, none⟩ = xs[j]? := World.ownsRow.cellAt h j hj
theorem RAt.blk (h : RAt w0 w p F C fs x rs) {i : Nat} {r : Rc} (hi : rs[i]? = some r) : w.cell? ⟨x.gr, i * 4, none⟩ = some (.slice (some ⟨r.g, 0, none⟩) r.ls.length r.cap) ∧ w.cell? ⟨x.gr, i * 4 + 1, none⟩ = some (.bool r.m) ∧ w.cell? ⟨x.gr, i * 4 + 2, none⟩ = some (.bool r.r) ∧ w.cell? ⟨x.gr, i * 4 + 3, none⟩ = some (.int .i64 r.nx) := by
 have hl : i < rs.length := (List.getElem?_eq_some_iff.1 hi).1
 have hn := h.nr
 have h0 := flat_get Rc.cells 4 Rc.cells_len 0 (by omega) rs i r hi
 have h1 := flat_get Rc.cells 4 Rc.cells_len 1 (by omega) rs i r hi
 have h2 := flat_get Rc.cells 4 Rc.cells_len 2 (by omega) rs i r hi
 have h3 := flat_get Rc.cells 4 Rc.cells_len 3 (by omega) rs i r hi
 exact ⟨(own_cells h.row (by omega)).trans h0, (own_cells h.row (by omega)).trans h1, (own_cells h.row (by omega)).trans h2, (own_cells h.row (by omega)).trans h3⟩
theorem RcOk.leaf {L P : Nat} {r : Rc} (h : RcOk w F L P r) {k : Nat} {l : Lc} (hk : r.ls[k]? = some l) : w.cell? ⟨r.g, k * 3, none⟩ = some (.slice l.a l.n l.c) ∧ w.cell? ⟨r.g, k * 3 + 1, none⟩ = some (.slice l.fa l.fn l.fc) ∧ w.cell? ⟨r.g, k * 3 + 2, none⟩ = some (.bool l.h) := by
 have hl : k < r.ls.length := (List.getElem?_eq_some_iff.1 hk).1
 have h0 := flat_get Lc.cells 3 Lc.cells_len 0 (by omega) r.ls k l hk
 have h1 := flat_get Lc.cells 3 Lc.cells_len 1 (by omega) r.ls k l hk
 have h2 := flat_get Lc.cells 3 Lc.cells_len 2 (by omega) r.ls k l hk
 exact ⟨(own_cells h.row (by omega)).trans h0, (own_cells h.row (by omega)).trans h1, (own_cells h.row (by omega)).trans h2⟩
theorem RAt.len (h : RAt w0 w p F C fs x rs) : rs.length = C.bl.length := by rw [← h.bl]; simp
end
theorem rOn_any (w0 w : World) (p : Nat) (F : Nat → Prop) (C : Ch) (fs : List Fc) (h : RefAt w0 w p F C fs) :
  Calls Try.prog 69 #[.pointer (some ⟨p, 0, none⟩)] w fun e w' => e = .returned (.tuple #[]) ∧ RefAt w0 w' p F { C with dark := false } fs ∧ Only F w w' := by
 obtain ⟨x, rs, h⟩ := h
 have HC := J h
 have c := h.box.c5
 have f := h.box.fz 5
 clear h
 go_enter Try.func69, Try.ntmps69
 go_wp2
 go_end0
 have ho := Only.setCell (· = p) w p 5 (.bool false) rfl
 have hF : ∀ k, k = p → F k := fun k e => e ▸ HC.out.fp
 have hT : KeepT F (· = 135) w (w.setCell ⟨p, 5, none⟩ (.bool false)) := ho.keepT (fun k o t hg hk ht => by
  rw [hg, show w.heap[p]? = _ from HC.out.box] at hk
  cases hk
  exact ht.symm)
 refine ⟨rfl, ⟨_, rs, HC.out.frame hT (by decide) (by decide) (by decide) (by decide) (HC.out.old.trans (ho.below (fun k e => HC.out.lo k (hF k e)) HC.out.old.size)) (fun _ h => h) (fun k hk => Nat.lt_of_lt_of_le (HC.out.fin k hk) ho.size) HC.out.lo (HC.out.box.setDark false) ⟨rfl, rfl, rfl, rfl, rfl, rfl, rfl, rfl⟩ ⟨rfl, rfl, rfl, rfl, rfl⟩ rfl HC.out.cnt HC.out.q ?_ HC.out.tl HC.out.ft⟩, ho.mono (fun k _ e => hF k e)⟩
 exact owns_keep HC.out.tr (fun g hg => by obtain ⟨cs, hc⟩ := own_tag HC.out.tr hg; exact (hT g _ 120 (HC.out.ft g hg) hc rfl (by decide)).trans hc.symm)
theorem rMarked_any (w0 w : World) (p : Nat) (F : Nat → Prop) (C : Ch) (fs : List Fc) (h : RefAt w0 w p F C fs) (hok : C.Ok) (pb : Int) :
  Calls Try.prog 72 #[.pointer (some ⟨p, 0, none⟩), .int .i64 pb] w fun e w' => e = .returned (.tuple #[.bool (MarkedB C pb), .int .i64 (MarkedE C pb)]) ∧ w' = w := by
 obtain ⟨x, rs, h⟩ := h
 have c5 := h.box.c5
 rw [h.dark] at c5
 have HC := J h
 clear h
 cases hd : C.dark with
 | true =>
  have e1 : MarkedE C pb = 45 := by unfold MarkedE; rw [hd]; rfl
  have e2 : MarkedB C pb = false := by unfold MarkedB; rw [e1]; rfl
  rw [e1, e2]
  rw [hd] at c5
  go_enter Try.func72, Try.ntmps72
  go_wp2
  go_ret2
  exact ⟨rfl, rfl⟩
 | false =>
  rw [hd] at c5
  cases hb : hasB C.B pb with
  | false =>
   have e1 : MarkedE C pb = 41 := by unfold MarkedE; rw [hd, hb]; rfl
   have e2 : MarkedB C pb = false := by unfold MarkedB; rw [e1]; rfl
   rw [e1, e2]
   go_enter Try.func72, Try.ntmps72
   go_wp2_with (first | (go_at_call 97; refine (rblock_any HC.out.box pb C.B HC.out.B).mono ?_; rintro e u1 ⟨rfl, hu⟩; subst u1; rw [hb]))
   go_ret2
   exact ⟨rfl, rfl⟩
  | true =>
   have hx := of_decide_eq_true hb
   obtain ⟨i, rfl⟩ : ∃ i : Nat, pb = i := ⟨pb.toNat, by omega⟩
   have hil : i < rs.length := by rw [HC.out.len, hok.bl]; omega
   obtain ⟨r, hr⟩ : ∃ r, rs[i]? = some r := ⟨_, List.getElem?_eq_getElem hil⟩
   have e1 : MarkedE C i = 0 := by unfold MarkedE; rw [hd, hb]; rfl
   have hbl : C.bl[i]? = some r.v := by rw [← HC.out.bl, List.getElem?_map, hr]; rfl
   have e2 : MarkedB C i = r.m := by unfold MarkedB; rw [e1, if_pos rfl]; simp only [Int.toNat_natCast, hbl]; rfl
   rw [e1, e2]
   obtain ⟨k0, k1, k2, k3⟩ := HC.out.blk hr
   have c3 := HC.out.box.c3
   have i1 : (i : Int) < (x.nr : Int) := by rw [HC.out.nr]; omega
   clear hx hil e1 e2 hbl
   go_enter Try.func72, Try.ntmps72
   go_wp2_with (first | (go_at_call 97; refine (rblock_any HC.out.box (i : Int) C.B HC.out.B).mono ?_; rintro e u1 ⟨rfl, hu⟩; subst u1; rw [hb]))
   go_ret2
   exact ⟨rfl, rfl⟩
def RefG (w0 w : World) (p : Nat) (F : Nat → Prop) (C : Ch) (fs : List Fc) (g : Nat) (rs : List Rc) : Prop := ∃ x, x.gr = g ∧ RAt w0 w p F C fs x rs
theorem RefG.ref {p : Nat} {fs : List Fc} {rs : List Rc} (h : RefG w0 w p F C fs g rs) : RefAt w0 w p F C fs := by
 obtain ⟨x, _, h⟩ := h
 exact ⟨x, rs, h⟩
theorem RefG.more {p : Nat} {G : Nat → Prop} {fs : List Fc} {rs : List Rc} (h : RefG w0 w p F C fs g rs) (hF : ∀ k, F k → G k) (hG : ∀ k, G k → k < w.heap.size) (hl : ∀ k, G k → w0.heap.size ≤ k) : RefG w0 w p G C fs g rs := by
 obtain ⟨x, e, h1⟩ := h
 exact ⟨x, e, h1.keep (fun _ _ => rfl) h1.old hF hG hl⟩
theorem rnote_end {Y : World} {p : Nat} {fs : List Fc} {x : Rx} {rs : List Rc} {k pb pp s : Int} {gn tc : Nat} (htr : C.tr.length ≤ 4000000000000) (h : RAt w0 ((w.alloc (.cells #[.int .i64 pb, .int .i64 pp] 41)).alloc (.cells #[.int .i64 k, .int .i64 pb, .int .i64 pp, .int .i64 s] 120)).drew p F C fs x rs) (hfw : ∀ k, F k → k < w.heap.size) (hw0 : w0.heap.size ≤ w.heap.size) (htl : x.tl = C.tr.length)
  (how : Y.ownsRow 0 120 4 (.slice (some ⟨gn, 0, none⟩) (x.tl + 1) tc) (x.tl + 1) (C.tr.flatMap Cmd.cells ++ [.int .i64 k, .int .i64 pb, .int .i64 pp, .int .i64 s])) (hg : (((w.alloc (.cells #[.int .i64 pb, .int .i64 pp] 41)).alloc (.cells #[.int .i64 k, .int .i64 pb, .int .i64 pp, .int .i64 s] 120)).drew).grownBy Y (Value.slice x.ta x.tl x.tc).ownBlock) (hli : (Value.slice x.ta x.tl x.tc).ownBlock = some gn ∨ gn = w.heap.size + 2) :
  RefG w0 (Y.setCell ⟨p, 7, none⟩ (.slice (some ⟨gn, 0, none⟩) (x.tl + 1) tc)) p (Fx F w (Y.setCell ⟨p, 7, none⟩ (.slice (some ⟨gn, 0, none⟩) (x.tl + 1) tc))) { C with tr := C.tr ++ [⟨k, pb, pp, s⟩] } fs x.gr rs ∧ Only F w (Y.setCell ⟨p, 7, none⟩ (.slice (some ⟨gn, 0, none⟩) (x.tl + 1) tc)) := by
 have hp : p < w.heap.size := hfw p h.fp
 have kt : ∀ g, (Value.slice x.ta x.tl x.tc).ownBlock = some g → ∃ cs, (((w.alloc (.cells #[.int .i64 pb, .int .i64 pp] 41)).alloc (.cells #[.int .i64 k, .int .i64 pb, .int .i64 pp, .int .i64 s] 120)).drew).heap[g]? = some (.cells cs 120 (0, 0)) := fun g hg => own_tag h.tr hg
 have k0 : ∀ g, (Value.slice x.ta x.tl x.tc).ownBlock = some g → g ≠ p := fun g hg => by
  obtain ⟨cs, hc⟩ := kt g hg
  exact tag_ne hc h.box (t := 120) (u := 135) rfl rfl (by decide)
 have hXY : x.at Y p := h.box.keep (hg.block p h.box.lt (fun e => k0 p e.symm rfl))
 have hZ := hXY.setTr (some ⟨gn, 0, none⟩) (x.tl + 1) tc
 have oY : Only (fun g => (Value.slice x.ta x.tl x.tc).ownBlock = some g) ((w.alloc (.cells #[.int .i64 pb, .int .i64 pp] 41)).alloc (.cells #[.int .i64 k, .int .i64 pb, .int .i64 pp, .int .i64 s] 120)).drew Y := Only.ofG hg (fun j e => e)
 have oZ := Only.setCell (· = p) Y p 7 (.slice (some ⟨gn, 0, none⟩) (x.tl + 1) tc) rfl
 have oXZ : Only (fun g => (Value.slice x.ta x.tl x.tc).ownBlock = some g ∨ g = p) ((w.alloc (.cells #[.int .i64 pb, .int .i64 pp] 41)).alloc (.cells #[.int .i64 k, .int .i64 pb, .int .i64 pp, .int .i64 s] 120)).drew (Y.setCell ⟨p, 7, none⟩ (.slice (some ⟨gn, 0, none⟩) (x.tl + 1) tc)) := (oY.mono (fun _ _ h => Or.inl h)).trans oZ (fun _ _ h => Or.inr h)
 have hsz : w.heap.size ≤ (((w.alloc (.cells #[.int .i64 pb, .int .i64 pp] 41)).alloc (.cells #[.int .i64 k, .int .i64 pb, .int .i64 pp, .int .i64 s] 120)).drew).heap.size := by simp; omega
 have hsz2 := oXZ.size
 have hT : KeepT F (fun t => t = 120 ∨ t = 135) ((w.alloc (.cells #[.int .i64 pb, .int .i64 pp] 41)).alloc (.cells #[.int .i64 k, .int .i64 pb, .int .i64 pp, .int .i64 s] 120)).drew (Y.setCell ⟨p, 7, none⟩ (.slice (some ⟨gn, 0, none⟩) (x.tl + 1) tc)) := oXZ.keepT (fun j o t hj ho ht => by
  rcases hj with e | e
  ·obtain ⟨cs, hc⟩ := kt j e
   rw [hc] at ho
   cases ho
   exact Or.inl ht.symm
  ·rw [e, show (((w.alloc (.cells #[.int .i64 pb, .int .i64 pp] 41)).alloc (.cells #[.int .i64 k, .int .i64 pb, .int .i64 pp, .int .i64 s] 120)).drew).heap[p]? = _ from h.box] at ho
   cases ho
   exact Or.inr ht.symm)
 have hownZ : (Y.setCell ⟨p, 7, none⟩ (.slice (some ⟨gn, 0, none⟩) (x.tl + 1) tc)).ownsRow 0 120 4 (.slice (some ⟨gn, 0, none⟩) (x.tl + 1) tc) (x.tl + 1) ((C.tr ++ [(⟨k, pb, pp, s⟩ : Cmd)]).flatMap Cmd.cells) := by
  rw [List.flatMap_append]
  refine owns_keep how (fun g hg => oZ.block g ?_ ?_)
  ·exact (how.lt g hg).2
  ·obtain ⟨cs, hc⟩ := own_tag how hg
   exact tag_ne hc hXY (t := 120) (u := 135) rfl rfl (by decide)
 have hblk : ∀ g, (Value.slice (some ⟨gn, 0, none⟩) (x.tl + 1) tc).ownBlock = some g → Fx F w (Y.setCell ⟨p, 7, none⟩ (.slice (some ⟨gn, 0, none⟩) (x.tl + 1) tc)) g := fun g hg' => by
  have hlt := (how.lt g hg').2
  have e0 : gn = g := Option.some.inj hg'
  subst e0
  rcases hli with e | e
  ·exact Or.inl (h.ft _ e)
  ·exact Or.inr ⟨by omega, by have := oZ.size; omega⟩
 refine ⟨⟨{ x with ta := some ⟨gn, 0, none⟩, tl := x.tl + 1, tc := tc }, rfl, h.frame hT (by decide) (by decide) (by decide) (by decide) (h.old.trans (oXZ.below (fun j e => h.lo j (e.elim (fun e => h.ft j e) (fun e => by rw [e]; exact h.fp))) h.old.size)) (fun k hk => Or.inl hk) (fun k hk => ?_) (fun k hk => ?_) hZ ⟨rfl, rfl, rfl, rfl, rfl, rfl, rfl, rfl⟩ ⟨rfl, rfl, rfl, rfl, rfl⟩ h.dark h.cnt h.q hownZ (by simp [htl]) hblk⟩, ?_⟩
 ·rcases hk with h1 | h1
  ·exact Nat.lt_of_lt_of_le (hfw k h1) (Nat.le_trans hsz hsz2)
  ·exact h1.2
 ·rcases hk with h1 | h1
  ·exact h.lo k h1
  ·exact Nat.le_trans hw0 h1.1
 ·refine (Only.ofB (F := F) (below_trans (below_trans (below_alloc w (.cells #[.int .i64 pb, .int .i64 pp] 41)) (below_alloc _ (.cells #[.int .i64 k, .int .i64 pb, .int .i64 pp, .int .i64 s] 120))) (drew_below _))).trans oXZ (fun j hj e => ?_)
  rcases e with e | e
  ·exact h.ft j e
  ·rw [e]; exact h.fp
theorem traced_any (w : World) (p : Nat) (F : Nat → Prop) (C : Ch) (w0 : World) (fs : List Fc) (x : Rx) (rs : List Rc) (h : RAt w0 w p F C fs x rs) (htr : C.tr.length ≤ 4000000000000) (k pb pp s : Int) :
  Calls Try.prog 98 #[.pointer (some ⟨p, 0, none⟩), .int .i64 k, .agg #[.int .i64 pb, .int .i64 pp], .int .i64 s] w fun e w' => e = .returned (.int .i64 s) ∧ RefG w0 w' p (Fx F w w') { C with tr := C.tr ++ [⟨k, pb, pp, s⟩] } fs x.gr rs ∧ Only F w w' := by
 obtain ⟨i0, hi, hz0, hz1, hz2⟩ := info_parts info120
 have hp := h.box.lt
 have HC : Hid (RAt w0 (w.alloc (.cells #[.int .i64 pb, .int .i64 pp] 41)).drew p F C fs x rs) := h.below (below_trans (below_alloc _ _) (drew_below _))
 have HC1 : Hid (RAt w0 ((w.alloc (.cells #[.int .i64 pb, .int .i64 pp] 41)).alloc (.cells #[.int .i64 k, .int .i64 pb, .int .i64 pp, .int .i64 s] 120)).drew p F C fs x rs) := (h.below (below_alloc _ _)).below (below_trans (below_alloc _ _) (drew_below _))
 have c13 := HC.out.box.c7
 have HTL : Hid (x.tl = C.tr.length) := h.tl
 have HFW : Hid (∀ k, F k → k < w.heap.size) := h.fin
 have HW0 : Hid (w0.heap.size ≤ w.heap.size) := h.old.size
 have HS12 : Hid ((((w.alloc (.cells #[.int .i64 pb, .int .i64 pp] 41)).alloc (.cells #[.int .i64 k, .int .i64 pb, .int .i64 pp, .int .i64 s] 120)).drew).cell? ⟨w.heap.size, 0, none⟩ = some (.int .i64 pb) ∧ (((w.alloc (.cells #[.int .i64 pb, .int .i64 pp] 41)).alloc (.cells #[.int .i64 k, .int .i64 pb, .int .i64 pp, .int .i64 s] 120)).drew).cell? ⟨w.heap.size, 1, none⟩ = some (.int .i64 pp)) := ⟨by simp, by simp⟩
 have d13 := HC1.out.box.c7
 have HNW : Hid (∀ j u, ([.int .i64 k, .int .i64 pb, .int .i64 pp, .int .i64 s] : List Value)[j]? = some u → (((w.alloc (.cells #[.int .i64 pb, .int .i64 pp] 41)).alloc (.cells #[.int .i64 k, .int .i64 pb, .int .i64 pp, .int .i64 s] 120)).drew).cell? ((⟨w.heap.size + 1, 0, none⟩ : Addr).add j) = some u) := by
  intro j u hj
  rw [plain_add, Nat.zero_add]
  match j, hj with
  | 0, hj => simp at hj; subst hj; simp
  | 1, hj => simp at hj; subst hj; simp
  | 2, hj => simp at hj; subst hj; simp
  | 3, hj => simp at hj; subst hj; simp
 have hx0 : x.at w p := h.box
 clear h hx0
 go_enter Try.func98, Try.ntmps98
 go_wp2
 refine wp_region_held_drew (S := (fun u => u.cell? ⟨w.heap.size, 0, none⟩ = some (.int .i64 pb) ∧ u.cell? ⟨w.heap.size, 1, none⟩ = some (.int .i64 pp))) (by kernel_rfl) (⟨by simp, by simp⟩) fun O => ?_
 refine tk 0 ?_
 refine tk 1 ?_
 refine tk 2 ?_
 refine tk 3 ?_
 refine tk 5 ?_
 refine tk 6 ?_
 refine tk 7 ?_
 refine tk 8 ?_
 refine tk 9 ?_
 refine tk 10 ?_
 refine tk 11 ?_
 refine wpAnyH_ready (rs := [4, 12]) (by kernel_rfl) (by simp) ?_
 refine AllReadyH.cons (o := { dst := some 13, op := Op.load 45 (Operand.tmp 12), type := 45, pos := "ref.go:191", after := #[{ on := 3, ground := Ground.data }], guard := none }) rfl (fun K N => ?_) (AllReadyH.cons (o := { dst := some 21, op := Op.buildSlice 45 1 #[(0, Operand.tmp 20)], type := 45, pos := "ref.go:191", after := #[{ on := 11, ground := Ground.data }], guard := none }) rfl (fun K N => ?_) AllReadyH.nil)
 ·go_simp
  go_wp2_with fail
  have hZ := O
  clear O
  refine N.out _ _ hZ fun O => ?_
  clear N K hZ
  try simp only [zz]
  refine rd 12 fun K N => ?_
  go_simp
  go_wp2_with fail
  have hZ := HS12.out
  clear O
  refine N.out _ _ hZ fun O => ?_
  clear N K hZ
  try simp only [zz]
  refine rd 13 fun K N => ?_
  refine wp_append_lies _ (.tmp 13) (.tmp 21) 45 rfl 0 120 i0 (.agg #[.int .i64 0, .int .i64 0, .int .i64 0, .int .i64 0]) 4 32 Try.underlying45 hi hz0 hz1 hz2 rfl (by decide) _ x.tl (C.tr.flatMap Cmd.cells) rfl HC1.out.tr ⟨w.heap.size + 1, 0, none⟩ 1 1 [.int .i64 k, .int .i64 pb, .int .i64 pp, .int .i64 s] rfl rfl HNW.out (by intro u hu; simp at hu; rcases hu with rfl | rfl | rfl | rfl <;> rfl) (by decide) (by rw [HTL.out]; simp [maxLen]; omega) (by rw [HTL.out]; omega) (Nat.zero_le _) (w.heap.size + 2) (by simp) ?_
  intro gn tc Y own grow lies _
  have k0 : ∀ g, (Value.slice x.ta x.tl x.tc).ownBlock = some g → g ≠ p := fun g hg => (by obtain ⟨cs, hc⟩ := own_tag HC1.out.tr hg; exact tag_ne hc HC1.out.box (t := 120) (u := 135) rfl rfl (by decide))
  have kb : ∀ g, (Value.slice x.ta x.tl x.tc).ownBlock = some g → g < w.heap.size := fun g hg => HFW.out g (HC1.out.ft g hg)
  have hXY : x.at Y p := HC1.out.box.keep (grow.block p HC1.out.box.lt (fun e => k0 p e.symm rfl))
  have y0 : Y.cell? ⟨w.heap.size, 0, none⟩ = some (.int .i64 pb) ∧ Y.cell? ⟨w.heap.size, 1, none⟩ = some (.int .i64 pp) := ⟨(grow.cell HS12.out.1 (fun e => Nat.lt_irrefl _ (kb _ e.symm))), (grow.cell HS12.out.2 (fun e => Nat.lt_irrefl _ (kb _ e.symm)))⟩
  have hZ := y0
  have HXY := J hXY
  have HOW := J own
  have HG := J grow
  have HLI := J lies
  have fz13 := hXY.fz 7
  have e13 := hXY.c7
  clear own grow hXY y0 k0 kb lies
  clear O
  refine N.out _ _ hZ fun O => ?_
  clear N K hZ
  try simp only [zz]
  refine tk 14 ?_
  refine tk 15 ?_
  refine rd 16 fun K N => ?_
  go_simp
  go_wp2_with fail
  have n0 : w.heap.size ≠ p := by omega
  have hZ : (Y.setCell ⟨p, 7, none⟩ (.slice (some ⟨gn, 0, none⟩) (x.tl + 1) tc)).cell? ⟨w.heap.size, 0, none⟩ = some (.int .i64 pb) ∧ (Y.setCell ⟨p, 7, none⟩ (.slice (some ⟨gn, 0, none⟩) (x.tl + 1) tc)).cell? ⟨w.heap.size, 1, none⟩ = some (.int .i64 pp) := ⟨(Only.setCell (· = p) Y p 7 _ rfl).cell O.1 n0, (Only.setCell (· = p) Y p 7 _ rfl).cell O.2 n0⟩
  refine N.out _ _ hZ (fun hHeld16 => ?_)
  clear N K hZ O hHeld16
  try simp only [zz]
  refine td ?_
  clear c13 d13
  go_wp2
  go_ret
  exact ⟨rfl, rnote_end htr HC1.out HFW.out HW0.out HTL.out HOW.out HG.out HLI.out⟩
 ·go_simp
  go_wp2_with fail
  have hZ := HS12.out
  clear O
  refine N.out _ _ hZ fun O => ?_
  clear N K hZ
  try simp only [zz]
  refine rd 4 fun K N => ?_
  go_simp
  go_wp2_with fail
  have hZ := O
  clear O
  refine N.out _ _ hZ fun O => ?_
  clear N K hZ
  try simp only [zz]
  refine rd 13 fun K N => ?_
  refine wp_append_lies _ (.tmp 13) (.tmp 21) 45 rfl 0 120 i0 (.agg #[.int .i64 0, .int .i64 0, .int .i64 0, .int .i64 0]) 4 32 Try.underlying45 hi hz0 hz1 hz2 rfl (by decide) _ x.tl (C.tr.flatMap Cmd.cells) rfl HC1.out.tr ⟨w.heap.size + 1, 0, none⟩ 1 1 [.int .i64 k, .int .i64 pb, .int .i64 pp, .int .i64 s] rfl rfl HNW.out (by intro u hu; simp at hu; rcases hu with rfl | rfl | rfl | rfl <;> rfl) (by decide) (by rw [HTL.out]; simp [maxLen]; omega) (by rw [HTL.out]; omega) (Nat.zero_le _) (w.heap.size + 2) (by simp) ?_
  intro gn tc Y own grow lies _
  have k0 : ∀ g, (Value.slice x.ta x.tl x.tc).ownBlock = some g → g ≠ p := fun g hg => (by obtain ⟨cs, hc⟩ := own_tag HC1.out.tr hg; exact tag_ne hc HC1.out.box (t := 120) (u := 135) rfl rfl (by decide))
  have kb : ∀ g, (Value.slice x.ta x.tl x.tc).ownBlock = some g → g < w.heap.size := fun g hg => HFW.out g (HC1.out.ft g hg)
  have hXY : x.at Y p := HC1.out.box.keep (grow.block p HC1.out.box.lt (fun e => k0 p e.symm rfl))
  have y0 : Y.cell? ⟨w.heap.size, 0, none⟩ = some (.int .i64 pb) ∧ Y.cell? ⟨w.heap.size, 1, none⟩ = some (.int .i64 pp) := ⟨(grow.cell HS12.out.1 (fun e => Nat.lt_irrefl _ (kb _ e.symm))), (grow.cell HS12.out.2 (fun e => Nat.lt_irrefl _ (kb _ e.symm)))⟩
  have hZ := y0
  have HXY := J hXY
  have HOW := J own
  have HG := J grow
  have HLI := J lies
  have fz13 := hXY.fz 7
  have e13 := hXY.c7
  clear own grow hXY y0 k0 kb lies
  clear O
  refine N.out _ _ hZ fun O => ?_
  clear N K hZ
  try simp only [zz]
  refine tk 14 ?_
  refine tk 15 ?_
  refine rd 16 fun K N => ?_
  go_simp
  go_wp2_with fail
  have n0 : w.heap.size ≠ p := by omega
  have hZ : (Y.setCell ⟨p, 7, none⟩ (.slice (some ⟨gn, 0, none⟩) (x.tl + 1) tc)).cell? ⟨w.heap.size, 0, none⟩ = some (.int .i64 pb) ∧ (Y.setCell ⟨p, 7, none⟩ (.slice (some ⟨gn, 0, none⟩) (x.tl + 1) tc)).cell? ⟨w.heap.size, 1, none⟩ = some (.int .i64 pp) := ⟨(Only.setCell (· = p) Y p 7 _ rfl).cell O.1 n0, (Only.setCell (· = p) Y p 7 _ rfl).cell O.2 n0⟩
  refine N.out _ _ hZ (fun hHeld16 => ?_)
  clear N K hZ O hHeld16
  try simp only [zz]
  refine td ?_
  clear c13 d13
  go_wp2
  go_ret
  exact ⟨rfl, rnote_end htr HC1.out HFW.out HW0.out HTL.out HOW.out HG.out HLI.out⟩
end Go.Proofs.Ytadlkikjfonkgaa
