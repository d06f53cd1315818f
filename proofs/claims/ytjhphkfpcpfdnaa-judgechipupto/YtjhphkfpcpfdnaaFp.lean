/-
  SEAT Ytjhphkfpcpfdnaa: what a call writes; a chip's box.
-/
import Derived.Test.YtjhphkfpcpfdnaaCm
namespace Go.Proofs.Ytjhphkfpcpfdnaa
open Go.RowKit Go.Conc
set_option linter.unusedVariables false

theorem hide {p : Prop} (h : p) : Hid p := h
theorem ba {B : Nat} {w u : World} (h : Below B w u) (hB : B ≤ u.heap.size := by first | exact Nat.le_refl _ | (simp; done) | (simp; omega) | omega) {o : Obj} : Below B w (u.alloc o) := h.alloc hB _
theorem below_trans {a b c : World} (h : Below a.heap.size a b) (k : Below b.heap.size b c) : Below a.heap.size a c := h.trans (k.mono h.size)
theorem lt_of_block {w : World} {g : Nat} {o : Obj} (h : w.heap[g]? = some o) : g < w.heap.size := by
  rcases Nat.lt_or_ge g w.heap.size with h1 | h1
  · exact h1
  · simp [Array.getElem?_eq_none h1] at h

theorem alloc_new (w : World) (o : Obj) : (w.alloc o).heap[w.heap.size]? = some o := Array.getElem?_push_size
theorem alloc_old (w : World) (o : Obj) {k : Nat} (h : k < w.heap.size) : (w.alloc o).heap[k]? = w.heap[k]? := by
  simp only [World.alloc]
  exact Array.getElem?_push_lt h |>.trans (Array.getElem?_eq_getElem h).symm
theorem alloc_size (w : World) (o : Obj) : (w.alloc o).heap.size = w.heap.size + 1 := by simp

/-- Of what was there only what F tells is written. -/
structure Only (F : Nat → Prop) (w w' : World) : Prop where
  os : w'.os = w.os
  tape : w'.tape = w.tape
  output : w'.output = w.output
  size : w.heap.size ≤ w'.heap.size
  block : ∀ k, k < w.heap.size → ¬ F k → w'.heap[k]? = w.heap[k]?

section
variable {F G : Nat → Prop} {a b c : World}
theorem Only.refl (F : Nat → Prop) (a : World) : Only F a a := ⟨rfl, rfl, rfl, Nat.le_refl _, fun _ _ _ => rfl⟩
theorem Only.trans (h : Only F a b) (k : Only G b c) (hG : ∀ j, j < a.heap.size → G j → F j) : Only F a c :=
  ⟨k.os.trans h.os, k.tape.trans h.tape, k.output.trans h.output, Nat.le_trans h.size k.size, fun i hi hf => (k.block i (Nat.lt_of_lt_of_le hi h.size) (fun g => hf (hG i hi g))).trans (h.block i hi hf)⟩
theorem Only.trans' (h : Only F a b) (k : Only F b c) : Only F a c := h.trans k (fun _ _ h => h)
theorem Only.mono (h : Only F a b) (hG : ∀ j, j < a.heap.size → F j → G j) : Only G a b :=
  ⟨h.os, h.tape, h.output, h.size, fun i hi hf => h.block i hi (fun g => hf (hG i hi g))⟩
theorem Only.ofB (h : Below a.heap.size a b) : Only F a b := ⟨h.os, h.tape, h.output, h.size, fun k hk _ => h.block k hk⟩
theorem Only.ofG {r : Option Nat} (h : a.grownBy b r) (hr : ∀ j, r = some j → F j) : Only F a b :=
  ⟨h.os, h.tape, h.output, h.size, fun k hk hf => h.block k hk (fun e => hf (hr k e.symm))⟩
theorem Only.below {B : Nat} (h : Only F a b) (hF : ∀ j, F j → B ≤ j) (hB : B ≤ a.heap.size) : Below B a b :=
  ⟨h.os, h.tape, h.output, h.size, fun k hk => h.block k (by omega) (fun hf => by have := hF k hf; omega)⟩
theorem Only.drewN (h : Only F a b) (n : Nat) : Only F a (b.drewN n) := ⟨h.os, h.tape, h.output, h.size, h.block⟩
theorem Only.setCell (F : Nat → Prop) (w : World) (g j : Nat) (v : Value) (hF : F g) : Only F w (w.setCell ⟨g, j, none⟩ v) :=
  ⟨rfl, rfl, rfl, by simp, fun k hk hf => heap_setCell_other w ⟨g, j, none⟩ k v (fun e => hf (by rw [e]; exact hF))⟩
end

/-- A chip's box: its fourteen cells. -/
structure Bx where
  B : Int
  P : Int
  S : Int
  gb : Nat
  nb : Nat
  gm : Nat
  c : Nat
  fa : Int
  fk : Int
  ma : Option Addr
  ml : Nat
  mc : Nat
  ff : Int
  hn : Bool
  dark : Bool
  cnt : Int
  ta : Option Addr
  tl : Nat
  tc : Nat
def Bx.cells (x : Bx) : List Value := [.int .i64 x.B, .int .i64 x.P, .int .i64 x.S, .slice (some ⟨x.gb, 0, none⟩) x.nb x.nb, .map (some x.gm), .chan (some x.c), .int .i64 x.fa, .int .i64 x.fk, .slice x.ma x.ml x.mc, .int .u8 x.ff, .bool x.hn, .bool x.dark, .int .i64 x.cnt, .slice x.ta x.tl x.tc]
def Bx.at (x : Bx) (w : World) (p : Nat) : Prop := w.heap[p]? = some (.cells x.cells.toArray 71 (0, 0))

section
variable {x : Bx} {w w' : World} {p : Nat}
theorem Bx.at.c0 (h : x.at w p) : w.cell? ⟨p, 0, none⟩ = some (.int .i64 x.B) := by simp [World.cell?, show w.heap[p]? = _ from h, Bx.cells]
theorem Bx.at.c1 (h : x.at w p) : w.cell? ⟨p, 1, none⟩ = some (.int .i64 x.P) := by simp [World.cell?, show w.heap[p]? = _ from h, Bx.cells]
theorem Bx.at.c2 (h : x.at w p) : w.cell? ⟨p, 2, none⟩ = some (.int .i64 x.S) := by simp [World.cell?, show w.heap[p]? = _ from h, Bx.cells]
theorem Bx.at.c3 (h : x.at w p) : w.cell? ⟨p, 3, none⟩ = some (.slice (some ⟨x.gb, 0, none⟩) x.nb x.nb) := by simp [World.cell?, show w.heap[p]? = _ from h, Bx.cells]
theorem Bx.at.c4 (h : x.at w p) : w.cell? ⟨p, 4, none⟩ = some (.map (some x.gm)) := by simp [World.cell?, show w.heap[p]? = _ from h, Bx.cells]
theorem Bx.at.c5 (h : x.at w p) : w.cell? ⟨p, 5, none⟩ = some (.chan (some x.c)) := by simp [World.cell?, show w.heap[p]? = _ from h, Bx.cells]
theorem Bx.at.c6 (h : x.at w p) : w.cell? ⟨p, 6, none⟩ = some (.int .i64 x.fa) := by simp [World.cell?, show w.heap[p]? = _ from h, Bx.cells]
theorem Bx.at.c7 (h : x.at w p) : w.cell? ⟨p, 7, none⟩ = some (.int .i64 x.fk) := by simp [World.cell?, show w.heap[p]? = _ from h, Bx.cells]
theorem Bx.at.c8 (h : x.at w p) : w.cell? ⟨p, 8, none⟩ = some (.slice x.ma x.ml x.mc) := by simp [World.cell?, show w.heap[p]? = _ from h, Bx.cells]
theorem Bx.at.c9 (h : x.at w p) : w.cell? ⟨p, 9, none⟩ = some (.int .u8 x.ff) := by simp [World.cell?, show w.heap[p]? = _ from h, Bx.cells]
theorem Bx.at.c10 (h : x.at w p) : w.cell? ⟨p, 10, none⟩ = some (.bool x.hn) := by simp [World.cell?, show w.heap[p]? = _ from h, Bx.cells]
theorem Bx.at.c11 (h : x.at w p) : w.cell? ⟨p, 11, none⟩ = some (.bool x.dark) := by simp [World.cell?, show w.heap[p]? = _ from h, Bx.cells]
theorem Bx.at.c12 (h : x.at w p) : w.cell? ⟨p, 12, none⟩ = some (.int .i64 x.cnt) := by simp [World.cell?, show w.heap[p]? = _ from h, Bx.cells]
theorem Bx.at.c13 (h : x.at w p) : w.cell? ⟨p, 13, none⟩ = some (.slice x.ta x.tl x.tc) := by simp [World.cell?, show w.heap[p]? = _ from h, Bx.cells]
theorem Bx.at.fz (h : x.at w p) (j : Nat) : w.frozen? ⟨p, j, none⟩ = false := frozen_of_row w p j _ 71 h
theorem Bx.at.lt (h : x.at w p) : p < w.heap.size := lt_of_block h
theorem Bx.at.keep (h : x.at w p) (e : w'.heap[p]? = w.heap[p]?) : x.at w' p := e.trans h
theorem Bx.at.setDark (h : x.at w p) (d : Bool) : ({ x with dark := d } : Bx).at (w.setCell ⟨p, 11, none⟩ (.bool d)) p := heap_setCell_same w p 11 _ 71 (.bool d) h
theorem Bx.at.setCnt (h : x.at w p) (d : Int) : ({ x with cnt := d } : Bx).at (w.setCell ⟨p, 12, none⟩ (.int .i64 d)) p := heap_setCell_same w p 12 _ 71 (.int .i64 d) h
theorem Bx.at.setVt (h : x.at w p) (ta : Option Addr) (tl tc : Nat) : ({ x with ta := ta, tl := tl, tc := tc } : Bx).at (w.setCell ⟨p, 13, none⟩ (.slice ta tl tc)) p := heap_setCell_same w p 13 _ 71 (.slice ta tl tc) h
theorem Bx.at.setNext (h : x.at w p) (a k : Int) (m : Option Addr) (l n : Nat) (f : Int) (d : Bool) : ({ x with fa := a, fk := k, ma := m, ml := l, mc := n, ff := f, hn := d } : Bx).at (((((w.setCell ⟨p, 6, none⟩ (.int .i64 a)).setCell ⟨p, 7, none⟩ (.int .i64 k)).setCell ⟨p, 8, none⟩ (.slice m l n)).setCell ⟨p, 9, none⟩ (.int .u8 f)).setCell ⟨p, 10, none⟩ (.bool d)) p :=
  heap_setCell_same _ p 10 _ 71 _ (heap_setCell_same _ p 9 _ 71 _ (heap_setCell_same _ p 8 _ 71 _ (heap_setCell_same _ p 7 _ 71 _ (heap_setCell_same w p 6 _ 71 _ h))))
theorem only_next (w : World) (p : Nat) (v1 v2 v3 v4 v5 : Value) : Only (· = p) w (((((w.setCell ⟨p, 6, none⟩ v1).setCell ⟨p, 7, none⟩ v2).setCell ⟨p, 8, none⟩ v3).setCell ⟨p, 9, none⟩ v4).setCell ⟨p, 10, none⟩ v5) :=
  ((((Only.setCell (· = p) w p 6 v1 rfl).trans' (Only.setCell _ _ p 7 v2 rfl)).trans' (Only.setCell _ _ p 8 v3 rfl)).trans' (Only.setCell _ _ p 9 v4 rfl)).trans' (Only.setCell _ _ p 10 v5 rfl)
theorem Only.cell {F : Nat → Prop} {a b : World} (h : Only F a b) {g j : Nat} {v : Value} (hc : a.cell? ⟨g, j, none⟩ = some v) (hF : ¬ F g) : b.cell? ⟨g, j, none⟩ = some v := by
  have h1 : g < a.heap.size := block_lt_of_cell hc
  have h2 := h.block g h1 hF
  unfold World.cell? at *
  simp only [h2]
  exact hc
theorem Only.frozen {F : Nat → Prop} {a b : World} (h : Only F a b) {g : Nat} (hg : g < a.heap.size) (hF : ¬ F g) (j : Nat) : b.frozen? ⟨g, j, none⟩ = a.frozen? ⟨g, j, none⟩ := by
  have h2 := h.block g hg hF
  unfold World.frozen?
  simp only [h2]
theorem Bx.at.setHn (h : x.at w p) (d : Bool) : ({ x with hn := d } : Bx).at (w.setCell ⟨p, 10, none⟩ (.bool d)) p := heap_setCell_same w p 10 _ 71 (.bool d) h
end
end Go.Proofs.Ytjhphkfpcpfdnaa
