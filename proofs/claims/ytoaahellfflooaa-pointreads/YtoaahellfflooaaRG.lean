/-
  SEAT Ytoaahellfflooaa: lift.
-/
import Derived.Test.YtoaahellfflooaaRF
namespace Go.Proofs.Ytoaahellfflooaa
open Go.RowKit
set_option linter.unusedVariables false

/-- A header as a struct, and where one lies. -/
abbrev N8 (n0 : Int) (n1 : Int) (n2 : ByteArray) (n3 : Int) (n4 : Int) (n5 : Int) (n6 : Int) (n7 : ByteArray) : Value := .agg #[.int .i64 n0, .int .i64 n1, .string n2, .int .i64 n3, .int .i64 n4, .int .u64 n5, .int .i64 n6, .string n7]
def Nox (w : World) (T : Nat) (n0 : Int) (n1 : Int) (n2 : ByteArray) (n3 : Int) (n4 : Int) (n5 : Int) (n6 : Int) (n7 : ByteArray) : Prop := w.heap[T]? = some (.cells #[.int .i64 n0, .int .i64 n1, .string n2, .int .i64 n3, .int .i64 n4, .int .u64 n5, .int .i64 n6, .string n7] 50 (0, 0))
theorem over8 {w2 : World} {T : Nat} {m0 : Int} {m1 : Int} {m2 : ByteArray} {m3 : Int} {m4 : Int} {m5 : Int} {m6 : Int} {m7 : ByteArray} (n0 : Int) (n1 : Int) (n2 : ByteArray) (n3 : Int) (n4 : Int) (n5 : Int) (n6 : Int) (n7 : ByteArray) (h : Nox w2 T m0 m1 m2 m3 m4 m5 m6 m7) : Nox ((((((((w2.setCell ⟨T, 0, none⟩ (.int .i64 n0)).setCell ⟨T, 1, none⟩ (.int .i64 n1)).setCell ⟨T, 2, none⟩ (.string n2)).setCell ⟨T, 3, none⟩ (.int .i64 n3)).setCell ⟨T, 4, none⟩ (.int .i64 n4)).setCell ⟨T, 5, none⟩ (.int .u64 n5)).setCell ⟨T, 6, none⟩ (.int .i64 n6)).setCell ⟨T, 7, none⟩ (.string n7)) T n0 n1 n2 n3 n4 n5 n6 n7 := by
  unfold Nox at *
  have g0 := heap_setCell_same _ T 0 _ 50 (.int .i64 n0) h
  replace g0 : (w2.setCell ⟨T, 0, none⟩ (.int .i64 n0)).heap[T]? = some (.cells #[.int .i64 n0, .int .i64 m1, .string m2, .int .i64 m3, .int .i64 m4, .int .u64 m5, .int .i64 m6, .string m7] 50 (0, 0)) := g0
  have g1 := heap_setCell_same _ T 1 _ 50 (.int .i64 n1) g0
  replace g1 : ((w2.setCell ⟨T, 0, none⟩ (.int .i64 n0)).setCell ⟨T, 1, none⟩ (.int .i64 n1)).heap[T]? = some (.cells #[.int .i64 n0, .int .i64 n1, .string m2, .int .i64 m3, .int .i64 m4, .int .u64 m5, .int .i64 m6, .string m7] 50 (0, 0)) := g1
  have g2 := heap_setCell_same _ T 2 _ 50 (.string n2) g1
  replace g2 : (((w2.setCell ⟨T, 0, none⟩ (.int .i64 n0)).setCell ⟨T, 1, none⟩ (.int .i64 n1)).setCell ⟨T, 2, none⟩ (.string n2)).heap[T]? = some (.cells #[.int .i64 n0, .int .i64 n1, .string n2, .int .i64 m3, .int .i64 m4, .int .u64 m5, .int .i64 m6, .string m7] 50 (0, 0)) := g2
  have g3 := heap_setCell_same _ T 3 _ 50 (.int .i64 n3) g2
  replace g3 : ((((w2.setCell ⟨T, 0, none⟩ (.int .i64 n0)).setCell ⟨T, 1, none⟩ (.int .i64 n1)).setCell ⟨T, 2, none⟩ (.string n2)).setCell ⟨T, 3, none⟩ (.int .i64 n3)).heap[T]? = some (.cells #[.int .i64 n0, .int .i64 n1, .string n2, .int .i64 n3, .int .i64 m4, .int .u64 m5, .int .i64 m6, .string m7] 50 (0, 0)) := g3
  have g4 := heap_setCell_same _ T 4 _ 50 (.int .i64 n4) g3
  replace g4 : (((((w2.setCell ⟨T, 0, none⟩ (.int .i64 n0)).setCell ⟨T, 1, none⟩ (.int .i64 n1)).setCell ⟨T, 2, none⟩ (.string n2)).setCell ⟨T, 3, none⟩ (.int .i64 n3)).setCell ⟨T, 4, none⟩ (.int .i64 n4)).heap[T]? = some (.cells #[.int .i64 n0, .int .i64 n1, .string n2, .int .i64 n3, .int .i64 n4, .int .u64 m5, .int .i64 m6, .string m7] 50 (0, 0)) := g4
  have g5 := heap_setCell_same _ T 5 _ 50 (.int .u64 n5) g4
  replace g5 : ((((((w2.setCell ⟨T, 0, none⟩ (.int .i64 n0)).setCell ⟨T, 1, none⟩ (.int .i64 n1)).setCell ⟨T, 2, none⟩ (.string n2)).setCell ⟨T, 3, none⟩ (.int .i64 n3)).setCell ⟨T, 4, none⟩ (.int .i64 n4)).setCell ⟨T, 5, none⟩ (.int .u64 n5)).heap[T]? = some (.cells #[.int .i64 n0, .int .i64 n1, .string n2, .int .i64 n3, .int .i64 n4, .int .u64 n5, .int .i64 m6, .string m7] 50 (0, 0)) := g5
  have g6 := heap_setCell_same _ T 6 _ 50 (.int .i64 n6) g5
  replace g6 : (((((((w2.setCell ⟨T, 0, none⟩ (.int .i64 n0)).setCell ⟨T, 1, none⟩ (.int .i64 n1)).setCell ⟨T, 2, none⟩ (.string n2)).setCell ⟨T, 3, none⟩ (.int .i64 n3)).setCell ⟨T, 4, none⟩ (.int .i64 n4)).setCell ⟨T, 5, none⟩ (.int .u64 n5)).setCell ⟨T, 6, none⟩ (.int .i64 n6)).heap[T]? = some (.cells #[.int .i64 n0, .int .i64 n1, .string n2, .int .i64 n3, .int .i64 n4, .int .u64 n5, .int .i64 n6, .string m7] 50 (0, 0)) := g6
  have g7 := heap_setCell_same _ T 7 _ 50 (.string n7) g6
  replace g7 : ((((((((w2.setCell ⟨T, 0, none⟩ (.int .i64 n0)).setCell ⟨T, 1, none⟩ (.int .i64 n1)).setCell ⟨T, 2, none⟩ (.string n2)).setCell ⟨T, 3, none⟩ (.int .i64 n3)).setCell ⟨T, 4, none⟩ (.int .i64 n4)).setCell ⟨T, 5, none⟩ (.int .u64 n5)).setCell ⟨T, 6, none⟩ (.int .i64 n6)).setCell ⟨T, 7, none⟩ (.string n7)).heap[T]? = some (.cells #[.int .i64 n0, .int .i64 n1, .string n2, .int .i64 n3, .int .i64 n4, .int .u64 n5, .int .i64 n6, .string n7] 50 (0, 0)) := g7
  exact g7
theorem bov8 {w w2 : World} {B T : Nat} (n0 : Int) (n1 : Int) (n2 : ByteArray) (n3 : Int) (n4 : Int) (n5 : Int) (n6 : Int) (n7 : ByteArray) (h : Below B w w2) (hT : B ≤ T) : Below B w ((((((((w2.setCell ⟨T, 0, none⟩ (.int .i64 n0)).setCell ⟨T, 1, none⟩ (.int .i64 n1)).setCell ⟨T, 2, none⟩ (.string n2)).setCell ⟨T, 3, none⟩ (.int .i64 n3)).setCell ⟨T, 4, none⟩ (.int .i64 n4)).setCell ⟨T, 5, none⟩ (.int .u64 n5)).setCell ⟨T, 6, none⟩ (.int .i64 n6)).setCell ⟨T, 7, none⟩ (.string n7)) := ((((((((h.setCell (p := ⟨T, 0, none⟩) hT (.int .i64 n0)).setCell (p := ⟨T, 1, none⟩) hT (.int .i64 n1)).setCell (p := ⟨T, 2, none⟩) hT (.string n2)).setCell (p := ⟨T, 3, none⟩) hT (.int .i64 n3)).setCell (p := ⟨T, 4, none⟩) hT (.int .i64 n4)).setCell (p := ⟨T, 5, none⟩) hT (.int .u64 n5)).setCell (p := ⟨T, 6, none⟩) hT (.int .i64 n6)).setCell (p := ⟨T, 7, none⟩) hT (.string n7))

theorem nox_cells {w : World} {T : Nat} {n0 : Int} {n1 : Int} {n2 : ByteArray} {n3 : Int} {n4 : Int} {n5 : Int} {n6 : Int} {n7 : ByteArray} (h : Nox w T n0 n1 n2 n3 n4 n5 n6 n7) : w.cell? ⟨T, 0, none⟩ = some (.int .i64 n0) ∧ w.cell? ⟨T, 1, none⟩ = some (.int .i64 n1) ∧ w.cell? ⟨T, 2, none⟩ = some (.string n2) ∧ w.cell? ⟨T, 3, none⟩ = some (.int .i64 n3) ∧ w.cell? ⟨T, 4, none⟩ = some (.int .i64 n4) ∧ w.cell? ⟨T, 5, none⟩ = some (.int .u64 n5) ∧ w.cell? ⟨T, 6, none⟩ = some (.int .i64 n6) ∧ w.cell? ⟨T, 7, none⟩ = some (.string n7) := by
  unfold Nox at h
  refine ⟨?_, ?_, ?_, ?_, ?_, ?_, ?_, ?_⟩ <;> simp [World.cell?, h]
theorem resL {W : World} {T : Nat} {tmps : Array Value} {n0 : Int} {n1 : Int} {n2 : ByteArray} {n3 : Int} {n4 : Int} {n5 : Int} {n6 : Int} {n7 : ByteArray} {q : Bool} (h : Nox W T n0 n1 n2 n3 n4 n5 n6 n7)
    (h2 : tmps[2]? = some (.pointer (some ⟨T, 0, none⟩))) (h3 : tmps[3]? = some (.bool q)) : (results Try.f69 tmps).run Try.prog W = .ok (.tuple #[N8 n0 n1 n2 n3 n4 n5 n6 n7, .bool q]) W := by
  obtain ⟨q0, q1, q2, q3, q4, q5, q6, q7⟩ := nox_cells h
  simp [results, Try.results69, go_sem, q0, q1, q2, q3, q4, q5, q6, q7, h2, h3]
theorem n8_cells {w : World} {T : Nat} {c0 c1 c2 c3 c4 c5 c6 c7 : Value} (h : w.heap[T]? = some (.cells #[c0, c1, c2, c3, c4, c5, c6, c7] 50 (0, 0))) :
    (w.cell? ⟨T, 0, none⟩ = some c0 ∧ w.cell? ⟨T, 1, none⟩ = some c1 ∧ w.cell? ⟨T, 2, none⟩ = some c2 ∧ w.cell? ⟨T, 3, none⟩ = some c3 ∧ w.cell? ⟨T, 4, none⟩ = some c4 ∧ w.cell? ⟨T, 5, none⟩ = some c5 ∧ w.cell? ⟨T, 6, none⟩ = some c6 ∧ w.cell? ⟨T, 7, none⟩ = some c7) ∧
    ∀ i, w.frozen? ⟨T, i, none⟩ = false := by
  refine ⟨by simp [World.cell?, h], fun i => ?_⟩
  simp [World.frozen?, h]


/-- How it stands in lift: the row's giver, the two closures, the header's box, the result's box. -/
structure Li (w0 w : World) (n : Nat) (a : Option Addr) (len cap : Nat) (L : Int) (box : Array Value) : Prop where
  giv : Giv w (w0.heap.size + 1) (w0.heap.size + 2) a len cap L
  F : w.heap[n]? = some (.cells #[.func (.func 81) #[] #[.pointer (some ⟨w0.heap.size + 1, 0, none⟩), .pointer (some ⟨w0.heap.size + 2, 0, none⟩)]] 124 (0, 0))
  G : w.heap[n + 1]? = some (.cells #[.func (.func 78) #[] #[.pointer (some ⟨n, 0, none⟩)]] 85 (0, 0))
  N : w.heap[n + 1 + 1]? = some (.cells box 50 (0, 0))
  R : w.heap[w0.heap.size]? = some (.cells #[.int .i64 0, .int .i64 0, .string ⟨#[]⟩, .int .i64 0, .int .i64 0, .int .u64 0, .int .i64 0, .string ⟨#[]⟩] 50 (0, 0))
  bel : Below w0.heap.size w0 w
  lo : w0.heap.size + 2 < n

section
variable {w0 w w' : World} {n : Nat} {a : Option Addr} {len cap : Nat} {L L' : Int} {box : Array Value}
theorem Li.size (h : Li w0 w n a len cap L box) : n + 1 + 1 < w.heap.size := lt_of_block h.N
theorem Li.call (h : Li w0 w n a len cap L box) (hg : Giv w' (w0.heap.size + 1) (w0.heap.size + 2) a len cap L') (g : w.grownBy w' (some (w0.heap.size + 2))) : Li w0 w' n a len cap L' box := by
  have hs := h.size
  have hlo := h.lo
  refine ⟨hg, ?_, ?_, ?_, ?_, ?_, hlo⟩
  · exact (g.block _ (by omega) (by simp; omega)).trans h.F
  · exact (g.block _ (by omega) (by simp; omega)).trans h.G
  · exact (g.block _ (by omega) (by simp; omega)).trans h.N
  · exact (g.block _ (by omega) (by simp)).trans h.R
  · exact ⟨g.os.trans h.bel.os, g.tape.trans h.bel.tape, g.output.trans h.bel.output, Nat.le_trans h.bel.size g.size, fun k hk => (g.block k (by omega) (by simp; omega)).trans (h.bel.block k hk)⟩
theorem Li.store (h : Li w0 w n a len cap L box) (j : Nat) (v : Value) : Li w0 (w.setCell ⟨n + 1 + 1, j, none⟩ v) n a len cap L (box.setIfInBounds j v) := by
  have hs := h.size
  have hlo := h.lo
  have o : ∀ k, k ≠ n + 1 + 1 → (w.setCell ⟨n + 1 + 1, j, none⟩ v).heap[k]? = w.heap[k]? := fun k hk => heap_setCell_other w _ k v (fun e => hk e)
  refine ⟨⟨?_, ?_⟩, ?_, ?_, heap_setCell_same _ _ _ _ _ _ h.N, ?_, h.bel.setCell (by show _ ≤ n + 1 + 1; omega) v, hlo⟩
  · exact (o _ (by omega)).trans h.giv.row
  · exact (o _ (by omega)).trans h.giv.rest
  · exact (o _ (by omega)).trans h.F
  · exact (o _ (by omega)).trans h.G
  · exact (o _ (by omega)).trans h.R
theorem Li.drewN (h : Li w0 w n a len cap L box) (k : Nat) : Li w0 (w.drewN k) n a len cap L box := ⟨h.giv.drewN k, h.F, h.G, h.N, h.R, ⟨h.bel.os, h.bel.tape, h.bel.output, h.bel.size, h.bel.block⟩, h.lo⟩
theorem Li.reads {zs : List Int} (h : Li w0 w n a len cap L box) (hr : Reads w0 a len zs) : Reads w a len zs := hr.below h.bel
theorem row_out {zs : List Int} (hr : Reads w0 a len zs) (k : Nat) : 0 < len → ∀ x, a = some x → x.block ≠ w0.heap.size + k := by
  intro h0 x hx
  obtain ⟨b, off, rfl, hb, _⟩ := hr.pos h0
  cases hx
  show b ≠ _
  omega
theorem num_li (size : Nat) (zs : List Int) (v : Int) (s : Li w0 w n a len cap L box) (hr : Reads w0 a len zs) (h0 : 1 ≤ size) (h1 : size ≤ 8) (hl1 : -10000 ≤ L) (hl2 : L ≤ len) (hlc : len ≤ cap) (h4 : len ≤ 140737488351300) (hcm : cap ≤ 9223372036854775807) (hL : L - size = L') (hv : numV zs len L size = v) :
    Calls Try.prog 78 #[.int .i64 (size : Int), .pointer (some ⟨n, 0, none⟩)] w fun e w' => e = .returned (.int .u64 v) ∧ Li w0 w' n a len cap L' box := by
  subst hL hv
  exact (number_any _ _ _ a len cap size L zs w s.F s.giv h0 h1 (by omega) hl2 hlc h4 hcm (s.reads hr) (row_out hr 2)).mono fun e w' ⟨q1, q2, q3⟩ => ⟨q1, s.call q2 q3⟩
theorem text_li (zs : List Int) (v : ByteArray) (s : Li w0 w n a len cap L box) (hr : Reads w0 a len zs) (hl1 : -9000 ≤ L) (hl2 : L ≤ len) (hlc : len ≤ cap) (h4 : len ≤ 140737488351300) (hcm : cap ≤ 9223372036854775807) (hL : L - 1 - (numV zs len L 1).toNat = L') (hv : strOfNums (pieceV zs len (L - 1) (numV zs len L 1).toNat) = v) :
    Calls Try.prog 79 #[.pointer (some ⟨n, 0, none⟩), .pointer (some ⟨n + 1, 0, none⟩)] w fun e w' => e = .returned (.string v) ∧ Li w0 w' n a len cap L' box := by
  subst hL hv
  exact (text_any _ _ _ _ a len cap L zs w s.F s.G s.giv (by omega) hl2 hlc h4 hcm (s.reads hr) (row_out hr 2)).mono fun e w' ⟨q1, q2, q3⟩ => ⟨q1, s.call q2 q3⟩
theorem give_li (zs : List Int) (s : Li w0 w n a len cap L box) (hr : Reads w0 a len zs) (hpos : 0 < len ∨ L < 0) (hl1 : -9000 ≤ L) (hl2 : L ≤ len) (hlc : len ≤ cap) (h4 : len ≤ 140737488351300) (hcm : cap ≤ 9223372036854775807) :
    Calls Try.prog 81 #[.int .i64 0, .pointer (some ⟨w0.heap.size + 1, 0, none⟩), .pointer (some ⟨w0.heap.size + 2, 0, none⟩)] w fun e w' => (∃ x n c, e = .returned (.tuple #[.slice x n c, .int .i64 L])) ∧ Li w0 w' n a len cap L box := by
  refine (give_any _ _ a len cap 0 L zs w s.giv (by omega) (by omega) (by omega) hl2 hlc h4 hcm (s.reads hr) (row_out hr 2)).mono fun e w' ⟨⟨x, n, c, q1, _⟩, q2, q3⟩ => ?_
  have e0 : L - ((0 : Nat) : Int) = L := by omega
  rw [e0] at q1 q2
  exact ⟨⟨x, n, c, q1⟩, s.call q2 q3⟩
end

theorem li_start {w w1 : World} {a : Option Addr} {len cap : Nat} (g : Giv w1 (w.heap.size + 1) (w.heap.size + 2) a len cap len) (hs : w1.heap.size = w.heap.size + 3) (b : Below (w.heap.size + 1) (w.alloc (.cells #[.int .i64 0, .int .i64 0, .string ⟨#[]⟩, .int .i64 0, .int .i64 0, .int .u64 0, .int .i64 0, .string ⟨#[]⟩] 50)) w1) :
    Li w (((w1.alloc (.cells #[.func (.func 81) #[] #[.pointer (some ⟨w.heap.size + 1, 0, none⟩), .pointer (some ⟨w.heap.size + 2, 0, none⟩)]] 124)).alloc (.cells #[.func (.func 78) #[] #[.pointer (some ⟨w1.heap.size, 0, none⟩)]] 85)).alloc (.cells #[.int .i64 0, .int .i64 0, .string ⟨#[]⟩, .int .i64 0, .int .i64 0, .int .u64 0, .int .i64 0, .string ⟨#[]⟩] 50)) w1.heap.size a len cap len #[.int .i64 0, .int .i64 0, .string ⟨#[]⟩, .int .i64 0, .int .i64 0, .int .u64 0, .int .i64 0, .string ⟨#[]⟩] := by
  have h1 : ∀ (u : World) (o : Obj) (k : Nat), k < u.heap.size → (u.alloc o).heap[k]? = u.heap[k]? := fun u o k hk => ((Below.refl u.heap.size u).alloc (Nat.le_refl _) o).block k hk
  have hn : ∀ (u : World) (o : Obj) (k : Nat), u.heap.size = k → (u.alloc o).heap[k]? = some o := fun u o k hk => by subst hk; exact heap_alloc_new u o
  refine ⟨⟨?_, ?_⟩, ?_, ?_, ?_, ?_, ?_, by omega⟩
  · rw [h1 _ _ _ (by simp; omega), h1 _ _ _ (by simp; omega), h1 _ _ _ (by omega)]; exact g.row
  · rw [h1 _ _ _ (by simp; omega), h1 _ _ _ (by simp; omega), h1 _ _ _ (by omega)]; exact g.rest
  · rw [h1 _ _ _ (by simp <;> omega), h1 _ _ _ (by simp <;> omega)]; exact hn _ _ _ rfl
  · rw [h1 _ _ _ (by simp <;> omega)]; exact hn _ _ _ (by simp <;> omega)
  · exact hn _ _ _ (by simp <;> omega)
  · rw [h1 _ _ _ (by simp; omega), h1 _ _ _ (by simp; omega), h1 _ _ _ (by omega), b.block _ (by omega)]; exact hn _ _ _ rfl
  · have b0 : Below w.heap.size w w1 := ((Below.refl w.heap.size w).alloc (Nat.le_refl _) _).trans (b.mono (by omega))
    exact ((b0.alloc (by omega) _).alloc (by simp; omega) _).alloc (by simp; omega) _
end Go.Proofs.Ytoaahellfflooaa
