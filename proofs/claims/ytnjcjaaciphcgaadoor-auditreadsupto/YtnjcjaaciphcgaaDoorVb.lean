/-
  SEAT YtnjcjaaciphcgaaDoor: the reader takes a line.
-/
import Derived.Test.YtnjcjaaciphcgaaDoorVa
namespace Go.Proofs.YtnjcjaaciphcgaaDoor
open Go.RowKit Go.Sort
set_option linter.unusedVariables false

/-- The reader: what is left, the number of the line taken last. -/
def RdA (w : World) (q : Nat) (l : List UInt8) (k : Nat) : Prop := w.heap[q]? = some (.cells #[.string ⟨l.toArray⟩, .int .i64 (k : Int)] 67 (0, 0))

/-- Nothing but two blocks is written. -/
structure Two (q t : Nat) (w w' : World) : Prop where
  os : w'.os = w.os
  tape : w'.tape = w.tape
  output : w'.output = w.output
  size : w.heap.size ≤ w'.heap.size
  block : ∀ i, i < w.heap.size → i ≠ q → i ≠ t → w'.heap[i]? = w.heap[i]?
theorem Two.refl (q t : Nat) (w : World) : Two q t w w := ⟨rfl, rfl, rfl, Nat.le_refl _, fun _ _ _ _ => rfl⟩
theorem Two.trans {q t : Nat} {a b c : World} (h : Two q t a b) (k : Two q t b c) : Two q t a c :=
  ⟨k.os.trans h.os, k.tape.trans h.tape, k.output.trans h.output, Nat.le_trans h.size k.size, fun i hi h1 h2 => (k.block i (Nat.lt_of_lt_of_le hi h.size) h1 h2).trans (h.block i hi h1 h2)⟩
theorem Two.of {q t : Nat} {a b : World} (h : Below a.heap.size a b) : Two q t a b := ⟨h.os, h.tape, h.output, h.size, fun i hi _ _ => h.block i hi⟩
theorem Two.one {q t : Nat} {a b : World} (h : Two q q a b) : Two q t a b := ⟨h.os, h.tape, h.output, h.size, fun i hi h1 _ => h.block i hi h1 h1⟩
theorem Two.set {q t : Nat} (w : World) (i j : Nat) (v : Value) (h : i = q ∨ i = t) : Two q t w (w.setCell ⟨i, j, none⟩ v) :=
  ⟨rfl, rfl, rfl, by simp, fun k hk h1 h2 => heap_setCell_other w ⟨i, j, none⟩ k v (fun e => by have e9 : k = i := e; rcases h with h | h <;> omega)⟩
theorem Two.low {q t B : Nat} {a b : World} (h : Two q t a b) (hq : B ≤ q) (ht : B ≤ t) : Below (min B a.heap.size) a b :=
  ⟨h.os, h.tape, h.output, h.size, fun i hi => h.block i (by omega) (by omega) (by omega)⟩

theorem rda_cells {w : World} {q k : Nat} {l : List UInt8} (h : RdA w q l k) : w.cell? ⟨q, 0, none⟩ = some (.string ⟨l.toArray⟩) ∧ w.cell? ⟨q, 1, none⟩ = some (.int .i64 (k : Int)) ∧ w.frozen? ⟨q, 0, none⟩ = false ∧ w.frozen? ⟨q, 1, none⟩ = false := by
  unfold RdA at h
  simp [World.cell?, World.frozen?, h]

/-- The things of the next line, and what is behind it. -/
def thL (l : List UInt8) : List (List UInt8) := pp [] (cutN l).1
def thOk (l : List UInt8) (m : Nat) : Bool := (cutN l).2.2 && decide ((thL l).length = m)

theorem strs_cells (u : World) (xs : List (List UInt8)) (i : Nat) (hi : i < xs.length) : (u.alloc (.cells (xs.map fun x => Value.string ⟨x.toArray⟩).toArray 9)).cell? ⟨u.heap.size, i, none⟩ = some (.string ⟨(xs.getD i []).toArray⟩) := by
  have h9 := heap_alloc_new u (.cells (xs.map fun x => Value.string ⟨x.toArray⟩).toArray 9)
  simp only [World.cell?, h9]
  rw [List.getElem?_toArray, List.getElem?_map, List.getElem?_eq_getElem hi, List.getD_eq_getElem?_getD, List.getElem?_eq_getElem hi]
  rfl
theorem cut_len (l : List UInt8) : (cutN l).1.length ≤ l.length ∧ (cutN l).2.1.length ≤ l.length := by
  induction l with
  | nil => exact ⟨Nat.le_refl _, Nat.le_refl _⟩
  | cons b r ih =>
    unfold cutN
    split
    · simp
    · simp
      omega
theorem pp_len (l : List UInt8) : ∀ w, (pp w l).length ≤ l.length + 1 := by
  induction l with
  | nil => intro w; simp [pp]
  | cons b r ih =>
    intro w
    unfold pp
    split
    · have := ih []
      simp
      omega
    · have := ih (w ++ [b])
      simp
      omega

set_option maxHeartbeats 2000000 in
set_option maxRecDepth 100000 in
theorem things_any (q k m : Nat) (l : List UInt8) (w : World) (hR : RdA w q l k) (hl : l.length < 4294967281) (hk : k ≤ 1000000000000) :
    Calls Tryd.prog 52 #[.pointer (some ⟨q, 0, none⟩), .int .i64 (m : Int)] w fun e w' => ∃ g, e = .returned (.tuple #[.slice (some ⟨g, 0, none⟩) (thL l).length (thL l).length, .bool (thOk l m)]) ∧ w.heap.size ≤ g ∧ (∀ i, i < (thL l).length → w'.cell? ⟨g, i, none⟩ = some (.string ⟨((thL l).getD i []).toArray⟩)) ∧ RdA w' q (cutN l).2.1 (k + 1) ∧ Two q q w w' ∧ g < w'.heap.size := by
  have hq : q < w.heap.size := (Array.getElem?_eq_some_iff.1 hR).1
  have HR : Hid (RdA w q l k) := hR
  have hcl := cut_len l
  obtain ⟨⟨A, B, C⟩, hc⟩ : ∃ x, cutN l = x := ⟨_, rfl⟩
  have hth : thL l = pp [] A := by unfold thL; rw [hc]
  have hpl := pp_len A []
  have HOK : Hid (thOk l m = (C && decide ((pp [] A).length = m))) := by unfold Hid thOk; rw [hth, hc]
  have HCUT := fun u : World => cut_any l u hl
  rw [hth]
  rw [hc] at HCUT hcl ⊢
  simp only at hcl HCUT ⊢
  have hA : A.length < 4294967281 := by omega
  have HSP := fun u : World => split_any A u hA
  obtain ⟨X, hX⟩ : ∃ X, pp [] A = X := ⟨_, rfl⟩
  rw [hX] at HSP HOK hpl ⊢
  have R1 : RdA (w.setCell ⟨q, 1, none⟩ (.int .i64 ((k : Int) + 1))) q l (k + 1) := by
    have h9 := Joins.block_setCell (i := 1) hR (.int .i64 ((k : Int) + 1))
    exact h9
  have HR1 : Hid (RdA (w.setCell ⟨q, 1, none⟩ (.int .i64 ((k : Int) + 1))) q l (k + 1)) := R1
  have HW1 : Hid (Two q q w (w.setCell ⟨q, 1, none⟩ (.int .i64 ((k : Int) + 1)))) := Two.set w q 1 _ (Or.inl rfl)
  obtain ⟨c0, c1, f0, f1⟩ := rda_cells hR
  obtain ⟨d0, d1, g0, g1⟩ := rda_cells R1
  clear hR R1 hth hX hc
  go_enter Tryd.func52, Tryd.ntmps52
  go_upto_region 2 with fail
  clear c0 c1 f0 f1
  obtain ⟨W1, hW1⟩ : ∃ W1, w.setCell ⟨q, 1, none⟩ (.int .i64 ((k : Int) + 1)) = W1 := ⟨_, rfl⟩
  rw [hW1] at HR1 HW1 d0 d1 g0 g1 ⊢
  clear hW1
  go_upto_region 3 with (first
    | (go_at_call 63; refine (HCUT _).mono ?_; rintro e t1 ⟨rfl, bl⟩
       have HR2 : Hid (RdA t1 q l (k + 1)) := (bl.block _ (Array.getElem?_eq_some_iff.1 HR1.out).1).trans HR1.out
       have HW2 : Hid (Two q q w t1) := HW1.out.trans (Two.of bl)
       clear bl d0 d1 g0 g1))
  obtain ⟨d0, d1, g0, g1⟩ := rda_cells HR2.out
  have HR3 : Hid (RdA (t1.setCell ⟨q, 0, none⟩ (.string ⟨B.toArray⟩)) q B (k + 1)) := Joins.block_setCell (i := 0) HR2.out (.string ⟨B.toArray⟩)
  have HW3 : Hid (Two q q w (t1.setCell ⟨q, 0, none⟩ (.string ⟨B.toArray⟩))) := HW2.out.trans (Two.set t1 q 0 _ (Or.inl rfl))
  go_upto_region 4 with fail
  clear d0 d1 g0 g1
  obtain ⟨W2, hW2⟩ : ∃ W2, t1.setCell ⟨q, 0, none⟩ (.string ⟨B.toArray⟩) = W2 := ⟨_, rfl⟩
  rw [hW2] at HR3 HW3 ⊢
  clear hW2
  cases C with
  | false =>
    go_wp2_with (first
      | (go_at_call 64; refine (HSP _).mono ?_; rintro e t2 ⟨rfl, ht2⟩; rw [ht2]; clear ht2))
    go_ret2
    refine ⟨W2.heap.size, by rw [HOK.out]; rfl, HW3.out.size, fun i hi => strs_cells W2 X i hi, ?_, HW3.out.trans (Two.of (below_alloc' _ _)), by simp⟩
    exact (Below.heap_alloc W2 _ _ (Array.getElem?_eq_some_iff.1 HR3.out).1).trans HR3.out
  | true =>
    go_wp2_with (first
      | (go_at_call 64; refine (HSP _).mono ?_; rintro e t2 ⟨rfl, ht2⟩; rw [ht2]; clear ht2))
    go_ret2
    refine ⟨W2.heap.size, ?_, HW3.out.size, fun i hi => strs_cells W2 X i hi, ?_, HW3.out.trans (Two.of (below_alloc' _ _)), by simp⟩
    · rw [HOK.out]
      have e9 : ((X.length : Int) == (m : Int)) = decide (X.length = m) := by
        rw [Bool.eq_iff_iff]
        simp
        omega
      rw [Bool.true_and, ← e9]
      rfl
    · exact (Below.heap_alloc W2 _ _ (Array.getElem?_eq_some_iff.1 HR3.out).1).trans HR3.out

end Go.Proofs.YtnjcjaaciphcgaaDoor
