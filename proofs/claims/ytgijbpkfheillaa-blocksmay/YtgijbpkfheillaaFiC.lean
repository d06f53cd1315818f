/-
  SEAT Ytgijbpkfheillaa: settle, Live, Leave.
-/
import Derived.Test.YtgijbpkfheillaaFiA
namespace Go.Proofs.Ytgijbpkfheillaa
open Go.RowKit
set_option linter.unusedVariables false

theorem flat1 (c : Ent → Value) (j : Nat) (hj : j < 5) (f : Ent → Ent) (hf : ∀ e, ([Value.int .i64 e.s, .int .u64 e.h, .bool e.r, .int .i64 e.l, .bool e.left] : List Value).set j (c e) = [.int .i64 (f e).s, .int .u64 (f e).h, .bool (f e).r, .int .i64 (f e).l, .bool (f e).left]) : ∀ (es : List Ent) (i : Nat), i < es.length → (flatE es).set (i * 5 + j) (c (es.getD i Ent.zero)) = flatE (es.set i (f (es.getD i Ent.zero)))
  | [], i, h => absurd h (Nat.not_lt_zero _)
  | e :: es, 0, _ => by
    have h1 := hf e
    simp only [Nat.zero_mul, Nat.zero_add, List.getD_cons_zero, List.set_cons_zero, flatE]
    have e1 : (.int .i64 e.s :: .int .u64 e.h :: .bool e.r :: .int .i64 e.l :: .bool e.left :: flatE es) = ([Value.int .i64 e.s, .int .u64 e.h, .bool e.r, .int .i64 e.l, .bool e.left] : List Value) ++ flatE es := rfl
    rw [e1, List.set_append_left _ _ (by simpa using hj), h1]
    rfl
  | e :: es, i + 1, h => by
    have := flat1 c j hj f hf es i (by simpa using h)
    have e1 : (i + 1) * 5 + j = i * 5 + j + 5 := by omega
    rw [e1]
    simp only [flatE, List.set_cons_succ, List.getD_cons_succ]
    rw [this]
theorem BookAt.set1 {w : World} {gb gk : Nat} {P : Int} {es : List Ent} {cur last vic : Int} (h : BookAt w gb gk P es cur last vic) (i j : Nat) (v : Value) (x : Ent) (hx : (flatE es).set (i * 5 + j) v = flatE (es.set i x)) : BookAt (w.setCell ⟨gk, i * 5 + j, none⟩ v) gb gk P (es.set i x) cur last vic := by
  have hne := h.ne
  refine ⟨?_, ?_⟩
  · rw [heap_setCell_other _ _ _ _ (fun e => hne e), List.length_set]
    exact h.box
  · rw [heap_setCell_same w gk (i * 5 + j) _ 71 v h.row, ← hx]
    simp
section
variable {w : World} {gb gk : Nat} {P : Int} {es : List Ent} {cur last vic : Int}
theorem BookAt.setS (h : BookAt w gb gk P es cur last vic) (i : Nat) (hi : i < es.length) (s : Int) : BookAt (w.setCell ⟨gk, i * 5, none⟩ (.int .i64 s)) gb gk P (es.set i { es.getD i Ent.zero with s := s }) cur last vic :=
  h.set1 i 0 _ _ (flat1 (fun _ => .int .i64 s) 0 (by omega) (fun e => { e with s := s }) (fun e => rfl) es i hi)
theorem BookAt.setR (h : BookAt w gb gk P es cur last vic) (i : Nat) (hi : i < es.length) (r : Bool) : BookAt (w.setCell ⟨gk, i * 5 + 2, none⟩ (.bool r)) gb gk P (es.set i { es.getD i Ent.zero with r := r }) cur last vic :=
  h.set1 i 2 _ _ (flat1 (fun _ => .bool r) 2 (by omega) (fun e => { e with r := r }) (fun e => rfl) es i hi)
theorem BookAt.setL (h : BookAt w gb gk P es cur last vic) (i : Nat) (hi : i < es.length) (l : Int) : BookAt (w.setCell ⟨gk, i * 5 + 3, none⟩ (.int .i64 l)) gb gk P (es.set i { es.getD i Ent.zero with l := l }) cur last vic :=
  h.set1 i 3 _ _ (flat1 (fun _ => .int .i64 l) 3 (by omega) (fun e => { e with l := l }) (fun e => rfl) es i hi)
theorem BookAt.setF (h : BookAt w gb gk P es cur last vic) (i : Nat) (hi : i < es.length) (b : Bool) : BookAt (w.setCell ⟨gk, i * 5 + 4, none⟩ (.bool b)) gb gk P (es.set i { es.getD i Ent.zero with left := b }) cur last vic :=
  h.set1 i 4 _ _ (flat1 (fun _ => .bool b) 4 (by omega) (fun e => { e with left := b }) (fun e => rfl) es i hi)
theorem BookAt.setV (h : BookAt w gb gk P es cur last vic) (c : Int) : BookAt (w.setCell ⟨gb, 4, none⟩ (.int .i64 c)) gb gk P es cur last c := by
  have hne := h.ne
  refine ⟨?_, ?_⟩
  · exact heap_setCell_same w gb 4 _ 69 (.int .i64 c) h.box
  · rw [heap_setCell_other _ _ _ _ (fun e => hne e.symm)]
    exact h.row
theorem BookAt.setLast (h : BookAt w gb gk P es cur last vic) (c : Int) : BookAt (w.setCell ⟨gb, 3, none⟩ (.int .i64 c)) gb gk P es cur c vic := by
  have hne := h.ne
  refine ⟨?_, ?_⟩
  · exact heap_setCell_same w gb 3 _ 69 (.int .i64 c) h.box
  · rw [heap_setCell_other _ _ _ _ (fun e => hne e.symm)]
    exact h.row
end

/-- Only the book's own two blocks are written. -/
structure Grew (w w' : World) (gb gk : Nat) : Prop where
  os : w'.os = w.os
  tape : w'.tape = w.tape
  output : w'.output = w.output
  size : w.heap.size ≤ w'.heap.size
  block : ∀ k, k < w.heap.size → k ≠ gb → k ≠ gk → w'.heap[k]? = w.heap[k]?
section
variable {a b c : World} {gb gk : Nat}
theorem Grew.refl (a : World) (gb gk : Nat) : Grew a a gb gk := ⟨rfl, rfl, rfl, Nat.le_refl _, fun _ _ _ _ => rfl⟩
theorem Grew.trans (h : Grew a b gb gk) (k : Grew b c gb gk) : Grew a c gb gk :=
  ⟨k.os.trans h.os, k.tape.trans h.tape, k.output.trans h.output, Nat.le_trans h.size k.size, fun i hi h1 h2 => (k.block i (Nat.lt_of_lt_of_le hi h.size) h1 h2).trans (h.block i hi h1 h2)⟩
theorem Grew.ofk (h : a.grownBy b (some gk)) : Grew a b gb gk := ⟨h.os, h.tape, h.output, h.size, fun k hk _ h2 => h.block k hk (fun e => h2 (by injection e))⟩
theorem Grew.ofb (h : a.grownBy b (some gb)) : Grew a b gb gk := ⟨h.os, h.tape, h.output, h.size, fun k hk h1 _ => h.block k hk (fun e => h1 (by injection e))⟩
theorem Grew.ofn (h : a.grownBy b none) : Grew a b gb gk := ⟨h.os, h.tape, h.output, h.size, fun k hk _ _ => h.block k hk (by simp)⟩
theorem Grew.ofB (h : Below a.heap.size a b) : Grew a b gb gk := Grew.ofn (grown_of h none)
theorem Grew.below {w : World} {B : Nat} (h : Below B w a) (hB : B ≤ a.heap.size) (k : Grew a b gb gk) (h1 : B ≤ gb) (h2 : B ≤ gk) : Below B w b :=
  ⟨k.os.trans h.os, k.tape.trans h.tape, k.output.trans h.output, Nat.le_trans h.size k.size, fun j hj => (k.block j (by omega) (by omega) (by omega)).trans (h.block j hj)⟩
end

/-- A used block with nothing in it is free, or held, unless it is the victim. -/
def settleE (es : List Ent) (last vic : Int) (i : Nat) : List Ent :=
  if (es.getD i Ent.zero).s = 1 ∧ hollowB (es.getD i Ent.zero).r (es.getD i Ent.zero).l = true ∧ (i : Int) ≠ vic then es.set i ⟨if (i : Int) = last then 5 else 0, 0, false, 0, false⟩ else es

set_option maxHeartbeats 1000000 in
theorem settle_any (gb gk : Nat) (P : Int) (es : List Ent) (cur last vic : Int) (i : Nat) (w : World) (h : BookAt w gb gk P es cur last vic) (hi : i < es.length) (hn : es.length ≤ 5000) :
    Calls Try.prog 41 #[.pointer (some ⟨gb, 0, none⟩), .int .i64 i] w fun e w' => e = .returned (.tuple #[]) ∧ BookAt w' gb gk P (settleE es last vic i) cur last vic ∧ w.grownBy w' (some gk) := by
  obtain ⟨c0, c1, c2, c3, c4⟩ := h.cells
  obtain ⟨e0, e1, e2, e3, e4⟩ := h.entry i hi
  have HB : Hid (BookAt w gb gk P es cur last vic) := h
  have d1 : (i : Int) < es.length := by omega
  obtain ⟨X, hX⟩ : ∃ X, es.getD i Ent.zero = X := ⟨_, rfl⟩
  have HX : Hid _ := hX
  rw [hX] at e0 e1 e2 e3 e4
  obtain ⟨s, hh, r, l, lf⟩ := X
  simp only at e0 e1 e2 e3 e4
  have HS : Hid (settleE es last vic i = if s = 1 ∧ hollowB r l = true ∧ (i : Int) ≠ vic then es.set i ⟨if (i : Int) = last then 5 else 0, 0, false, 0, false⟩ else es) := by
    unfold Hid settleE
    rw [HX.out]
  have hA : Below w.heap.size w (w.alloc (.cells #[.int .i64 s, .int .u64 hh, .bool r, .int .i64 l, .bool lf] 71)) := ba (Below.refl _ _)
  have HA : Hid _ := hA
  clear h hX hA
  by_cases s1 : s = 1
  · subst s1
    cases hv : hollowB r l with
    | false =>
      rw [hv] at HS
      go_enter Try.func41, Try.ntmps41
      go_wp2_with (first | (go_at_call 68; refine (hollow_any _ _ _ _ _ _).mono ?_; rintro e u1 ⟨rfl, q1⟩; rw [hv]; have Q1 : Hid (Below w.heap.size w u1) := HA.out.trans (q1.mono HA.out.size); clear q1))
      refine bodyPost_ret (results_none rfl _ _ _) rfl ?_
      exact ⟨rfl, by rw [HS.out, if_neg (by simp)]; exact HB.out.below Q1.out, grown_of Q1.out _⟩
    | true =>
      rw [hv] at HS
      by_cases iv : (i : Int) = vic
      · have ivb : ((i : Int) == vic) = true := by simpa using iv
        have HIV : Hid _ := iv
        clear iv
        go_enter Try.func41, Try.ntmps41
        go_wp2_with (first | (go_at_call 68; refine (hollow_any _ _ _ _ _ _).mono ?_; rintro e u1 ⟨rfl, q1⟩; rw [hv]; have Q1 : Hid (Below w.heap.size w u1) := HA.out.trans (q1.mono HA.out.size); clear q1; obtain ⟨c0', c1', c2', c3', c4'⟩ := (HB.out.below Q1.out).cells))
        refine bodyPost_ret (results_none rfl _ _ _) rfl ?_
        exact ⟨rfl, by rw [HS.out, if_neg (by simp [HIV.out])]; exact HB.out.below Q1.out, grown_of Q1.out _⟩
      · have ivb : ((i : Int) == vic) = false := by simpa using iv
        by_cases il : (i : Int) = last
        · have ilb : ((i : Int) == last) = true := by simpa using il
          have HIL : Hid _ := il
          clear il
          go_enter Try.func41, Try.ntmps41
          go_wp2_with (first | (go_at_call 68; refine (hollow_any _ _ _ _ _ _).mono ?_; rintro e u1 ⟨rfl, q1⟩; rw [hv]; have Q1 : Hid (Below w.heap.size w u1) := HA.out.trans (q1.mono HA.out.size); clear q1; obtain ⟨c0', c1', c2', c3', c4'⟩ := (HB.out.below Q1.out).cells) | (go_at_call 38; refine (put_any gb gk P es cur last vic i 5 _ (HB.out.below Q1.out) hi hn).mono ?_; rintro e u2 ⟨rfl, b2, g2⟩; have B2 : Hid _ := b2; have G2 : Hid _ := g2; clear b2 g2))
          go_end0
          exact ⟨rfl, by rw [HS.out, if_pos (by simp [iv]), if_pos HIL.out]; exact B2.out, grownBy_trans (grown_of Q1.out _) G2.out⟩
        · have ilb : ((i : Int) == last) = false := by simpa using il
          go_enter Try.func41, Try.ntmps41
          go_wp2_with (first | (go_at_call 68; refine (hollow_any _ _ _ _ _ _).mono ?_; rintro e u1 ⟨rfl, q1⟩; rw [hv]; have Q1 : Hid (Below w.heap.size w u1) := HA.out.trans (q1.mono HA.out.size); clear q1; obtain ⟨c0', c1', c2', c3', c4'⟩ := (HB.out.below Q1.out).cells) | (go_at_call 38; refine (put_any gb gk P es cur last vic i 0 _ (HB.out.below Q1.out) hi hn).mono ?_; rintro e u2 ⟨rfl, b2, g2⟩; have B2 : Hid _ := b2; have G2 : Hid _ := g2; clear b2 g2))
          go_end0
          exact ⟨rfl, by rw [HS.out, if_pos (by simp [iv]), if_neg il]; exact B2.out, grownBy_trans (grown_of Q1.out _) G2.out⟩
  · have s1b : (s != 1) = true := by simpa using s1
    go_enter Try.func41, Try.ntmps41
    go_wp2
    refine bodyPost_ret (results_none rfl _ _ _) rfl ?_
    exact ⟨rfl, by rw [HS.out, if_neg (by simp [s1])]; exact HB.out.below HA.out, grown_of HA.out _⟩
end Go.Proofs.Ytgijbpkfheillaa
