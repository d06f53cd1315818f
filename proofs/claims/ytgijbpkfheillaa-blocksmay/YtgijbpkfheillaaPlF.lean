/-
  SEAT Ytgijbpkfheillaa: calls of the program's book that are refused.
-/
import Derived.Test.YtgijbpkfheillaaPlA
namespace Go.Proofs.Ytgijbpkfheillaa
open Go.RowKit
set_option linter.unusedVariables false

theorem cand_of' {e : Ent} : candE e = true ↔ logE e = true ∧ e.s ≠ 2 := by
  unfold candE
  simp
set_option maxHeartbeats 1000000 in
theorem leave_out (gb gk : Nat) (P : Int) (es : List Ent) (cur last vic : Int) (b : Int) (w : World) (h : BookAt w gb gk P es cur last vic) (hn : es.length ≤ 5000) (hb : hasOk es.length b = false) :
    Calls Try.prog 18 #[.pointer (some ⟨gb, 0, none⟩), .int .i64 b] w fun e w' => e = .returned (.int .i64 41) ∧ w = w' := by
  have HB : Hid (BookAt w gb gk P es cur last vic) := h
  clear h
  go_enter Try.func18, Try.ntmps18
  go_wp2_with (first | (go_at_call 36; refine (has_any gb gk P es cur last vic _ _ HB.out hn).mono ?_; rintro e u1 ⟨rfl, rfl⟩; rw [hb]))
  go_ret
  exact ⟨rfl, rfl⟩
set_option maxHeartbeats 1000000 in
theorem bad_out (gb gk : Nat) (P : Int) (es : List Ent) (cur last vic : Int) (b : Int) (w : World) (h : BookAt w gb gk P es cur last vic) (hn : es.length ≤ 5000) (hb : hasOk es.length b = false) :
    Calls Try.prog 12 #[.pointer (some ⟨gb, 0, none⟩), .int .i64 b] w fun e w' => e = .returned (.int .i64 41) ∧ w = w' := by
  have HB : Hid (BookAt w gb gk P es cur last vic) := h
  clear h
  go_enter Try.func12, Try.ntmps12
  go_wp2_with (first | (go_at_call 36; refine (has_any gb gk P es cur last vic _ _ HB.out hn).mono ?_; rintro e u1 ⟨rfl, rfl⟩; rw [hb]))
  go_ret
  exact ⟨rfl, rfl⟩
set_option maxHeartbeats 1000000 in
theorem commit_out (gb gk : Nat) (P : Int) (es : List Ent) (cur last vic : Int) (b : Int) (w : World) (h : BookAt w gb gk P es cur last vic) (hn : es.length ≤ 5000) (hb : hasOk es.length b = false) :
    Calls Try.prog 21 #[.pointer (some ⟨gb, 0, none⟩), .int .i64 b] w fun e w' => e = .returned (.tuple #[.slice none 0 0, .int .i64 41]) ∧ w = w' := by
  have HB : Hid (BookAt w gb gk P es cur last vic) := h
  clear h
  go_enter Try.func21, Try.ntmps21
  go_wp2_with (first | (go_at_call 36; refine (has_any gb gk P es cur last vic _ _ HB.out hn).mono ?_; rintro e u1 ⟨rfl, rfl⟩; rw [hb]))
  go_ret2
  exact ⟨rfl, rfl⟩
set_option maxHeartbeats 1000000 in
theorem commit_bad (gb gk : Nat) (P : Int) (es : List Ent) (cur last vic : Int) (i : Nat) (w : World) (h : BookAt w gb gk P es cur last vic) (hn : es.length ≤ 5000) (hi : i < es.length) (hs : (es.getD i Ent.zero).s ≠ 2) :
    Calls Try.prog 21 #[.pointer (some ⟨gb, 0, none⟩), .int .i64 i] w fun e w' => e = .returned (.tuple #[.slice none 0 0, .int .i64 110]) ∧ w = w' := by
  obtain ⟨c0, c1, c2, c3, c4⟩ := h.cells
  obtain ⟨e0, _, _, _, _⟩ := h.entry i hi
  have HB : Hid (BookAt w gb gk P es cur last vic) := h
  have hh0 := has_in hi
  have d1 : (i : Int) < es.length := by omega
  obtain ⟨s, hs'⟩ : ∃ s, (es.getD i Ent.zero).s = s := ⟨_, rfl⟩
  rw [hs'] at e0 hs
  have s2 : (s != 2) = true := by simpa using hs
  clear h hs' hs
  go_enter Try.func21, Try.ntmps21
  go_wp2_with (first | (go_at_call 36; refine (has_any gb gk P es cur last vic _ _ HB.out hn).mono ?_; rintro e u1 ⟨rfl, rfl⟩; rw [hh0]))
  go_ret2
  exact ⟨rfl, rfl⟩
set_option maxHeartbeats 1000000 in
theorem bad_bad (gb gk : Nat) (P : Int) (es : List Ent) (cur last vic : Int) (i : Nat) (w : World) (h : BookAt w gb gk P es cur last vic) (hi : i < es.length) (hn : es.length ≤ 5000) (h0 : (es.getD i Ent.zero).s ≠ 0) (hl : (i : Int) = last ∨ doneE (es.getD i Ent.zero) = false) : Calls Try.prog 12 #[.pointer (some ⟨gb, 0, none⟩), .int .i64 i] w fun e w' => e = .returned (.int .i64 110) ∧ Below w.heap.size w w' := by
  obtain ⟨c0, c1, c2, c3, c4⟩ := h.cells
  obtain ⟨e0, e1, e2, e3, e4⟩ := h.entry i hi
  have d1 : (i : Int) < es.length := by omega
  have hh : hasOk es.length (i : Int) = true := has_in hi
  have HB : Hid (BookAt w gb gk P es cur last vic) := h
  obtain ⟨X, hX⟩ : ∃ X, es.getD i Ent.zero = X := ⟨_, rfl⟩
  rw [hX] at e0 e1 e2 e3 e4 h0 hl
  obtain ⟨s, hd, r, l, lf⟩ := X
  simp only at e0 e1 e2 e3 e4 h0
  have s0 : (s != 0) = true := by simpa using h0
  have HA : Hid (Below w.heap.size w (w.alloc (.cells #[.int .i64 s, .int .u64 hd, .bool r, .int .i64 l, .bool lf] 71))) := ba (Below.refl _ _)
  obtain ⟨k0, k1, k2, k3, k4⟩ := (HB.out.below HA.out).cells
  clear h hX h0
  by_cases il : (i : Int) = last
  · have ilb : ((i : Int) == last) = true := by simpa using il
    clear il hl
    go_enter Try.func12, Try.ntmps12
    go_wp2_with (first | (go_at_call 36; refine (has_any gb gk P es cur last vic _ _ HB.out hn).mono ?_; rintro e u1 ⟨rfl, rfl⟩; rw [hh]))
    go_ret
    exact ⟨rfl, HA.out⟩
  · have ilb : ((i : Int) == last) = false := by simpa using il
    have hdn : doneB s r l lf = false := hl.resolve_left il
    clear hl
    go_enter Try.func12, Try.ntmps12
    go_wp2_with (first
      | (go_at_call 36; refine (has_any gb gk P es cur last vic _ _ HB.out hn).mono ?_; rintro e u1 ⟨rfl, rfl⟩; rw [hh])
      | (go_at_call 37; refine (done_any _ _ _ _ _ _).mono ?_; rintro e u2 ⟨rfl, q2⟩; rw [hdn]; have Q2 : Hid (Below w.heap.size w u2) := HA.out.trans (q2.mono HA.out.size); clear q2))
    go_ret
    exact ⟨rfl, Q2.out⟩
set_option maxHeartbeats 1000000 in
theorem leave_bad (gb gk : Nat) (P : Int) (es : List Ent) (cur last vic : Int) (i : Nat) (w : World) (h : BookAt w gb gk P es cur last vic) (hn : es.length ≤ 5000) (hi : i < es.length)
    (hb : candE (es.getD i Ent.zero) = false ∨ (es.getD i Ent.zero).l ≠ 0) :
    Calls Try.prog 18 #[.pointer (some ⟨gb, 0, none⟩), .int .i64 i] w fun e w' => e = .returned (.int .i64 110) ∧ Below w.heap.size w w' := by
  obtain ⟨c0, c1, c2, c3, c4⟩ := h.cells
  obtain ⟨e0, e1, e2, e3, e4⟩ := h.entry i hi
  have HB : Hid (BookAt w gb gk P es cur last vic) := h
  have d1 : (i : Int) < es.length := by omega
  have hh0 := has_in hi
  obtain ⟨X, hX⟩ : ∃ X, es.getD i Ent.zero = X := ⟨_, rfl⟩
  have HX : Hid _ := hX
  rw [hX] at e0 e1 e2 e3 e4 hb
  obtain ⟨s, hh, r, l, lf⟩ := X
  simp only at e0 e1 e2 e3 e4 hb
  clear h hX
  cases hv0 : loggedB s lf with
  | false =>
    clear hb
    go_enter Try.func18, Try.ntmps18
    go_wp2_with (first | (go_at_call 36; refine (has_any gb gk P es cur last vic _ _ HB.out hn).mono ?_; rintro e u1 ⟨rfl, rfl⟩; rw [hh0]) | (go_at_call 39; refine (logged_any _ _ _ _ _ _).mono ?_; rintro e u1 ⟨rfl, q1⟩; rw [hv0]; have Q1 : Hid _ := q1; clear q1))
    go_ret
    exact ⟨rfl, Q1.out⟩
  | true =>
    by_cases s2 : s = 2
    · subst s2
      clear hb
      go_enter Try.func18, Try.ntmps18
      go_wp2_with (first | (go_at_call 36; refine (has_any gb gk P es cur last vic _ _ HB.out hn).mono ?_; rintro e u1 ⟨rfl, rfl⟩; rw [hh0]) | (go_at_call 39; refine (logged_any _ _ _ _ _ _).mono ?_; rintro e u1 ⟨rfl, q1⟩; rw [hv0]; obtain ⟨m0, m1, m2, m3, m4⟩ := (HB.out.below q1).entry i hi; rw [HX.out] at m0 m3; simp only at m0 m3; have Q1 : Hid _ := q1; clear q1))
      go_ret
      exact ⟨rfl, Q1.out⟩
    · have s2b : (s == 2) = false := by simpa using s2
      have hl : l ≠ 0 := by
        rcases hb with h1 | h1
        · exfalso
          have : candE ⟨s, hh, r, l, lf⟩ = true := cand_of'.2 ⟨hv0, s2⟩
          rw [this] at h1
          cases h1
        · exact h1
      have hlb : (l != 0) = true := by simpa using hl
      clear hb
      go_enter Try.func18, Try.ntmps18
      go_wp2_with (first | (go_at_call 36; refine (has_any gb gk P es cur last vic _ _ HB.out hn).mono ?_; rintro e u1 ⟨rfl, rfl⟩; rw [hh0]) | (go_at_call 39; refine (logged_any _ _ _ _ _ _).mono ?_; rintro e u1 ⟨rfl, q1⟩; rw [hv0]; obtain ⟨m0, m1, m2, m3, m4⟩ := (HB.out.below q1).entry i hi; rw [HX.out] at m0 m3; simp only at m0 m3; have Q1 : Hid _ := q1; clear q1))
      go_ret
      exact ⟨rfl, Q1.out⟩
end Go.Proofs.Ytgijbpkfheillaa
