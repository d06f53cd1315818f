/-
  SEAT Ytgijbpkfheillaa: Live, Leave.
-/
import Derived.Test.YtgijbpkfheillaaFiB
import Derived.Test.YtgijbpkfheillaaFiC
namespace Go.Proofs.Ytgijbpkfheillaa
open Go.RowKit
set_option linter.unusedVariables false

theorem has_in {n i : Nat} (hi : i < n) : hasOk n (i : Int) = true := decide_eq_true ⟨by omega, by omega⟩

set_option maxHeartbeats 1000000 in
theorem live_out (gb gk : Nat) (P : Int) (es : List Ent) (cur last vic : Int) (b more : Int) (w : World) (h : BookAt w gb gk P es cur last vic) (hn : es.length ≤ 5000) (hb : hasOk es.length b = false) :
    Calls Try.prog 17 #[.pointer (some ⟨gb, 0, none⟩), .int .i64 b, .int .i64 more] w fun e w' => e = .returned (.int .i64 41) ∧ w = w' := by
  have HB : Hid (BookAt w gb gk P es cur last vic) := h
  clear h
  go_enter Try.func17, Try.ntmps17
  go_wp2_with (first | (go_at_call 36; refine (has_any gb gk P es cur last vic _ _ HB.out hn).mono ?_; rintro e u1 ⟨rfl, rfl⟩; rw [hb]))
  go_ret
  exact ⟨rfl, rfl⟩

set_option maxHeartbeats 1000000 in
theorem live_bad (gb gk : Nat) (P : Int) (es : List Ent) (cur last vic : Int) (i : Nat) (more : Int) (w : World) (h : BookAt w gb gk P es cur last vic) (hn : es.length ≤ 5000) (hi : i < es.length) (hp : 4 ≤ P ∧ P ≤ 256) (hl : 0 ≤ (es.getD i Ent.zero).l ∧ (es.getD i Ent.zero).l ≤ P - 1) (hm : Wf more)
    (hb : logE (es.getD i Ent.zero) = false ∨ (es.getD i Ent.zero).l + more < 0 ∨ P - 1 < (es.getD i Ent.zero).l + more) :
    Calls Try.prog 17 #[.pointer (some ⟨gb, 0, none⟩), .int .i64 i, .int .i64 more] w fun e w' => e = .returned (.int .i64 110) ∧ Below w.heap.size w w' := by
  have hm1 := hm.1
  have hm2 := hm.2
  obtain ⟨c0, c1, c2, c3, c4⟩ := h.cells
  obtain ⟨e0, e1, e2, e3, e4⟩ := h.entry i hi
  have HB : Hid (BookAt w gb gk P es cur last vic) := h
  have d1 : (i : Int) < es.length := by omega
  have hh0 := has_in hi
  obtain ⟨X, hX⟩ : ∃ X, es.getD i Ent.zero = X := ⟨_, rfl⟩
  rw [hX] at e0 e1 e2 e3 e4 hl hb
  obtain ⟨s, hh, r, l, lf⟩ := X
  simp only at e0 e1 e2 e3 e4 hl hb
  clear h hX hm
  cases hv : loggedB s lf with
  | false =>
    go_enter Try.func17, Try.ntmps17
    go_wp2_with (first | (go_at_call 36; refine (has_any gb gk P es cur last vic _ _ HB.out hn).mono ?_; rintro e u1 ⟨rfl, rfl⟩; rw [hh0]) | (go_at_call 39; refine (logged_any _ _ _ _ _ _).mono ?_; rintro e u1 ⟨rfl, q1⟩; rw [hv]; have Q1 : Hid _ := q1; clear q1))
    go_ret
    exact ⟨rfl, Q1.out⟩
  | true =>
    have hb2 : l + more < 0 ∨ P - 1 < l + more := by
      rcases hb with h1 | h1
      · unfold logE at h1; simp only at h1; rw [hv] at h1; cases h1
      · exact h1
    obtain ⟨W, hW⟩ : ∃ W, IntKind.i64.wrap (l + more) = W := ⟨_, rfl⟩
    have hW2 : W < 0 ∨ P - 1 < W := by
      rw [← hW, IntKind.wrap_i64]
      omega
    clear hb hb2
    by_cases w0 : W < 0
    · go_enter Try.func17, Try.ntmps17
      go_wp2_with (first | (go_at_call 36; refine (has_any gb gk P es cur last vic _ _ HB.out hn).mono ?_; rintro e u1 ⟨rfl, rfl⟩; rw [hh0]) | (go_at_call 39; refine (logged_any _ _ _ _ _ _).mono ?_; rintro e u1 ⟨rfl, q1⟩; rw [hv]; have Q1 : Hid _ := q1; clear q1))
      go_ret
      exact ⟨rfl, Q1.out⟩
    · have w1 : P - 1 < W := by omega
      have w2 : IntKind.i64.wrap (P - 1) = P - 1 := by rw [IntKind.wrap_i64]; omega
      clear hW2
      go_enter Try.func17, Try.ntmps17
      go_wp2_with (first | (go_at_call 36; refine (has_any gb gk P es cur last vic _ _ HB.out hn).mono ?_; rintro e u1 ⟨rfl, rfl⟩; rw [hh0]) | (go_at_call 39; refine (logged_any _ _ _ _ _ _).mono ?_; rintro e u1 ⟨rfl, q1⟩; rw [hv]; obtain ⟨k0, k1, k2, k3, k4⟩ := (HB.out.below q1).cells; have Q1 : Hid _ := q1; clear q1))
      go_ret
      exact ⟨rfl, Q1.out⟩

set_option maxHeartbeats 1000000 in
theorem live_ok (gb gk : Nat) (P : Int) (es : List Ent) (cur last vic : Int) (i : Nat) (more : Int) (w : World) (h : BookAt w gb gk P es cur last vic) (hn : es.length ≤ 5000) (hi : i < es.length) (hp : 4 ≤ P ∧ P ≤ 256)
    (hg : logE (es.getD i Ent.zero) = true) (h0 : 0 ≤ (es.getD i Ent.zero).l + more) (h1 : (es.getD i Ent.zero).l + more ≤ P - 1) :
    Calls Try.prog 17 #[.pointer (some ⟨gb, 0, none⟩), .int .i64 i, .int .i64 more] w fun e w' => e = .returned (.int .i64 0) ∧ BookAt w' gb gk P (settleE (es.set i { es.getD i Ent.zero with l := (es.getD i Ent.zero).l + more }) last vic i) cur last vic ∧ w.grownBy w' (some gk) := by
  obtain ⟨c0, c1, c2, c3, c4⟩ := h.cells
  obtain ⟨e0, e1, e2, e3, e4⟩ := h.entry i hi
  have HB : Hid (BookAt w gb gk P es cur last vic) := h
  have d1 : (i : Int) < es.length := by omega
  have hh0 := has_in hi
  obtain ⟨X, hX⟩ : ∃ X, es.getD i Ent.zero = X := ⟨_, rfl⟩
  have HX : Hid _ := hX
  rw [hX] at e0 e1 e2 e3 e4 h0 h1 hg ⊢
  obtain ⟨s, hh, r, l, lf⟩ := X
  simp only at e0 e1 e2 e3 e4 h0 h1 ⊢
  clear h hX
  have hv : loggedB s lf = true := hg
  obtain ⟨W, hW⟩ : ∃ W, l + more = W := ⟨_, rfl⟩
  have HW : Hid (IntKind.i64.wrap (l + more) = W) := by unfold Hid; rw [hW, IntKind.wrap_i64]; omega
  rw [hW] at h0 h1 ⊢
  have w9 : IntKind.i64.wrap (l + more) = W := HW.out
  have w2 : IntKind.i64.wrap (P - 1) = P - 1 := by rw [IntKind.wrap_i64]; omega
  have n0 : ¬ (W < 0) := by omega
  have n1 : ¬ (P - 1 < W) := by omega
  clear hW hg
  go_enter Try.func17, Try.ntmps17
  go_wp2_with (first | (go_at_call 36; refine (has_any gb gk P es cur last vic _ _ HB.out hn).mono ?_; rintro e u1 ⟨rfl, rfl⟩; rw [hh0]) | (go_at_call 39; refine (logged_any _ _ _ _ _ _).mono ?_; rintro e u1 ⟨rfl, q1⟩; rw [hv]; have hB1 := HB.out.below q1; obtain ⟨k0, k1, k2, k3, k4⟩ := hB1.cells; have f3 := hB1.free (i * 5 + 3); obtain ⟨m0, m1, m2, m3, m4⟩ := hB1.entry i hi; have hS := hB1.setL i hi W; rw [HX.out] at hS; have HS : Hid (BookAt (u1.setCell ⟨gk, i * 5 + 3, none⟩ (.int .i64 W)) gb gk P (es.set i ⟨s, hh, r, W, lf⟩) cur last vic) := hS; have Q1 : Hid _ := q1; clear q1 hB1 hS) | (go_at_call 41; refine (settle_any gb gk P (es.set i ⟨s, hh, r, W, lf⟩) cur last vic i _ HS.out (by simpa using hi) (by simpa using hn)).mono ?_; rintro e u2 ⟨rfl, b2, g2⟩; have B2 : Hid _ := b2; have G2 : Hid _ := g2; clear b2 g2))
  go_ret
  exact ⟨rfl, B2.out, grownBy_trans (grownBy_trans (grown_of Q1.out _) (grown_set _ _ _ _)) G2.out⟩

/-- Leave. -/
def leaveE (e : Ent) : Ent := if e.s = 1 then { e with s := 3 } else { e with left := true }
set_option maxHeartbeats 1000000 in
theorem leave_ok (gb gk : Nat) (P : Int) (es : List Ent) (cur last vic : Int) (i : Nat) (w : World) (h : BookAt w gb gk P es cur last vic) (hn : es.length ≤ 5000) (hi : i < es.length)
    (hg : candE (es.getD i Ent.zero) = true) (h0 : (es.getD i Ent.zero).l = 0) :
    Calls Try.prog 18 #[.pointer (some ⟨gb, 0, none⟩), .int .i64 i] w fun e w' => e = .returned (.int .i64 0) ∧ BookAt w' gb gk P (es.set i (leaveE (es.getD i Ent.zero))) cur last (if (i : Int) = vic then -1 else vic) ∧ Grew w w' gb gk := by
  obtain ⟨c0, c1, c2, c3, c4⟩ := h.cells
  obtain ⟨e0, e1, e2, e3, e4⟩ := h.entry i hi
  have HB : Hid (BookAt w gb gk P es cur last vic) := h
  have d1 : (i : Int) < es.length := by omega
  have hh0 := has_in hi
  obtain ⟨X, hX⟩ : ∃ X, es.getD i Ent.zero = X := ⟨_, rfl⟩
  have HX : Hid _ := hX
  rw [hX] at e0 e1 e2 e3 e4 h0 hg ⊢
  obtain ⟨s, hh, r, l, lf⟩ := X
  simp only at e0 e1 e2 e3 e4 h0 ⊢
  subst h0
  clear h hX
  obtain ⟨hv0, hs2⟩ : loggedB s lf = true ∧ s ≠ 2 := by
    unfold candE logE at hg
    simpa using hg
  have hs2b : (s == 2) = false := by simpa using hs2
  have hne := HB.out.ne
  have hne2 : ¬ (gk = gb) := fun e => hne e.symm
  by_cases s1 : s = 1
  · subst s1
    by_cases iv : (i : Int) = vic
    · have ivb : ((i : Int) == vic) = true := by simpa using iv
      have HIV : Hid _ := iv
      clear iv
      go_enter Try.func18, Try.ntmps18
      go_wp2_with (first | (go_at_call 36; refine (has_any gb gk P es cur last vic _ _ HB.out hn).mono ?_; rintro e u1 ⟨rfl, rfl⟩; rw [hh0]) | (go_at_call 39; refine (logged_any _ _ _ _ _ _).mono ?_; rintro e u1 ⟨rfl, q1⟩; rw [hv0]; have hB1 := HB.out.below q1; obtain ⟨k0, k1, k2, k3, k4⟩ := hB1.cells; have f0 := hB1.free (i * 5); have f4 := hB1.free2 4; obtain ⟨m0, m1, m2, m3, m4⟩ := hB1.entry i hi; rw [HX.out] at m0 m1 m2 m3 m4; simp only at m0 m1 m2 m3 m4; have hS := (hB1.setS i hi 3).setV (-1); rw [HX.out] at hS; have HS : Hid (BookAt ((u1.setCell ⟨gk, i * 5, none⟩ (.int .i64 3)).setCell ⟨gb, 4, none⟩ (.int .i64 (-1))) gb gk P (es.set i ⟨3, hh, r, 0, lf⟩) cur last (-1)) := hS; have Q1 : Hid _ := q1; clear q1 hB1 hS))
      go_ret
      exact ⟨rfl, HS.out, ((Grew.ofB Q1.out).trans (Grew.ofk (grown_set _ _ _ _))).trans (Grew.ofb (grown_set _ _ _ _))⟩
    · have ivb : ((i : Int) == vic) = false := by simpa using iv
      go_enter Try.func18, Try.ntmps18
      go_wp2_with (first | (go_at_call 36; refine (has_any gb gk P es cur last vic _ _ HB.out hn).mono ?_; rintro e u1 ⟨rfl, rfl⟩; rw [hh0]) | (go_at_call 39; refine (logged_any _ _ _ _ _ _).mono ?_; rintro e u1 ⟨rfl, q1⟩; rw [hv0]; have hB1 := HB.out.below q1; obtain ⟨k0, k1, k2, k3, k4⟩ := hB1.cells; have f0 := hB1.free (i * 5); have f4 := hB1.free2 4; obtain ⟨m0, m1, m2, m3, m4⟩ := hB1.entry i hi; rw [HX.out] at m0 m1 m2 m3 m4; simp only at m0 m1 m2 m3 m4; have hS := (hB1.setS i hi 3); rw [HX.out] at hS; have HS : Hid (BookAt (u1.setCell ⟨gk, i * 5, none⟩ (.int .i64 3)) gb gk P (es.set i ⟨3, hh, r, 0, lf⟩) cur last vic) := hS; have Q1 : Hid _ := q1; clear q1 hB1 hS))
      go_ret
      exact ⟨rfl, HS.out, ((Grew.ofB Q1.out).trans (Grew.ofk (grown_set _ _ _ _)))⟩
  · have s1b : (s == 1) = false := by simpa using s1
    have HL : Hid (leaveE ⟨s, hh, r, 0, lf⟩ = ⟨s, hh, r, 0, true⟩) := by unfold Hid leaveE; simp only; rw [if_neg s1]
    by_cases iv : (i : Int) = vic
    · have ivb : ((i : Int) == vic) = true := by simpa using iv
      have HIV : Hid _ := iv
      clear iv
      go_enter Try.func18, Try.ntmps18
      go_wp2_with (first | (go_at_call 36; refine (has_any gb gk P es cur last vic _ _ HB.out hn).mono ?_; rintro e u1 ⟨rfl, rfl⟩; rw [hh0]) | (go_at_call 39; refine (logged_any _ _ _ _ _ _).mono ?_; rintro e u1 ⟨rfl, q1⟩; rw [hv0]; have hB1 := HB.out.below q1; obtain ⟨k0, k1, k2, k3, k4⟩ := hB1.cells; have f0 := hB1.free (i * 5 + 4); have f4 := hB1.free2 4; obtain ⟨m0, m1, m2, m3, m4⟩ := hB1.entry i hi; rw [HX.out] at m0 m1 m2 m3 m4; simp only at m0 m1 m2 m3 m4; have hS := (hB1.setF i hi true).setV (-1); rw [HX.out] at hS; have HS : Hid (BookAt ((u1.setCell ⟨gk, i * 5 + 4, none⟩ (.bool true)).setCell ⟨gb, 4, none⟩ (.int .i64 (-1))) gb gk P (es.set i ⟨s, hh, r, 0, true⟩) cur last (-1)) := hS; have Q1 : Hid _ := q1; clear q1 hB1 hS))
      go_ret
      exact ⟨rfl, by rw [HL.out]; exact HS.out, ((Grew.ofB Q1.out).trans (Grew.ofk (grown_set _ _ _ _))).trans (Grew.ofb (grown_set _ _ _ _))⟩
    · have ivb : ((i : Int) == vic) = false := by simpa using iv
      go_enter Try.func18, Try.ntmps18
      go_wp2_with (first | (go_at_call 36; refine (has_any gb gk P es cur last vic _ _ HB.out hn).mono ?_; rintro e u1 ⟨rfl, rfl⟩; rw [hh0]) | (go_at_call 39; refine (logged_any _ _ _ _ _ _).mono ?_; rintro e u1 ⟨rfl, q1⟩; rw [hv0]; have hB1 := HB.out.below q1; obtain ⟨k0, k1, k2, k3, k4⟩ := hB1.cells; have f0 := hB1.free (i * 5 + 4); have f4 := hB1.free2 4; obtain ⟨m0, m1, m2, m3, m4⟩ := hB1.entry i hi; rw [HX.out] at m0 m1 m2 m3 m4; simp only at m0 m1 m2 m3 m4; have hS := (hB1.setF i hi true); rw [HX.out] at hS; have HS : Hid (BookAt (u1.setCell ⟨gk, i * 5 + 4, none⟩ (.bool true)) gb gk P (es.set i ⟨s, hh, r, 0, true⟩) cur last vic) := hS; have Q1 : Hid _ := q1; clear q1 hB1 hS))
      go_ret
      exact ⟨rfl, by rw [HL.out]; exact HS.out, ((Grew.ofB Q1.out).trans (Grew.ofk (grown_set _ _ _ _)))⟩
end Go.Proofs.Ytgijbpkfheillaa
