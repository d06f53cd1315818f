/-
  SEAT Ytgijbpkfheillaa: the reference's Bad, Leave, Start, Pick.
-/
import Derived.Test.YtgijbpkfheillaaPlE
import Derived.Test.YtgijbpkfheillaaPlF
namespace Go.Proofs.Ytgijbpkfheillaa
open Go.RowKit
set_option linter.unusedVariables false

set_option maxHeartbeats 1000000 in
theorem rbad_out (gr gl g c : Nat) (P : Int) (es : List Ent) (cur last vic : Int) (b : Int) (w : World) (h : RefB w gr gl g c P es cur last vic) (hn : es.length ≤ 5000) (hb : hasOk es.length b = false) :
    Calls Try.prog 61 #[.pointer (some ⟨gr, 0, none⟩), .int .i64 b] w fun e w' => e = .returned (.int .i64 41) ∧ w = w' := by
  have HB : Hid (RefB w gr gl g c P es cur last vic) := h
  clear h
  go_enter Try.func61, Try.ntmps61
  go_wp2_with (first | (go_at_call 64; refine (rin_any gr gl g c P es cur last vic _ _ HB.out hn).mono ?_; rintro e u1 ⟨rfl, rfl⟩; rw [hb]))
  go_ret
  exact ⟨rfl, rfl⟩
set_option maxHeartbeats 1000000 in
theorem rbad_bad (gr gl g c : Nat) (P : Int) (es : List Ent) (cur last vic : Int) (i : Nat) (w : World) (h : RefB w gr gl g c P es cur last vic) (hi : i < es.length) (hn : es.length ≤ 5000) (h0 : (es.getD i Ent.zero).s ≠ 0) (hl : (i : Int) = last ∨ doneE (es.getD i Ent.zero) = false) :
    Calls Try.prog 61 #[.pointer (some ⟨gr, 0, none⟩), .int .i64 i] w fun e w' => e = .returned (.int .i64 110) ∧ Below w.heap.size w w' := by
  have HB : Hid (RefB w gr gl g c P es cur last vic) := h
  obtain ⟨c0, c1, c2, c3, c4, c5⟩ := h.cells
  obtain ⟨e0, _, _, _⟩ := h.entry i hi
  have hh := has_in hi
  have d1 : (i : Int) < es.length := by omega
  have HDN : Hid ((doneE (es.getD i Ent.zero) && decide ((i : Int) ≠ last)) = false) := by
    unfold Hid
    rcases hl with q | q
    · rw [decide_eq_false (fun hc => hc q)]; simp
    · rw [q]; rfl
  obtain ⟨s, hs⟩ : ∃ s, (es.getD i Ent.zero).s = s := ⟨_, rfl⟩
  rw [hs] at e0 h0
  have s0 : (s != 0) = true := by simpa using h0
  clear h hs h0 hl
  go_enter Try.func61, Try.ntmps61
  go_wp2_with (first | (go_at_call 64; refine (rin_any gr gl g c P es cur last vic _ _ HB.out hn).mono ?_; rintro e u1 ⟨rfl, rfl⟩; rw [hh]) | (go_at_call 65; refine (rdone_any gr gl g c P es cur last vic i _ HB.out hi hn).mono ?_; rintro e t1 ⟨rfl, q1⟩; rw [HDN.out]; have Q1 : Hid _ := q1; clear q1))
  go_ret
  exact ⟨rfl, Q1.out⟩
set_option maxHeartbeats 1000000 in
theorem rbad_ok (gr gl g c : Nat) (P : Int) (es : List Ent) (cur last vic : Int) (i : Nat) (w : World) (h : RefB w gr gl g c P es cur last vic) (hi : i < es.length) (hn : es.length ≤ 5000) (hl : (es.getD i Ent.zero).s = 0 ∨ ((i : Int) ≠ last ∧ doneE (es.getD i Ent.zero) = true)) :
    Calls Try.prog 61 #[.pointer (some ⟨gr, 0, none⟩), .int .i64 i] w fun e w' => e = .returned (.int .i64 0) ∧ RefB w' gr gl g c P (es.set i ⟨6, 0, false, 0, false⟩) cur last vic ∧ RGrew w w' gr gl g := by
  have HB : Hid (RefB w gr gl g c P es cur last vic) := h
  obtain ⟨c0, c1, c2, c3, c4, c5⟩ := h.cells
  obtain ⟨e0, e1, e2, e3⟩ := h.entry i hi
  have hne := h.ne
  have n1 : ¬ (g = gr) := fun e => hne.2.1 e.symm
  have n2 : ¬ (gl = gr) := fun e => hne.1 e.symm
  have n3 : ¬ (g = gl) := fun e => hne.2.2 e.symm
  have hh := has_in hi
  have d1 : (i : Int) < es.length := by omega
  have HPP : Hid (∀ u, RefB u gr gl g c P es cur last vic → RefB (((((u.setCell ⟨g, i * 4, none⟩ (.int .i64 6)).setCell ⟨g, i * 4 + 1, none⟩ (.int .u64 0)).setCell ⟨g, i * 4 + 2, none⟩ (.bool false)).setCell ⟨g, i * 4 + 3, none⟩ (.int .i64 0)).setCell ⟨gl, i, none⟩ (.bool false)) gr gl g c P (es.set i ⟨6, 0, false, 0, false⟩) cur last vic) := fun u hu => by
    have h1 := (hu.put4 i hi 6 0 false 0).setLeft i (by simpa using hi) false
    rw [List.set_set, getD_set_same _ _ _ hi] at h1
    exact h1
  have HGG : Hid (∀ u : World, RGrew u (((((u.setCell ⟨g, i * 4, none⟩ (.int .i64 6)).setCell ⟨g, i * 4 + 1, none⟩ (.int .u64 0)).setCell ⟨g, i * 4 + 2, none⟩ (.bool false)).setCell ⟨g, i * 4 + 3, none⟩ (.int .i64 0)).setCell ⟨gl, i, none⟩ (.bool false)) gr gl g) := fun u => (RGrew.of (over_grown _ g _ _ _ _ _ _ _ _) (by simp)).trans (RGrew.of (grown_set _ gl _ _) (by simp))
  obtain ⟨_, _, f0⟩ := h.free (i * 4)
  obtain ⟨_, _, f1⟩ := h.free (i * 4 + 1)
  obtain ⟨_, _, f2⟩ := h.free (i * 4 + 2)
  obtain ⟨_, _, f3⟩ := h.free (i * 4 + 3)
  obtain ⟨_, fl, _⟩ := h.free i
  have y0 := h.leftC i hi
  by_cases s0 : (es.getD i Ent.zero).s = 0
  · rw [s0] at e0
    clear h hl s0
    go_enter Try.func61, Try.ntmps61
    go_wp2_with (first | (go_at_call 64; refine (rin_any gr gl g c P es cur last vic _ _ HB.out hn).mono ?_; rintro e u1 ⟨rfl, rfl⟩; rw [hh]))
    go_ret
    exact ⟨rfl, HPP.out _ HB.out, HGG.out _⟩
  · have hd := hl.resolve_left s0
    have HDN : Hid ((doneE (es.getD i Ent.zero) && decide ((i : Int) ≠ last)) = true) := by
      unfold Hid
      rw [hd.2, decide_eq_true hd.1]
      rfl
    obtain ⟨s, hs⟩ : ∃ s, (es.getD i Ent.zero).s = s := ⟨_, rfl⟩
    rw [hs] at e0 s0
    have s0b : (s != 0) = true := by simpa using s0
    clear h hl hs hd
    go_enter Try.func61, Try.ntmps61
    go_wp2_with (first | (go_at_call 64; refine (rin_any gr gl g c P es cur last vic _ _ HB.out hn).mono ?_; rintro e u1 ⟨rfl, rfl⟩; rw [hh]) | (go_at_call 65; refine (rdone_any gr gl g c P es cur last vic i _ HB.out hi hn).mono ?_; rintro e t1 ⟨rfl, q1⟩; rw [HDN.out]; have hB1 := HB.out.below q1; obtain ⟨k0, k1, k2, k3, k4, k5⟩ := hB1.cells; obtain ⟨m0, m1, m2, m3⟩ := hB1.entry i hi; obtain ⟨_, _, r0⟩ := hB1.free (i * 4); obtain ⟨_, _, r1⟩ := hB1.free (i * 4 + 1); obtain ⟨_, _, r2⟩ := hB1.free (i * 4 + 2); obtain ⟨_, _, r3⟩ := hB1.free (i * 4 + 3); obtain ⟨_, rl, _⟩ := hB1.free i; have z0 := hB1.leftC i hi; have HP : Hid _ := HPP.out _ hB1; have Q1 : Hid _ := q1; clear q1 hB1))
    go_ret
    exact ⟨rfl, HP.out, (RGrew.ofB Q1.out).trans (HGG.out _)⟩
set_option maxHeartbeats 1000000 in
theorem rstart_out (gr gl g c : Nat) (P : Int) (es : List Ent) (cur last vic : Int) (b head : Int) (w : World) (h : RefB w gr gl g c P es cur last vic) (hn : es.length ≤ 5000) (hb : hasOk es.length b = false) :
    Calls Try.prog 56 #[.pointer (some ⟨gr, 0, none⟩), .int .i64 b, .int .u64 head] w fun e w' => e = .returned (.int .i64 41) ∧ w = w' := by
  have HB : Hid (RefB w gr gl g c P es cur last vic) := h
  clear h
  go_enter Try.func56, Try.ntmps56
  go_wp2_with (first | (go_at_call 64; refine (rin_any gr gl g c P es cur last vic _ _ HB.out hn).mono ?_; rintro e u1 ⟨rfl, rfl⟩; rw [hb]))
  go_ret
  exact ⟨rfl, rfl⟩
set_option maxHeartbeats 1000000 in
theorem rleave_out (gr gl g c : Nat) (P : Int) (es : List Ent) (cur last vic : Int) (b : Int) (w : World) (h : RefB w gr gl g c P es cur last vic) (hn : es.length ≤ 5000) (hb : hasOk es.length b = false) :
    Calls Try.prog 62 #[.pointer (some ⟨gr, 0, none⟩), .int .i64 b] w fun e w' => e = .returned (.int .i64 41) ∧ w = w' := by
  have HB : Hid (RefB w gr gl g c P es cur last vic) := h
  clear h
  go_enter Try.func62, Try.ntmps62
  go_wp2_with (first | (go_at_call 64; refine (rin_any gr gl g c P es cur last vic _ _ HB.out hn).mono ?_; rintro e u1 ⟨rfl, rfl⟩; rw [hb]))
  go_ret
  exact ⟨rfl, rfl⟩
set_option maxHeartbeats 1000000 in
theorem rlive_out (gr gl g c : Nat) (P : Int) (es : List Ent) (cur last vic : Int) (b more : Int) (w : World) (h : RefB w gr gl g c P es cur last vic) (hn : es.length ≤ 5000) (hb : hasOk es.length b = false) :
    Calls Try.prog 58 #[.pointer (some ⟨gr, 0, none⟩), .int .i64 b, .int .i64 more] w fun e w' => e = .returned (.int .i64 41) ∧ w = w' := by
  have HB : Hid (RefB w gr gl g c P es cur last vic) := h
  clear h
  go_enter Try.func58, Try.ntmps58
  go_wp2_with (first | (go_at_call 64; refine (rin_any gr gl g c P es cur last vic _ _ HB.out hn).mono ?_; rintro e u1 ⟨rfl, rfl⟩; rw [hb]))
  go_ret
  exact ⟨rfl, rfl⟩
set_option maxHeartbeats 1000000 in
theorem rcommit_out (gr gl g c : Nat) (P : Int) (es : List Ent) (cur last vic : Int) (b : Int) (w : World) (h : RefB w gr gl g c P es cur last vic) (hn : es.length ≤ 5000) (hb : hasOk es.length b = false) :
    Calls Try.prog 31 #[.pointer (some ⟨gr, 0, none⟩), .int .i64 b] w fun e w' => e = .returned (.tuple #[.slice none 0 0, .int .i64 41]) ∧ w = w' := by
  have HB : Hid (RefB w gr gl g c P es cur last vic) := h
  clear h
  go_enter Try.func31, Try.ntmps31
  go_wp2_with (first | (go_at_call 64; refine (rin_any gr gl g c P es cur last vic _ _ HB.out hn).mono ?_; rintro e u1 ⟨rfl, rfl⟩; rw [hb]))
  go_ret2
  exact ⟨rfl, rfl⟩
set_option maxHeartbeats 1000000 in
theorem rcommit_bad (gr gl g c : Nat) (P : Int) (es : List Ent) (cur last vic : Int) (i : Nat) (w : World) (h : RefB w gr gl g c P es cur last vic) (hn : es.length ≤ 5000) (hi : i < es.length) (hs : (es.getD i Ent.zero).s ≠ 2) :
    Calls Try.prog 31 #[.pointer (some ⟨gr, 0, none⟩), .int .i64 i] w fun e w' => e = .returned (.tuple #[.slice none 0 0, .int .i64 110]) ∧ w = w' := by
  have HB : Hid (RefB w gr gl g c P es cur last vic) := h
  obtain ⟨c0, c1, c2, c3, c4, c5⟩ := h.cells
  obtain ⟨e0, _, _, _⟩ := h.entry i hi
  have hh := has_in hi
  have d1 : (i : Int) < es.length := by omega
  obtain ⟨s, hs'⟩ : ∃ s, (es.getD i Ent.zero).s = s := ⟨_, rfl⟩
  rw [hs'] at e0 hs
  have s2 : (s != 2) = true := by simpa using hs
  clear h hs' hs
  go_enter Try.func31, Try.ntmps31
  go_wp2_with (first | (go_at_call 64; refine (rin_any gr gl g c P es cur last vic _ _ HB.out hn).mono ?_; rintro e u1 ⟨rfl, rfl⟩; rw [hh]))
  go_ret2
  exact ⟨rfl, rfl⟩

set_option maxHeartbeats 2000000 in
theorem rleave_ok (gr gl g c : Nat) (P : Int) (es : List Ent) (cur last vic : Int) (i : Nat) (w : World) (h : RefB w gr gl g c P es cur last vic) (hn : es.length ≤ 5000) (hi : i < es.length) (hlf : (es.getD i Ent.zero).left = true → (es.getD i Ent.zero).s = 4)
    (hg : candE (es.getD i Ent.zero) = true) (h0 : (es.getD i Ent.zero).l = 0) :
    Calls Try.prog 62 #[.pointer (some ⟨gr, 0, none⟩), .int .i64 i] w fun e w' => e = .returned (.int .i64 0) ∧ RefB w' gr gl g c P (es.set i (leaveE (es.getD i Ent.zero))) cur last (if (i : Int) = vic then -1 else vic) ∧ RGrew w w' gr gl g := by
  obtain ⟨c0, c1, c2, c3, c4, c5⟩ := h.cells
  obtain ⟨e0, e1, e2, e3⟩ := h.entry i hi
  have y0 := h.leftC i hi
  have HB : Hid (RefB w gr gl g c P es cur last vic) := h
  have hne := h.ne
  have n1 : ¬ (g = gr) := fun e => hne.2.1 e.symm
  have n2 : ¬ (gl = gr) := fun e => hne.1 e.symm
  have n3 : ¬ (g = gl) := fun e => hne.2.2 e.symm
  have hh := has_in hi
  have d1 : (i : Int) < es.length := by omega
  obtain ⟨X, hX⟩ : ∃ X, es.getD i Ent.zero = X := ⟨_, rfl⟩
  have HX : Hid _ := hX
  rw [hX] at e0 e1 e2 e3 y0 h0 hg hlf ⊢
  obtain ⟨s, hd, r, l, lf⟩ := X
  simp only at e0 e1 e2 e3 y0 h0 hlf ⊢
  subst h0
  obtain ⟨hv0, hs2⟩ := cand_of'.1 hg
  simp only at hs2
  have HA : Hid (Below w.heap.size w (w.alloc (.cells #[.int .i64 s, .int .u64 hd, .bool r, .int .i64 0] 34))) := ba (Below.refl _ _)
  have hA := HB.out.below HA.out
  obtain ⟨k0, k1, k2, k3, k4, k5⟩ := hA.cells
  obtain ⟨m0, m1, m2, m3⟩ := hA.entry i hi
  have z0 := hA.leftC i hi
  rw [HX.out] at m0 m1 m2 m3 z0
  simp only at m0 m1 m2 m3 z0
  obtain ⟨_, _, f0⟩ := hA.free (i * 4)
  obtain ⟨_, fl, _⟩ := hA.free i
  obtain ⟨f5, _, _⟩ := hA.free 5
  have HS1 : Hid _ := hA.setS i hi 3
  have HS4 : Hid _ := hA.setLeft i hi true
  rw [HX.out] at HS1 HS4
  obtain ⟨_, _, _, _, _, p5⟩ := HS1.out.cells
  obtain ⟨_, _, _, _, _, o5⟩ := HS4.out.cells
  have hlogs : s = 1 ∨ (s = 4 ∧ lf = false) := by
    rcases log_states hv0 with q | q | ⟨q1, q2⟩
    · exact Or.inl q
    · exact absurd q hs2
    · exact Or.inr ⟨q1, q2⟩
  clear h hX hA hg hv0
  rcases hlogs with rfl | ⟨rfl, rfl⟩
  · have hlf0 : lf = false := by cases lf with | false => rfl | true => have := hlf rfl; omega
    subst hlf0
    by_cases iv : (i : Int) = vic
    · have ivb : ((i : Int) == vic) = true := by simpa using iv
      have HIV : Hid _ := iv
      have HS : Hid _ := HS1.out.setVic (-1)
      clear iv
      go_enter Try.func62, Try.ntmps62
      go_wp2_with (first | (go_at_call 64; refine (rin_any gr gl g c P es cur last vic _ _ HB.out hn).mono ?_; rintro e u1 ⟨rfl, rfl⟩; rw [hh]))
      go_ret
      exact ⟨rfl, HS.out, ((RGrew.ofB HA.out).trans (RGrew.of (grown_set _ g _ _) (by simp))).trans (RGrew.of (grown_set _ gr _ _) (by simp))⟩
    · have ivb : ((i : Int) == vic) = false := by simpa using iv
      go_enter Try.func62, Try.ntmps62
      go_wp2_with (first | (go_at_call 64; refine (rin_any gr gl g c P es cur last vic _ _ HB.out hn).mono ?_; rintro e u1 ⟨rfl, rfl⟩; rw [hh]))
      go_ret
      exact ⟨rfl, HS1.out, (RGrew.ofB HA.out).trans (RGrew.of (grown_set _ g _ _) (by simp))⟩
  · by_cases iv : (i : Int) = vic
    · have ivb : ((i : Int) == vic) = true := by simpa using iv
      have HIV : Hid _ := iv
      have HS : Hid _ := HS4.out.setVic (-1)
      clear iv
      go_enter Try.func62, Try.ntmps62
      go_wp2_with (first | (go_at_call 64; refine (rin_any gr gl g c P es cur last vic _ _ HB.out hn).mono ?_; rintro e u1 ⟨rfl, rfl⟩; rw [hh]))
      go_ret
      exact ⟨rfl, HS.out, ((RGrew.ofB HA.out).trans (RGrew.of (grown_set _ gl _ _) (by simp))).trans (RGrew.of (grown_set _ gr _ _) (by simp))⟩
    · have ivb : ((i : Int) == vic) = false := by simpa using iv
      go_enter Try.func62, Try.ntmps62
      go_wp2_with (first | (go_at_call 64; refine (rin_any gr gl g c P es cur last vic _ _ HB.out hn).mono ?_; rintro e u1 ⟨rfl, rfl⟩; rw [hh]))
      go_ret
      exact ⟨rfl, HS4.out, (RGrew.ofB HA.out).trans (RGrew.of (grown_set _ gl _ _) (by simp))⟩
end Go.Proofs.Ytgijbpkfheillaa
