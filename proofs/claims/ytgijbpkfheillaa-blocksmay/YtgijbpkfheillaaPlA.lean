/-
  SEAT Ytgijbpkfheillaa: newest, Start, Real, Shut, Wait.
-/
import Derived.Test.YtgijbpkfheillaaFiG
namespace Go.Proofs.Ytgijbpkfheillaa
open Go.RowKit
set_option linter.unusedVariables false

/-- The greatest Head of the first k. -/
def newestF (es : List Ent) : Nat → Int
  | 0 => 0
  | k + 1 => max (newestF es k) (es.getD k Ent.zero).h
theorem newestF_le (es : List Ent) (n : Nat) (head : Int) (h0 : 0 < head) : newestF es n < head ↔ ∀ i, i < n → (es.getD i Ent.zero).h < head := by
  induction n with
  | zero => simp [newestF, h0]
  | succ n ih =>
    rw [newestF, Int.max_lt, ih]
    constructor
    · rintro ⟨h1, h2⟩ i hi
      by_cases e : i = n
      · subst e; exact h2
      · exact h1 i (by omega)
    · intro h
      exact ⟨fun i hi => h i (by omega), h n (by omega)⟩

set_option maxHeartbeats 1000000 in
theorem newest_any (gb gk : Nat) (P : Int) (es : List Ent) (cur last vic : Int) (w : World) (h : BookAt w gb gk P es cur last vic) (hn : es.length ≤ 5000) :
    Calls Try.prog 69 #[.pointer (some ⟨gb, 0, none⟩)] w fun e w' => e = .returned (.int .u64 (newestF es es.length)) ∧ Below w.heap.size w w' := by
  obtain ⟨c0, c1, c2, c3, c4⟩ := h.cells
  have HB : Hid (BookAt w gb gk P es cur last vic) := h
  clear h
  go_enter Try.func69, Try.ntmps69
  go_wp2
  go_loopw [3, 5, 11] (fun s3 s5 s11 wr => ∃ k : Nat, k ≤ es.length ∧ s11 = .int .i64 k ∧ s3 = .int .u64 (newestF es k) ∧ Below w.heap.size w wr)
    (fun _ _ i _ => es.length - (intOf i).toNat)
  case atStart => exact ⟨0, Nat.zero_le _, rfl, rfl, Below.refl _ _⟩
  case round =>
    obtain ⟨k, hk, rfl, rfl, hb⟩ := hrel
    by_cases hlt : k < es.length
    · obtain ⟨e0, e1, e2, e3, e4⟩ := (HB.out.below hb).entry k hlt
      obtain ⟨X, hX⟩ : ∃ X, es.getD k Ent.zero = X := ⟨_, rfl⟩
      have HX : Hid _ := hX
      rw [hX] at e0 e1 e2 e3 e4
      obtain ⟨s, h, r, l, lf⟩ := X
      simp only at e0 e1 e2 e3 e4
      have d1 : (k : Int) < es.length := by omega
      obtain ⟨M, hM⟩ : ∃ M, newestF es k = M := ⟨_, rfl⟩
      have HM : Hid (newestF es (k + 1) = max M h) := by unfold Hid; rw [newestF, HX.out, hM]
      rw [hM]
      clear hX hM
      go_wp2
      go_roundw
      case rel => exact ⟨k + 1, by omega, by go_num, by rw [HM.out, Int.max_def]; congr 1; split <;> split <;> omega, by first | exact hb | exact ba hb⟩
      case measure => simp [intOf]; omega
    · have hkn : k = es.length := by omega
      subst hkn
      go_wp2
      go_ret
      exact ⟨rfl, hb⟩

set_option maxHeartbeats 1000000 in
theorem start_out (gb gk : Nat) (P : Int) (es : List Ent) (cur last vic : Int) (b head : Int) (w : World) (h : BookAt w gb gk P es cur last vic) (hn : es.length ≤ 5000) (hb : hasOk es.length b = false) :
    Calls Try.prog 42 #[.pointer (some ⟨gb, 0, none⟩), .int .i64 b, .int .u64 head] w fun e w' => e = .returned (.int .i64 41) ∧ w = w' := by
  have HB : Hid (BookAt w gb gk P es cur last vic) := h
  clear h
  go_enter Try.func42, Try.ntmps42
  go_wp2_with (first | (go_at_call 36; refine (has_any gb gk P es cur last vic _ _ HB.out hn).mono ?_; rintro e u1 ⟨rfl, rfl⟩; rw [hb]))
  go_ret
  exact ⟨rfl, rfl⟩
def startOk (es : List Ent) (i : Nat) (head : Int) : Bool := (openF es es.length).isNone && ((es.getD i Ent.zero).s == 0) && decide (head ≤ 281474976710655) && decide (newestF es es.length < head)
theorem openV_none {es : List Ent} (h : openF es es.length = none) : openV es = .tuple #[.int .i64 0, .bool false] := by unfold openV; rw [h]
theorem openV_some {es : List Ent} {o : Nat} (h : openF es es.length = some o) : openV es = .tuple #[.int .i64 (o : Nat), .bool true] := by unfold openV; rw [h]

set_option maxHeartbeats 1000000 in
theorem start_bad (gb gk : Nat) (P : Int) (es : List Ent) (cur last vic : Int) (i : Nat) (head : Int) (w : World) (h : BookAt w gb gk P es cur last vic) (hn : es.length ≤ 5000) (hi : i < es.length) (hb : startOk es i head = false) :
    Calls Try.prog 42 #[.pointer (some ⟨gb, 0, none⟩), .int .i64 i, .int .u64 head] w fun e w' => e = .returned (.int .i64 110) ∧ Below w.heap.size w w' := by
  obtain ⟨c0, c1, c2, c3, c4⟩ := h.cells
  have d1 : (i : Int) < es.length := by omega
  have hh0 := has_in hi
  have HB : Hid (BookAt w gb gk P es cur last vic) := h
  have hent : ∀ u, Below w.heap.size w u → u.cell? ⟨gk, i * 5, none⟩ = some (.int .i64 (es.getD i Ent.zero).s) := fun u hu => ((h.below hu).entry i hi).1
  have HEN : Hid _ := hent
  obtain ⟨s, hs⟩ : ∃ s, (es.getD i Ent.zero).s = s := ⟨_, rfl⟩
  obtain ⟨M, hM⟩ : ∃ M, newestF es es.length = M := ⟨_, rfl⟩
  have HS : Hid _ := hs
  have HM : Hid _ := hM
  unfold startOk at hb
  rw [hs, hM] at hb
  clear h hent hs hM
  cases ho : openF es es.length with
  | some o =>
    have hv := openV_some ho
    have HV : Hid _ := hv
    clear hv ho hb
    go_enter Try.func42, Try.ntmps42
    go_wp2_with (first | (go_at_call 36; refine (has_any gb gk P es cur last vic _ _ HB.out hn).mono ?_; rintro e u1 ⟨rfl, rfl⟩; rw [hh0]) | (go_at_call 19; refine (open_any gb gk P es cur last vic _ HB.out hn).mono ?_; rintro e t1 ⟨rfl, q1⟩; rw [HV.out]; have Q1 : Hid _ := q1; clear q1))
    go_ret
    exact ⟨rfl, Q1.out⟩
  | none =>
    have hv := openV_none ho
    have HV : Hid _ := hv
    rw [ho] at hb
    simp only [Option.isNone_none, Bool.true_and] at hb
    clear hv ho
    by_cases s0 : s = 0
    · subst s0
      simp only [beq_self_eq_true, Bool.true_and, Bool.and_eq_false_iff, decide_eq_false_iff_not] at hb
      by_cases hmx : head ≤ 281474976710655
      · have hle : head ≤ M := by omega
        have nmx : ¬ (281474976710655 < head) := by omega
        clear hb hmx
        go_enter Try.func42, Try.ntmps42
        go_wp2_with (first | (go_at_call 36; refine (has_any gb gk P es cur last vic _ _ HB.out hn).mono ?_; rintro e u1 ⟨rfl, rfl⟩; rw [hh0]) | (go_at_call 19; refine (open_any gb gk P es cur last vic _ HB.out hn).mono ?_; rintro e t1 ⟨rfl, q1⟩; rw [HV.out]; have e0 := HEN.out _ q1; rw [HS.out] at e0; have Q1 : Hid (Below w.heap.size w t1) := q1; clear q1) | (go_at_call 69; refine (newest_any gb gk P es cur last vic _ (HB.out.below Q1.out) hn).mono ?_; rintro e t2 ⟨rfl, q2⟩; rw [HM.out]; have Q2 : Hid (Below w.heap.size w t2) := Q1.out.trans (q2.mono Q1.out.size); clear q2))
        go_ret
        exact ⟨rfl, Q2.out⟩
      · have gmx : 281474976710655 < head := by omega
        clear hb hmx
        go_enter Try.func42, Try.ntmps42
        go_wp2_with (first | (go_at_call 36; refine (has_any gb gk P es cur last vic _ _ HB.out hn).mono ?_; rintro e u1 ⟨rfl, rfl⟩; rw [hh0]) | (go_at_call 19; refine (open_any gb gk P es cur last vic _ HB.out hn).mono ?_; rintro e t1 ⟨rfl, q1⟩; rw [HV.out]; have e0 := HEN.out _ q1; rw [HS.out] at e0; have Q1 : Hid (Below w.heap.size w t1) := q1; clear q1))
        go_ret
        exact ⟨rfl, Q1.out⟩
    · have s0b : (s != 0) = true := by simpa using s0
      clear hb
      go_enter Try.func42, Try.ntmps42
      go_wp2_with (first | (go_at_call 36; refine (has_any gb gk P es cur last vic _ _ HB.out hn).mono ?_; rintro e u1 ⟨rfl, rfl⟩; rw [hh0]) | (go_at_call 19; refine (open_any gb gk P es cur last vic _ HB.out hn).mono ?_; rintro e t1 ⟨rfl, q1⟩; rw [HV.out]; have e0 := HEN.out _ q1; rw [HS.out] at e0; have Q1 : Hid (Below w.heap.size w t1) := q1; clear q1))
      go_ret
      exact ⟨rfl, Q1.out⟩
theorem BookAt.put4' {w : World} {gb gk : Nat} {P : Int} {es : List Ent} {cur last vic : Int} (h : BookAt w gb gk P es cur last vic) (i : Nat) (hi : i < es.length) (s hd : Int) (r : Bool) (l : Int) :
    BookAt ((((w.setCell ⟨gk, i * 5, none⟩ (.int .i64 s)).setCell ⟨gk, i * 5 + 1, none⟩ (.int .u64 hd)).setCell ⟨gk, i * 5 + 2, none⟩ (.bool r)).setCell ⟨gk, i * 5 + 3, none⟩ (.int .i64 l)) gb gk P (es.set i ⟨s, hd, r, l, (es.getD i Ent.zero).left⟩) cur last vic := h.put4 i hi ⟨s, hd, r, l, (es.getD i Ent.zero).left⟩ rfl

set_option maxHeartbeats 1000000 in
theorem start_ok (gb gk : Nat) (P : Int) (es : List Ent) (cur last vic : Int) (i : Nat) (head : Int) (w : World) (h : BookAt w gb gk P es cur last vic) (hn : es.length ≤ 5000) (hi : i < es.length) (hb : startOk es i head = true) :
    Calls Try.prog 42 #[.pointer (some ⟨gb, 0, none⟩), .int .i64 i, .int .u64 head] w fun e w' => e = .returned (.int .i64 0) ∧ BookAt w' gb gk P (es.set i ⟨2, head, false, 0, (es.getD i Ent.zero).left⟩) cur last vic ∧ w.grownBy w' (some gk) := by
  obtain ⟨c0, c1, c2, c3, c4⟩ := h.cells
  have d1 : (i : Int) < es.length := by omega
  have hh0 := has_in hi
  have HB : Hid (BookAt w gb gk P es cur last vic) := h
  unfold startOk at hb
  simp only [Bool.and_eq_true, decide_eq_true_eq, beq_iff_eq, Option.isNone_iff_eq_none] at hb
  obtain ⟨⟨⟨ho, hs⟩, hmx⟩, hnw⟩ := hb
  obtain ⟨M, hM⟩ : ∃ M, newestF es es.length = M := ⟨_, rfl⟩
  rw [hM] at hnw
  have HS : Hid _ := hs
  have HM : Hid _ := hM
  have HV : Hid _ := openV_none ho
  have nmx : ¬ (281474976710655 < head) := by omega
  have nnw : ¬ (head ≤ M) := by omega
  clear h ho hs hM
  go_enter Try.func42, Try.ntmps42
  go_wp2_with (first | (go_at_call 36; refine (has_any gb gk P es cur last vic _ _ HB.out hn).mono ?_; rintro e u1 ⟨rfl, rfl⟩; rw [hh0]) | (go_at_call 19; refine (open_any gb gk P es cur last vic _ HB.out hn).mono ?_; rintro e t1 ⟨rfl, q1⟩; rw [HV.out]; have e0 := ((HB.out.below q1).entry i hi).1; rw [HS.out] at e0; have Q1 : Hid (Below w.heap.size w t1) := q1; clear q1) | (go_at_call 69; refine (newest_any gb gk P es cur last vic _ (HB.out.below Q1.out) hn).mono ?_; rintro e t2 ⟨rfl, q2⟩; rw [HM.out]; have Q2 : Hid (Below w.heap.size w t2) := Q1.out.trans (q2.mono Q1.out.size); have hB2 := HB.out.below Q2.out; obtain ⟨m0, m1, m2, m3, _⟩ := hB2.entry i hi; have f0 := hB2.free (i * 5); have f1 := hB2.free (i * 5 + 1); have f2 := hB2.free (i * 5 + 2); have f3 := hB2.free (i * 5 + 3); have HP : Hid _ := hB2.put4' i hi 2 head false 0; clear q2 hB2))
  go_ret
  exact ⟨rfl, HP.out, grownBy_trans (grown_of Q2.out _) (over_grown _ _ _ _ _ _ _ _ _ _)⟩

set_option maxHeartbeats 1000000 in
theorem real_any (gb gk : Nat) (P : Int) (es : List Ent) (cur last vic : Int) (w : World) (h : BookAt w gb gk P es cur last vic) (hn : es.length ≤ 5000) :
    Calls Try.prog 43 #[.pointer (some ⟨gb, 0, none⟩)] w fun e w' => match openF es es.length with
      | none => e = .returned (.int .i64 110) ∧ Below w.heap.size w w'
      | some o => e = .returned (.int .i64 0) ∧ BookAt w' gb gk P (es.set o { es.getD o Ent.zero with r := true }) cur last vic ∧ w.grownBy w' (some gk) := by
  have HB : Hid (BookAt w gb gk P es cur last vic) := h
  clear h
  cases ho : openF es es.length with
  | none =>
    have HV : Hid _ := openV_none ho
    clear ho
    go_enter Try.func43, Try.ntmps43
    go_wp2_with (first | (go_at_call 19; refine (open_any gb gk P es cur last vic _ HB.out hn).mono ?_; rintro e t1 ⟨rfl, q1⟩; rw [HV.out]; have Q1 : Hid (Below w.heap.size w t1) := q1; clear q1))
    go_ret
    exact ⟨rfl, Q1.out⟩
  | some o =>
    have HV : Hid _ := openV_some ho
    obtain ⟨hol, _⟩ := openF_some ho
    have d1 : (o : Int) < es.length := by omega
    clear ho
    go_enter Try.func43, Try.ntmps43
    go_wp2_with (first | (go_at_call 19; refine (open_any gb gk P es cur last vic _ HB.out hn).mono ?_; rintro e t1 ⟨rfl, q1⟩; rw [HV.out]; have hB1 := HB.out.below q1; obtain ⟨c0, c1, c2, c3, c4⟩ := hB1.cells; obtain ⟨m0, m1, m2, m3, m4⟩ := hB1.entry o hol; have f2 := hB1.free (o * 5 + 2); have HP : Hid _ := hB1.setR o hol true; have Q1 : Hid (Below w.heap.size w t1) := q1; clear q1 hB1))
    go_ret
    exact ⟨rfl, HP.out, grownBy_trans (grown_of Q1.out _) (grown_set _ _ _ _)⟩
set_option maxHeartbeats 1000000 in
theorem wait_any (gb gk : Nat) (P : Int) (es : List Ent) (cur last vic : Int) (w : World) (h : BookAt w gb gk P es cur last vic) (hn : es.length ≤ 5000) :
    Calls Try.prog 45 #[.pointer (some ⟨gb, 0, none⟩)] w fun e w' => match openF es es.length with
      | none => e = .returned (.int .i64 110) ∧ Below w.heap.size w w'
      | some o => e = .returned (.int .i64 0) ∧ BookAt w' gb gk P (es.set o { es.getD o Ent.zero with s := 4 }) cur last vic ∧ w.grownBy w' (some gk) := by
  have HB : Hid (BookAt w gb gk P es cur last vic) := h
  clear h
  cases ho : openF es es.length with
  | none =>
    have HV : Hid _ := openV_none ho
    clear ho
    go_enter Try.func45, Try.ntmps45
    go_wp2_with (first | (go_at_call 19; refine (open_any gb gk P es cur last vic _ HB.out hn).mono ?_; rintro e t1 ⟨rfl, q1⟩; rw [HV.out]; have Q1 : Hid (Below w.heap.size w t1) := q1; clear q1))
    go_ret
    exact ⟨rfl, Q1.out⟩
  | some o =>
    have HV : Hid _ := openV_some ho
    obtain ⟨hol, _⟩ := openF_some ho
    have d1 : (o : Int) < es.length := by omega
    clear ho
    go_enter Try.func45, Try.ntmps45
    go_wp2_with (first | (go_at_call 19; refine (open_any gb gk P es cur last vic _ HB.out hn).mono ?_; rintro e t1 ⟨rfl, q1⟩; rw [HV.out]; have hB1 := HB.out.below q1; obtain ⟨c0, c1, c2, c3, c4⟩ := hB1.cells; obtain ⟨m0, m1, m2, m3, m4⟩ := hB1.entry o hol; have f2 := hB1.free (o * 5); have HP : Hid _ := hB1.setS o hol 4; have Q1 : Hid (Below w.heap.size w t1) := q1; clear q1 hB1))
    go_ret
    exact ⟨rfl, HP.out, grownBy_trans (grown_of Q1.out _) (grown_set _ _ _ _)⟩
set_option maxHeartbeats 1000000 in
theorem shut_any (gb gk : Nat) (P : Int) (es : List Ent) (cur last vic : Int) (w : World) (h : BookAt w gb gk P es cur last vic) (hn : es.length ≤ 5000) :
    Calls Try.prog 44 #[.pointer (some ⟨gb, 0, none⟩)] w fun e w' => match openF es es.length with
      | none => e = .returned (.int .i64 110) ∧ Below w.heap.size w w'
      | some o => e = .returned (.int .i64 0) ∧ BookAt w' gb gk P (settleE (es.set o { es.getD o Ent.zero with s := 1 }) last vic o) cur last vic ∧ w.grownBy w' (some gk) := by
  have HB : Hid (BookAt w gb gk P es cur last vic) := h
  clear h
  cases ho : openF es es.length with
  | none =>
    have HV : Hid _ := openV_none ho
    clear ho
    go_enter Try.func44, Try.ntmps44
    go_wp2_with (first | (go_at_call 19; refine (open_any gb gk P es cur last vic _ HB.out hn).mono ?_; rintro e t1 ⟨rfl, q1⟩; rw [HV.out]; have Q1 : Hid (Below w.heap.size w t1) := q1; clear q1))
    go_ret
    exact ⟨rfl, Q1.out⟩
  | some o =>
    have HV : Hid _ := openV_some ho
    obtain ⟨hol, _⟩ := openF_some ho
    have d1 : (o : Int) < es.length := by omega
    clear ho
    go_enter Try.func44, Try.ntmps44
    go_wp2_with (first | (go_at_call 19; refine (open_any gb gk P es cur last vic _ HB.out hn).mono ?_; rintro e t1 ⟨rfl, q1⟩; rw [HV.out]; have hB1 := HB.out.below q1; obtain ⟨c0, c1, c2, c3, c4⟩ := hB1.cells; obtain ⟨m0, m1, m2, m3, m4⟩ := hB1.entry o hol; have f2 := hB1.free (o * 5); have HP : Hid _ := hB1.setS o hol 1; have Q1 : Hid (Below w.heap.size w t1) := q1; clear q1 hB1) | (go_at_call 41; refine (settle_any gb gk P _ cur last vic o _ HP.out (by simpa using hol) (by simpa using hn)).mono ?_; rintro e t2 ⟨rfl, b2, g2⟩; have B2 : Hid _ := b2; have G2 : Hid _ := g2; clear b2 g2))
    go_ret
    exact ⟨rfl, B2.out, grownBy_trans (grownBy_trans (grown_of Q1.out _) (grown_set _ _ _ _)) G2.out⟩
end Go.Proofs.Ytgijbpkfheillaa
