/-
  SEAT Ytgijbpkfheillaa: the reference's Leave refused, Start, Pick.
-/
import Derived.Test.YtgijbpkfheillaaPlG
namespace Go.Proofs.Ytgijbpkfheillaa
open Go.RowKit
set_option linter.unusedVariables false

set_option maxHeartbeats 2000000 in
theorem rleave_bad (gr gl g c : Nat) (P : Int) (es : List Ent) (cur last vic : Int) (i : Nat) (w : World) (h : RefB w gr gl g c P es cur last vic) (hn : es.length ≤ 5000) (hi : i < es.length) (hlf : (es.getD i Ent.zero).left = true → (es.getD i Ent.zero).s = 4)
    (hb : candE (es.getD i Ent.zero) = false ∨ (es.getD i Ent.zero).l ≠ 0) :
    Calls Try.prog 62 #[.pointer (some ⟨gr, 0, none⟩), .int .i64 i] w fun e w' => e = .returned (.int .i64 110) ∧ Below w.heap.size w w' := by
  obtain ⟨c0, c1, c2, c3, c4, c5⟩ := h.cells
  obtain ⟨e0, e1, e2, e3⟩ := h.entry i hi
  have y0 := h.leftC i hi
  have HB : Hid (RefB w gr gl g c P es cur last vic) := h
  have hh := has_in hi
  have d1 : (i : Int) < es.length := by omega
  obtain ⟨X, hX⟩ : ∃ X, es.getD i Ent.zero = X := ⟨_, rfl⟩
  have HX : Hid _ := hX
  rw [hX] at e0 e1 e2 e3 y0 hb hlf
  obtain ⟨s, hd, r, l, lf⟩ := X
  simp only at e0 e1 e2 e3 y0 hlf hb
  have HA : Hid (Below w.heap.size w (w.alloc (.cells #[.int .i64 s, .int .u64 hd, .bool r, .int .i64 l] 34))) := ba (Below.refl _ _)
  have hA := HB.out.below HA.out
  obtain ⟨k0, k1, k2, k3, k4, k5⟩ := hA.cells
  have z0 := hA.leftC i hi
  rw [HX.out] at z0
  simp only at z0
  clear h hX hA
  by_cases s14 : s = 1 ∨ s = 4
  · cases lf with
    | true =>
      have s4 : s = 4 := hlf rfl
      subst s4
      clear hb
      go_enter Try.func62, Try.ntmps62
      go_wp2_with (first | (go_at_call 64; refine (rin_any gr gl g c P es cur last vic _ _ HB.out hn).mono ?_; rintro e u1 ⟨rfl, rfl⟩; rw [hh]))
      go_ret
      exact ⟨rfl, HA.out⟩
    | false =>
      have hl : l ≠ 0 := by
        rcases hb with q | q
        · exfalso
          have : candE ⟨s, hd, r, l, false⟩ = true := cand_of.2 ⟨log_of (by rcases s14 with q | q <;> simp [q]), by simp only; omega⟩
          rw [this] at q
          cases q
        · exact q
      have hlb : (l != 0) = true := by simpa using hl
      clear hb hl
      rcases s14 with rfl | rfl
      · go_enter Try.func62, Try.ntmps62
        go_wp2_with (first | (go_at_call 64; refine (rin_any gr gl g c P es cur last vic _ _ HB.out hn).mono ?_; rintro e u1 ⟨rfl, rfl⟩; rw [hh]))
        go_ret
        exact ⟨rfl, HA.out⟩
      · go_enter Try.func62, Try.ntmps62
        go_wp2_with (first | (go_at_call 64; refine (rin_any gr gl g c P es cur last vic _ _ HB.out hn).mono ?_; rintro e u1 ⟨rfl, rfl⟩; rw [hh]))
        go_ret
        exact ⟨rfl, HA.out⟩
  · have s1b : (s != 1) = true := by simp; omega
    have s4b : (s != 4) = true := by simp; omega
    clear hb s14
    go_enter Try.func62, Try.ntmps62
    go_wp2_with (first | (go_at_call 64; refine (rin_any gr gl g c P es cur last vic _ _ HB.out hn).mono ?_; rintro e u1 ⟨rfl, rfl⟩; rw [hh]))
    go_ret
    exact ⟨rfl, HA.out⟩

set_option maxHeartbeats 2000000 in
theorem rstart_bad (gr gl g c : Nat) (P : Int) (es : List Ent) (cur last vic : Int) (i : Nat) (head : Int) (w : World) (h : RefB w gr gl g c P es cur last vic) (hn : es.length ≤ 5000) (hi : i < es.length) (hh0 : 0 ≤ head) (hb : startOk es i head = false) :
    Calls Try.prog 56 #[.pointer (some ⟨gr, 0, none⟩), .int .i64 i, .int .u64 head] w fun e w' => e = .returned (.int .i64 110) ∧ w = w' := by
  obtain ⟨c0, c1, c2, c3, c4, c5⟩ := h.cells
  obtain ⟨e0, _, _, _⟩ := h.entry i hi
  have HB : Hid (RefB w gr gl g c P es cur last vic) := h
  have hh := has_in hi
  have d1 : (i : Int) < es.length := by omega
  obtain ⟨s, hs⟩ : ∃ s, (es.getD i Ent.zero).s = s := ⟨_, rfl⟩
  rw [hs] at e0
  unfold startOk at hb
  rw [hs] at hb
  have HNW : Hid (∀ k, 0 < head → (∀ j, j < k → (es.getD j Ent.zero).h < head) → newestF es k < head) := fun k h0 hk => (newestF_le es k head h0).2 hk
  clear h hs
  cases ho : openF es es.length with
  | some o =>
    have HV : Hid _ := openV_some ho
    clear ho hb
    by_cases s0 : s = 0
    · subst s0
      go_enter Try.func56, Try.ntmps56
      go_wp2_with (first | (go_at_call 64; refine (rin_any gr gl g c P es cur last vic _ _ HB.out hn).mono ?_; rintro e u1 ⟨rfl, rfl⟩; rw [hh]) | (go_at_call 51; refine (ropen_any gr gl g c P es cur last vic _ HB.out hn).mono ?_; rintro e t1 ⟨rfl, rfl⟩; rw [HV.out]))
      go_ret
      exact ⟨rfl, rfl⟩
    · have s0b : (s != 0) = true := by simpa using s0
      go_enter Try.func56, Try.ntmps56
      go_wp2_with (first | (go_at_call 64; refine (rin_any gr gl g c P es cur last vic _ _ HB.out hn).mono ?_; rintro e u1 ⟨rfl, rfl⟩; rw [hh]) | (go_at_call 51; refine (ropen_any gr gl g c P es cur last vic _ HB.out hn).mono ?_; rintro e t1 ⟨rfl, rfl⟩; rw [HV.out]))
      go_ret
      exact ⟨rfl, rfl⟩
  | none =>
    have HV : Hid _ := openV_none ho
    rw [ho] at hb
    simp only [Option.isNone_none, Bool.true_and] at hb
    clear ho
    by_cases s0 : s = 0
    · subst s0
      simp only [beq_self_eq_true, Bool.true_and, Bool.and_eq_false_iff, decide_eq_false_iff_not] at hb
      by_cases h1 : head < 1
      · clear hb
        go_enter Try.func56, Try.ntmps56
        go_wp2_with (first | (go_at_call 64; refine (rin_any gr gl g c P es cur last vic _ _ HB.out hn).mono ?_; rintro e u1 ⟨rfl, rfl⟩; rw [hh]) | (go_at_call 51; refine (ropen_any gr gl g c P es cur last vic _ HB.out hn).mono ?_; rintro e t1 ⟨rfl, rfl⟩; rw [HV.out]))
        go_ret
        exact ⟨rfl, rfl⟩
      · by_cases hmx : head ≤ 281474976710655
        · have hle : ¬ (newestF es es.length < head) := by omega
          have HLE : Hid _ := hle
          have nmx : ¬ (281474976710655 < head) := by omega
          clear hb hmx hle
          go_enter Try.func56, Try.ntmps56
          go_wp2_with (first | (go_at_call 64; refine (rin_any gr gl g c P es cur last vic _ _ HB.out hn).mono ?_; rintro e u1 ⟨rfl, rfl⟩; rw [hh]) | (go_at_call 51; refine (ropen_any gr gl g c P es cur last vic _ HB.out hn).mono ?_; rintro e t1 ⟨rfl, rfl⟩; rw [HV.out]))
          go_loopw [9] (fun s9 wr => ∃ k : Nat, k ≤ es.length ∧ s9 = .int .i64 k ∧ Hid (∀ j, j < k → (es.getD j Ent.zero).h < head) ∧ w = wr)
            (fun i _ => es.length - (intOf i).toNat)
          case atStart => exact ⟨0, Nat.zero_le _, rfl, fun j hj => absurd hj (Nat.not_lt_zero _), rfl⟩
          case round =>
            obtain ⟨k, hk, rfl, HJ, rfl⟩ := hrel
            by_cases hlt : k < es.length
            · obtain ⟨_, y1, _, _⟩ := HB.out.entry k hlt
              obtain ⟨x, hx⟩ : ∃ x, (es.getD k Ent.zero).h = x := ⟨_, rfl⟩
              rw [hx] at y1
              have HX : Hid _ := hx
              have dk : (k : Int) < es.length := by omega
              clear hx
              by_cases hxh : head ≤ x
              · go_wp2
                go_ret
                exact ⟨rfl, by first | trivial | rfl⟩
              · go_wp2
                go_roundw
                case rel => exact ⟨k + 1, by omega, by go_num, fun j hj => by
                  by_cases q : j = k
                  · subst q; rw [HX.out]; omega
                  · exact HJ.out j (by omega), by first | trivial | rfl⟩
                case measure => simp [intOf]; omega
            · have hkn : k = es.length := by omega
              exact absurd (HNW.out es.length (by omega) (by rw [← hkn]; exact HJ.out)) HLE.out
        · have gmx : 281474976710655 < head := by omega
          clear hb hmx
          go_enter Try.func56, Try.ntmps56
          go_wp2_with (first | (go_at_call 64; refine (rin_any gr gl g c P es cur last vic _ _ HB.out hn).mono ?_; rintro e u1 ⟨rfl, rfl⟩; rw [hh]) | (go_at_call 51; refine (ropen_any gr gl g c P es cur last vic _ HB.out hn).mono ?_; rintro e t1 ⟨rfl, rfl⟩; rw [HV.out]))
          go_ret
          exact ⟨rfl, rfl⟩
    · have s0b : (s != 0) = true := by simpa using s0
      clear hb
      go_enter Try.func56, Try.ntmps56
      go_wp2_with (first | (go_at_call 64; refine (rin_any gr gl g c P es cur last vic _ _ HB.out hn).mono ?_; rintro e u1 ⟨rfl, rfl⟩; rw [hh]) | (go_at_call 51; refine (ropen_any gr gl g c P es cur last vic _ HB.out hn).mono ?_; rintro e t1 ⟨rfl, rfl⟩; rw [HV.out]))
      go_ret
      exact ⟨rfl, rfl⟩
set_option maxHeartbeats 2000000 in
theorem rstart_ok (gr gl g c : Nat) (P : Int) (es : List Ent) (cur last vic : Int) (i : Nat) (head : Int) (w : World) (h : RefB w gr gl g c P es cur last vic) (hn : es.length ≤ 5000) (hi : i < es.length) (hh0 : 0 ≤ head) (hb : startOk es i head = true) :
    Calls Try.prog 56 #[.pointer (some ⟨gr, 0, none⟩), .int .i64 i, .int .u64 head] w fun e w' => e = .returned (.int .i64 0) ∧ RefB w' gr gl g c P (es.set i ⟨2, head, false, 0, (es.getD i Ent.zero).left⟩) cur last vic ∧ RGrew w w' gr gl g := by
  obtain ⟨c0, c1, c2, c3, c4, c5⟩ := h.cells
  obtain ⟨e0, e1, e2, e3⟩ := h.entry i hi
  have HB : Hid (RefB w gr gl g c P es cur last vic) := h
  have hh := has_in hi
  have d1 : (i : Int) < es.length := by omega
  unfold startOk at hb
  simp only [Bool.and_eq_true, decide_eq_true_eq, beq_iff_eq, Option.isNone_iff_eq_none] at hb
  obtain ⟨⟨⟨ho, hs⟩, hmx⟩, hnw⟩ := hb
  have hpos : 0 < head := by
    have : ∀ k, 0 ≤ newestF es k := fun k => by
      induction k with
      | zero => exact Int.le_refl _
      | succ k ih => rw [newestF]; omega
    have := this es.length
    omega
  have HAL : Hid (∀ j, j < es.length → (es.getD j Ent.zero).h < head) := (newestF_le es es.length head hpos).1 hnw
  rw [hs] at e0
  have HV : Hid _ := openV_none ho
  have nmx : ¬ (281474976710655 < head) := by omega
  have n1 : ¬ (head < 1) := by omega
  obtain ⟨L, hL⟩ : ∃ L, (es.getD i Ent.zero).left = L := ⟨_, rfl⟩
  have hp := h.put4 i hi 2 head false 0
  rw [hL] at hp ⊢
  have HP : Hid _ := hp
  obtain ⟨_, _, f0⟩ := h.free (i * 4)
  obtain ⟨_, _, f1⟩ := h.free (i * 4 + 1)
  obtain ⟨_, _, f2⟩ := h.free (i * 4 + 2)
  obtain ⟨_, _, f3⟩ := h.free (i * 4 + 3)
  clear h ho hs hnw hL hp
  go_enter Try.func56, Try.ntmps56
  go_wp2_with (first | (go_at_call 64; refine (rin_any gr gl g c P es cur last vic _ _ HB.out hn).mono ?_; rintro e u1 ⟨rfl, rfl⟩; rw [hh]) | (go_at_call 51; refine (ropen_any gr gl g c P es cur last vic _ HB.out hn).mono ?_; rintro e t1 ⟨rfl, rfl⟩; rw [HV.out]))
  go_loopw [9] (fun s9 wr => ∃ k : Nat, k ≤ es.length ∧ s9 = .int .i64 k ∧ w = wr)
    (fun i _ => es.length - (intOf i).toNat)
  case atStart => exact ⟨0, Nat.zero_le _, rfl, rfl⟩
  case round =>
    obtain ⟨k, hk, rfl, rfl⟩ := hrel
    by_cases hlt : k < es.length
    · obtain ⟨_, y1, _, _⟩ := HB.out.entry k hlt
      have hx9 := HAL.out k hlt
      obtain ⟨x, hx⟩ : ∃ x, (es.getD k Ent.zero).h = x := ⟨_, rfl⟩
      rw [hx] at y1 hx9
      have dk : (k : Int) < es.length := by omega
      have nx : ¬ (head ≤ x) := by omega
      clear hx
      go_wp2
      go_roundw
      case rel => exact ⟨k + 1, by omega, by go_num, by first | trivial | rfl⟩
      case measure => simp [intOf]; omega
    · have hkn : k = es.length := by omega
      subst hkn
      go_wp2
      go_ret
      exact ⟨rfl, HP.out, RGrew.of (over_grown _ g _ _ _ _ _ _ _ _) (by simp)⟩
set_option maxHeartbeats 2000000 in
theorem rpick_any (gr gl g c : Nat) (P : Int) (es : List Ent) (cur last vic : Int) (w : World) (h : RefB w gr gl g c P es cur last vic) (hn : es.length ≤ 5000) (hn0 : 0 < es.length) (hc : -1 ≤ cur) (hc2 : cur < es.length) :
    Calls Try.prog 55 #[.pointer (some ⟨gr, 0, none⟩)] w fun e w' =>
      (∃ i, i < es.length ∧ (es.getD (nthB es.length cur i) Ent.zero).s = 0 ∧ (∀ j, j < i → (es.getD (nthB es.length cur j) Ent.zero).s ≠ 0) ∧ e = .returned (.tuple #[.int .i64 (nthB es.length cur i : Nat), .bool true]) ∧ RefB w' gr gl g c P es (nthB es.length cur i : Nat) last vic ∧ RGrew w w' gr gl g) ∨
      ((∀ j, j < es.length → (es.getD (nthB es.length cur j) Ent.zero).s ≠ 0) ∧ e = .returned (.tuple #[.int .i64 0, .bool false]) ∧ w = w') := by
  obtain ⟨c0, c1, c2, c3, c4, c5⟩ := h.cells
  have HB : Hid (RefB w gr gl g c P es cur last vic) := h
  obtain ⟨f3, _, _⟩ := h.free 3
  clear h
  go_enter Try.func55, Try.ntmps55
  go_wp2
  go_loopw [5, 6] (fun s5 s6 wr => ∃ k : Nat, k ≤ es.length ∧ s5 = .int .i64 ((k : Int) + 1) ∧ Hid (∀ j, j < k → (es.getD (nthB es.length cur j) Ent.zero).s ≠ 0) ∧ w = wr)
    (fun i _ _ => es.length + 1 - (intOf i).toNat)
  case atStart => exact ⟨0, Nat.zero_le _, rfl, fun j hj => absurd hj (Nat.not_lt_zero _), rfl⟩
  case round =>
    obtain ⟨k, hk, rfl, HJ, rfl⟩ := hrel
    by_cases hlt : k < es.length
    · have hmod := nth_mod es.length cur k hn0 hc
      rw [show cur + 1 + (k : Int) = cur + ((k : Int) + 1) by omega] at hmod
      have hlt2 := nth_lt es.length cur k hn0
      have hm1 : cur = -1 → nthB es.length cur k = k := fun e => by
        unfold nthB
        rw [e]
        simp
        exact Nat.mod_eq_of_lt hlt
      obtain ⟨t, ht⟩ : ∃ t, nthB es.length cur k = t := ⟨_, rfl⟩
      rw [ht] at hmod hlt2 hm1
      obtain ⟨x0, _, _, _⟩ := HB.out.entry t hlt2
      obtain ⟨s, hs⟩ : ∃ s, (es.getD t Ent.zero).s = s := ⟨_, rfl⟩
      rw [hs] at x0
      have HT : Hid (nthB es.length cur k = t) := ht
      have HS : Hid ((es.getD t Ent.zero).s = s) := hs
      have d1 : (k : Int) + 1 ≤ es.length := by omega
      have d2 : (t : Int) < es.length := by omega
      have d4 : IntKind.i64.wrap (cur + ((k : Int) + 1)) = cur + ((k : Int) + 1) := by rw [IntKind.wrap_i64]; omega
      have d5 : ¬ (es.length = 0) := by omega
      have HP : Hid _ := HB.out.setCur (t : Int)
      clear ht hs
      go_upto_if 29 with fail
      go_cut [6] (fun s6 wx => s6 = .int .i64 (t : Int) ∧ w = wx)
      case first =>
        by_cases cm : cur = -1
        · have e1 := hm1 cm
          have cmb : (cur == -1) = true := by simpa using cm
          subst e1
          clear hm1 cm
          go_wp2
          go_meet
          exact ⟨by first | rfl | simp, by first | trivial | rfl⟩
        · have cmb : (cur == -1) = false := by simpa using cm
          clear hm1
          go_wp2
          go_meet
          exact ⟨by first | rfl | rw [hmod], by first | trivial | rfl⟩
      case rest =>
      obtain ⟨rfl, rfl⟩ := hcut
      clear hm1
      by_cases s0 : s = 0
      · subst s0
        go_wp2
        go_ret2
        exact Or.inl ⟨k, hlt, by rw [HT.out]; exact HS.out, HJ.out, by rw [HT.out]; rfl, by rw [HT.out]; exact HP.out, RGrew.of (grown_set _ gr _ _) (by simp)⟩
      · have s0b : (s == 0) = false := by simpa using s0
        go_wp2
        go_roundw
        case rel => exact ⟨k + 1, by omega, by go_num, fun j hj => by
          by_cases q : j = k
          · subst q; rw [HT.out, HS.out]; exact s0
          · exact HJ.out j (by omega), by first | trivial | rfl⟩
        case measure => simp [intOf]; omega
    · have hkn : k = es.length := by omega
      subst hkn
      have d1 : ¬ ((es.length : Int) + 1 ≤ es.length) := by omega
      go_wp2
      go_ret2
      exact Or.inr ⟨HJ.out, rfl, by first | trivial | rfl⟩
end Go.Proofs.Ytgijbpkfheillaa
