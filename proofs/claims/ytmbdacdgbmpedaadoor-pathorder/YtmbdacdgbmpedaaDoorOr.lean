/-
  SEAT YtmbdacdgbmpedaaDoor: PathOrder's walk.
-/
import Derived.Test.YtmbdacdgbmpedaaDoorG
namespace Go.Proofs.YtmbdacdgbmpedaaDoor
open Go.RowKit
set_option linter.unusedVariables false

/-- A path of which Within can tell. -/
def okW (s : ByteArray) : Prop := spE s = 0 ∧ (clN s).any upB = false
theorem wi_ok (s t : ByteArray) : wiE s t = 0 ↔ okW s ∧ okW t := by
  unfold wiE okW clN
  by_cases h1 : spE s = 0
  · rw [if_pos h1]
    by_cases h2 : spE t = 0
    · rw [if_pos h2]
      cases hu : (trim (spN s)).any upB <;> cases hv : (trim (spN t)).any upB <;> simp [h1, h2]
    · rw [if_neg h2]; simp [h2]
  · rw [if_neg h1]; simp [h1]
theorem wi_bool {s t : ByteArray} (h : wiE s t = 0) : wiB s t = preB (clN t) (clN s) := by simp [wiB, h, clN]
theorem wi_bad {s t : ByteArray} (h : wiE s t ≠ 0) : wiB s t = false := by simp [wiB, h]
theorem pre_iff (M L : List ByteArray) : preB M L = true ↔ M <+: L := by
  unfold preB
  rw [decide_eq_true_eq, List.prefix_iff_eq_take]
  exact eq_comm
theorem cl_inj {s t : ByteArray} (hs : spE s = 0) (ht : spE t = 0) : clS s = clS t ↔ clN s = clN t := by
  constructor
  · intro h
    simp only [clS, hs, ht, if_true] at h
    have h1 := nm_tg (clN s) (fun x hx => (cl_mem hs hx).2.2.1) (fun x hx => (cl_mem hs hx).1)
    have h2 := nm_tg (clN t) (fun x hx => (cl_mem ht hx).2.2.1) (fun x hx => (cl_mem ht hx).1)
    rw [← h1, h, h2]
  · intro h; simp only [clS, hs, ht, if_true, h]
theorem root_sp : spE ⟨#[47]⟩ = 0 ∧ clN ⟨#[47]⟩ = [] := by decide +kernel

/-- All that PathOrder asks, by cases. -/
theorem order_ways (a b c : ByteArray) :
    (wiE a b ≠ 0 ∧ wiE b a ≠ 0 ∧ ((wiE a a = 0 ∧ wiE a ⟨#[47]⟩ = 0 ∧ wiB a ⟨#[47]⟩ = true) ∨ (wiE a a ≠ 0 ∧ wiE a ⟨#[47]⟩ ≠ 0 ∧ wiB a ⟨#[47]⟩ = false))) ∨
    ((wiE a b = 0 ∧ wiE b a = 0 ∧ wiE a a = 0 ∧ wiB a a = true ∧ spE a = 0 ∧ spE b = 0 ∧ wiE a ⟨#[47]⟩ = 0 ∧ wiB a ⟨#[47]⟩ = true) ∧
      ((wiB a b = true ∧ wiB b a = true ∧ clS a = clS b) ∨ (wiB a b = true ∧ wiB b a = false ∧ clS a ≠ clS b) ∨ (wiB a b = false ∧ clS a ≠ clS b)) ∧
      (wiE b c ≠ 0 ∨ (wiE b c = 0 ∧ wiE a c = 0 ∧ (wiB a b = true → wiB b c = true → wiB a c = true)))) := by
  have hr := wi_ok a ⟨#[47]⟩
  have hroot : okW ⟨#[47]⟩ := ⟨root_sp.1, by rw [root_sp.2]; rfl⟩
  have hrt : okW a → wiE a ⟨#[47]⟩ = 0 ∧ wiB a ⟨#[47]⟩ = true := fun h => by
    have h0 := hr.2 ⟨h, hroot⟩
    refine ⟨h0, ?_⟩
    rw [wi_bool h0, root_sp.2]; rfl
  by_cases h : okW a ∧ okW b
  · obtain ⟨ha, hb⟩ := h
    have e1 := (wi_ok a b).2 ⟨ha, hb⟩
    have e2 := (wi_ok b a).2 ⟨hb, ha⟩
    have e3 := (wi_ok a a).2 ⟨ha, ha⟩
    refine Or.inr ⟨⟨e1, e2, e3, ?_, ha.1, hb.1, (hrt ha).1, (hrt ha).2⟩, ?_, ?_⟩
    · rw [wi_bool e3]; exact (pre_iff _ _).2 (List.prefix_refl _)
    · rw [wi_bool e1, wi_bool e2]
      have hx := cl_inj ha.1 hb.1
      cases h1 : preB (clN b) (clN a) with
      | false =>
        right; right
        refine ⟨rfl, fun h => ?_⟩
        rw [(hx.1 h)] at h1
        rw [(pre_iff _ _).2 (List.prefix_refl _)] at h1; cases h1
      | true =>
        cases h2 : preB (clN a) (clN b) with
        | false =>
          right; left
          refine ⟨rfl, rfl, fun h => ?_⟩
          rw [(hx.1 h)] at h2
          rw [(pre_iff _ _).2 (List.prefix_refl _)] at h2; cases h2
        | true =>
          left
          refine ⟨rfl, rfl, hx.2 ?_⟩
          have p1 := (pre_iff _ _).1 h1
          have p2 := (pre_iff _ _).1 h2
          exact p2.eq_of_length (Nat.le_antisymm p2.length_le p1.length_le)
    · by_cases hc : okW c
      · right
        have e4 := (wi_ok b c).2 ⟨hb, hc⟩
        have e5 := (wi_ok a c).2 ⟨ha, hc⟩
        refine ⟨e4, e5, ?_⟩
        rw [wi_bool e1, wi_bool e4, wi_bool e5, pre_iff, pre_iff, pre_iff]
        intro p q; exact q.trans p
      · left
        intro h; exact hc ((wi_ok b c).1 h).2
  · left
    refine ⟨fun e => h ((wi_ok a b).1 e), fun e => h (((wi_ok b a).1 e).symm), ?_⟩
    by_cases ha : okW a
    · exact Or.inl ⟨(wi_ok a a).2 ⟨ha, ha⟩, hrt ha⟩
    · have hn : wiE a ⟨#[47]⟩ ≠ 0 := fun e => ha (hr.1 e).1
      exact Or.inr ⟨fun e => ha ((wi_ok a a).1 e).1, hn, wi_bad hn⟩
/-! walks -/

set_option maxHeartbeats 4000000 in
set_option maxRecDepth 100000 in
theorem order_n0 (a b c : ByteArray) (w : World) (ha : a.size ≤ 9223372036854775807) (hb : b.size ≤ 9223372036854775807) (hc : c.size ≤ 9223372036854775807) (hE0 : wiE a b ≠ 0) (hE1 : wiE b a ≠ 0) (hE4 : wiE a a = 0) (hE5 : wiE a ⟨#[47]⟩ = 0) (hB5 : wiB a ⟨#[47]⟩ = true) :
    Calls Tryd.prog 6 #[.string a, .string b, .string c] w fun e w' => e = .returned (.bool true) ∧ Below w.heap.size w w' := by
  have hr : (⟨#[47]⟩ : ByteArray).size ≤ 9223372036854775807 := by decide
  obtain ⟨E0, gE0⟩ : ∃ E, wiE a b = E := ⟨_, rfl⟩
  rw [gE0] at hE0
  have fE0 : (E0 == 0) = false := by simpa using hE0
  obtain ⟨B0, gB0⟩ : ∃ B, wiB a b = B := ⟨_, rfl⟩
  obtain ⟨E1, gE1⟩ : ∃ E, wiE b a = E := ⟨_, rfl⟩
  rw [gE1] at hE1
  have fE1 : (E1 == 0) = false := by simpa using hE1
  obtain ⟨B1, gB1⟩ : ∃ B, wiB b a = B := ⟨_, rfl⟩
  obtain ⟨E2, gE2⟩ : ∃ E, wiE b c = E := ⟨_, rfl⟩
  obtain ⟨B2, gB2⟩ : ∃ B, wiB b c = B := ⟨_, rfl⟩
  obtain ⟨E3, gE3⟩ : ∃ E, wiE a c = E := ⟨_, rfl⟩
  obtain ⟨B3, gB3⟩ : ∃ B, wiB a c = B := ⟨_, rfl⟩
  obtain ⟨B4, gB4⟩ : ∃ B, wiB a a = B := ⟨_, rfl⟩
  obtain ⟨J, gJ⟩ : ∃ J, spE a = J := ⟨_, rfl⟩
  obtain ⟨K, gK⟩ : ∃ K, spE b = K := ⟨_, rfl⟩
  obtain ⟨X, gX⟩ : ∃ X, clS a = X := ⟨_, rfl⟩
  obtain ⟨Y, gY⟩ : ∃ Y, clS b = Y := ⟨_, rfl⟩
  have T0 : Hid True := trivial
  have T1 : Hid True := trivial
  have T2 : Hid True := trivial
  have T3 : Hid True := trivial
  have T4 : Hid True := trivial
  have T5 : Hid True := trivial
  have T6 : Hid True := trivial
  have T7 : Hid True := trivial
  go_enter Tryd.func6, Tryd.ntmps6
  go_wp2_with (first
    | (go_at_call 18; have h9 := T0; clear h9; refine (within_any a b _ ha hb).mono ?_; rintro e u0 ⟨rfl, bel⟩; rw [gB0, gE0]; have BB0 : Hid (Below w.heap.size w u0) := bel; clear bel T0)
    | (go_at_call 18; have h9 := T1; clear h9; refine (within_any b a _ hb ha).mono ?_; rintro e u1 ⟨rfl, bel⟩; rw [gB1, gE1]; have BB1 : Hid (Below u0.heap.size u0 u1) := bel; clear bel T1)
    | (go_at_call 18; have h9 := T2; clear h9; refine (within_any b c _ hb hc).mono ?_; rintro e u2 ⟨rfl, bel⟩; rw [gB2, gE2]; have BB2 : Hid (Below u1.heap.size u1 u2) := bel; clear bel T2)
    | (go_at_call 18; have h9 := T3; clear h9; refine (within_any a c _ ha hc).mono ?_; rintro e u3 ⟨rfl, bel⟩; rw [gB3, gE3]; have BB3 : Hid (Below u2.heap.size u2 u3) := bel; clear bel T3)
    | (go_at_call 18; have h9 := T4; clear h9; refine (within_any a a _ ha ha).mono ?_; rintro e u4 ⟨rfl, bel⟩; rw [gB4, hE4]; have BB4 : Hid (Below u3.heap.size u3 u4) := bel; clear bel T4)
    | (go_at_call 19; have h9 := T5; clear h9; refine (clean_any a _ ha).mono ?_; rintro e u5 ⟨rfl, bel⟩; rw [gX, gJ]; have BB5 : Hid (Below u4.heap.size u4 u5) := bel; clear bel T5)
    | (go_at_call 19; have h9 := T6; clear h9; refine (clean_any b _ hb).mono ?_; rintro e u6 ⟨rfl, bel⟩; rw [gY, gK]; have BB6 : Hid (Below u5.heap.size u5 u6) := bel; clear bel T6)
    | (go_at_call 18; have h9 := T7; clear h9; refine (within_any a ⟨#[47]⟩ _ ha hr).mono ?_; rintro e u7 ⟨rfl, bel⟩; rw [hB5, hE5]; have BB7 : Hid (Below u6.heap.size u6 u7) := bel; clear bel T7))
  go_ret
  have c0 : Below w.heap.size w u0 := BB0.out
  have c1 : Below w.heap.size w u1 := c0.trans (BB1.out.mono c0.size)
  have c2 : Below w.heap.size w u2 := c1.trans (BB2.out.mono c1.size)
  have c3 : Below w.heap.size w u3 := c2.trans (BB3.out.mono c2.size)
  have c4 : Below w.heap.size w u4 := c3.trans (BB4.out.mono c3.size)
  have c5 : Below w.heap.size w u5 := c4.trans (BB5.out.mono c4.size)
  have c6 : Below w.heap.size w u6 := c5.trans (BB6.out.mono c5.size)
  have c7 : Below w.heap.size w u7 := c6.trans (BB7.out.mono c6.size)
  exact ⟨ret_bool (by simp [*]), c7⟩

set_option maxHeartbeats 4000000 in
set_option maxRecDepth 100000 in
theorem order_nn (a b c : ByteArray) (w : World) (ha : a.size ≤ 9223372036854775807) (hb : b.size ≤ 9223372036854775807) (hc : c.size ≤ 9223372036854775807) (hE0 : wiE a b ≠ 0) (hE1 : wiE b a ≠ 0) (hE4 : wiE a a ≠ 0) (hE5 : wiE a ⟨#[47]⟩ ≠ 0) (hB5 : wiB a ⟨#[47]⟩ = false) :
    Calls Tryd.prog 6 #[.string a, .string b, .string c] w fun e w' => e = .returned (.bool true) ∧ Below w.heap.size w w' := by
  have hr : (⟨#[47]⟩ : ByteArray).size ≤ 9223372036854775807 := by decide
  obtain ⟨E0, gE0⟩ : ∃ E, wiE a b = E := ⟨_, rfl⟩
  rw [gE0] at hE0
  have fE0 : (E0 == 0) = false := by simpa using hE0
  obtain ⟨B0, gB0⟩ : ∃ B, wiB a b = B := ⟨_, rfl⟩
  obtain ⟨E1, gE1⟩ : ∃ E, wiE b a = E := ⟨_, rfl⟩
  rw [gE1] at hE1
  have fE1 : (E1 == 0) = false := by simpa using hE1
  obtain ⟨B1, gB1⟩ : ∃ B, wiB b a = B := ⟨_, rfl⟩
  obtain ⟨E2, gE2⟩ : ∃ E, wiE b c = E := ⟨_, rfl⟩
  obtain ⟨B2, gB2⟩ : ∃ B, wiB b c = B := ⟨_, rfl⟩
  obtain ⟨E3, gE3⟩ : ∃ E, wiE a c = E := ⟨_, rfl⟩
  obtain ⟨B3, gB3⟩ : ∃ B, wiB a c = B := ⟨_, rfl⟩
  obtain ⟨E4, gE4⟩ : ∃ E, wiE a a = E := ⟨_, rfl⟩
  rw [gE4] at hE4
  have fE4 : (E4 == 0) = false := by simpa using hE4
  obtain ⟨B4, gB4⟩ : ∃ B, wiB a a = B := ⟨_, rfl⟩
  obtain ⟨E5, gE5⟩ : ∃ E, wiE a ⟨#[47]⟩ = E := ⟨_, rfl⟩
  rw [gE5] at hE5
  have fE5 : (E5 == 0) = false := by simpa using hE5
  obtain ⟨J, gJ⟩ : ∃ J, spE a = J := ⟨_, rfl⟩
  obtain ⟨K, gK⟩ : ∃ K, spE b = K := ⟨_, rfl⟩
  obtain ⟨X, gX⟩ : ∃ X, clS a = X := ⟨_, rfl⟩
  obtain ⟨Y, gY⟩ : ∃ Y, clS b = Y := ⟨_, rfl⟩
  have T0 : Hid True := trivial
  have T1 : Hid True := trivial
  have T2 : Hid True := trivial
  have T3 : Hid True := trivial
  have T4 : Hid True := trivial
  have T5 : Hid True := trivial
  have T6 : Hid True := trivial
  have T7 : Hid True := trivial
  go_enter Tryd.func6, Tryd.ntmps6
  go_wp2_with (first
    | (go_at_call 18; have h9 := T0; clear h9; refine (within_any a b _ ha hb).mono ?_; rintro e u0 ⟨rfl, bel⟩; rw [gB0, gE0]; have BB0 : Hid (Below w.heap.size w u0) := bel; clear bel T0)
    | (go_at_call 18; have h9 := T1; clear h9; refine (within_any b a _ hb ha).mono ?_; rintro e u1 ⟨rfl, bel⟩; rw [gB1, gE1]; have BB1 : Hid (Below u0.heap.size u0 u1) := bel; clear bel T1)
    | (go_at_call 18; have h9 := T2; clear h9; refine (within_any b c _ hb hc).mono ?_; rintro e u2 ⟨rfl, bel⟩; rw [gB2, gE2]; have BB2 : Hid (Below u1.heap.size u1 u2) := bel; clear bel T2)
    | (go_at_call 18; have h9 := T3; clear h9; refine (within_any a c _ ha hc).mono ?_; rintro e u3 ⟨rfl, bel⟩; rw [gB3, gE3]; have BB3 : Hid (Below u2.heap.size u2 u3) := bel; clear bel T3)
    | (go_at_call 18; have h9 := T4; clear h9; refine (within_any a a _ ha ha).mono ?_; rintro e u4 ⟨rfl, bel⟩; rw [gB4, gE4]; have BB4 : Hid (Below u3.heap.size u3 u4) := bel; clear bel T4)
    | (go_at_call 19; have h9 := T5; clear h9; refine (clean_any a _ ha).mono ?_; rintro e u5 ⟨rfl, bel⟩; rw [gX, gJ]; have BB5 : Hid (Below u4.heap.size u4 u5) := bel; clear bel T5)
    | (go_at_call 19; have h9 := T6; clear h9; refine (clean_any b _ hb).mono ?_; rintro e u6 ⟨rfl, bel⟩; rw [gY, gK]; have BB6 : Hid (Below u5.heap.size u5 u6) := bel; clear bel T6)
    | (go_at_call 18; have h9 := T7; clear h9; refine (within_any a ⟨#[47]⟩ _ ha hr).mono ?_; rintro e u7 ⟨rfl, bel⟩; rw [hB5, gE5]; have BB7 : Hid (Below u6.heap.size u6 u7) := bel; clear bel T7))
  go_ret
  have c0 : Below w.heap.size w u0 := BB0.out
  have c1 : Below w.heap.size w u1 := c0.trans (BB1.out.mono c0.size)
  have c2 : Below w.heap.size w u2 := c1.trans (BB2.out.mono c1.size)
  have c3 : Below w.heap.size w u3 := c2.trans (BB3.out.mono c2.size)
  have c4 : Below w.heap.size w u4 := c3.trans (BB4.out.mono c3.size)
  have c5 : Below w.heap.size w u5 := c4.trans (BB5.out.mono c4.size)
  have c6 : Below w.heap.size w u6 := c5.trans (BB6.out.mono c5.size)
  have c7 : Below w.heap.size w u7 := c6.trans (BB7.out.mono c6.size)
  exact ⟨ret_bool (by simp [*]), c7⟩

set_option maxHeartbeats 4000000 in
set_option maxRecDepth 100000 in
theorem order_ttn (a b c : ByteArray) (w : World) (ha : a.size ≤ 9223372036854775807) (hb : b.size ≤ 9223372036854775807) (hc : c.size ≤ 9223372036854775807) (hE0 : wiE a b = 0) (hB0 : wiB a b = true) (hE1 : wiE b a = 0) (hB1 : wiB b a = true) (hE2 : wiE b c ≠ 0) (hE4 : wiE a a = 0) (hB4 : wiB a a = true) (hE5 : wiE a ⟨#[47]⟩ = 0) (hB5 : wiB a ⟨#[47]⟩ = true) (hJ : spE a = 0) (hK : spE b = 0) (hX : clS a = clS b) :
    Calls Tryd.prog 6 #[.string a, .string b, .string c] w fun e w' => e = .returned (.bool true) ∧ Below w.heap.size w w' := by
  have hr : (⟨#[47]⟩ : ByteArray).size ≤ 9223372036854775807 := by decide
  obtain ⟨E2, gE2⟩ : ∃ E, wiE b c = E := ⟨_, rfl⟩
  rw [gE2] at hE2
  have fE2 : (E2 == 0) = false := by simpa using hE2
  obtain ⟨B2, gB2⟩ : ∃ B, wiB b c = B := ⟨_, rfl⟩
  obtain ⟨E3, gE3⟩ : ∃ E, wiE a c = E := ⟨_, rfl⟩
  obtain ⟨B3, gB3⟩ : ∃ B, wiB a c = B := ⟨_, rfl⟩
  obtain ⟨X, gX⟩ : ∃ X, clS a = X := ⟨_, rfl⟩
  obtain ⟨Y, gY⟩ : ∃ Y, clS b = Y := ⟨_, rfl⟩
  rw [gX, gY] at hX
  subst hX
  have T0 : Hid True := trivial
  have T1 : Hid True := trivial
  have T2 : Hid True := trivial
  have T3 : Hid True := trivial
  have T4 : Hid True := trivial
  have T5 : Hid True := trivial
  have T6 : Hid True := trivial
  have T7 : Hid True := trivial
  go_enter Tryd.func6, Tryd.ntmps6
  go_wp2_with (first
    | (go_at_call 18; have h9 := T0; clear h9; refine (within_any a b _ ha hb).mono ?_; rintro e u0 ⟨rfl, bel⟩; rw [hB0, hE0]; have BB0 : Hid (Below w.heap.size w u0) := bel; clear bel T0)
    | (go_at_call 18; have h9 := T1; clear h9; refine (within_any b a _ hb ha).mono ?_; rintro e u1 ⟨rfl, bel⟩; rw [hB1, hE1]; have BB1 : Hid (Below u0.heap.size u0 u1) := bel; clear bel T1)
    | (go_at_call 18; have h9 := T2; clear h9; refine (within_any b c _ hb hc).mono ?_; rintro e u2 ⟨rfl, bel⟩; rw [gB2, gE2]; have BB2 : Hid (Below u1.heap.size u1 u2) := bel; clear bel T2)
    | (go_at_call 18; have h9 := T3; clear h9; refine (within_any a c _ ha hc).mono ?_; rintro e u3 ⟨rfl, bel⟩; rw [gB3, gE3]; have BB3 : Hid (Below u2.heap.size u2 u3) := bel; clear bel T3)
    | (go_at_call 18; have h9 := T4; clear h9; refine (within_any a a _ ha ha).mono ?_; rintro e u4 ⟨rfl, bel⟩; rw [hB4, hE4]; have BB4 : Hid (Below u3.heap.size u3 u4) := bel; clear bel T4)
    | (go_at_call 19; have h9 := T5; clear h9; refine (clean_any a _ ha).mono ?_; rintro e u5 ⟨rfl, bel⟩; rw [gX, hJ]; have BB5 : Hid (Below u4.heap.size u4 u5) := bel; clear bel T5)
    | (go_at_call 19; have h9 := T6; clear h9; refine (clean_any b _ hb).mono ?_; rintro e u6 ⟨rfl, bel⟩; rw [gY, hK]; have BB6 : Hid (Below u5.heap.size u5 u6) := bel; clear bel T6)
    | (go_at_call 18; have h9 := T7; clear h9; refine (within_any a ⟨#[47]⟩ _ ha hr).mono ?_; rintro e u7 ⟨rfl, bel⟩; rw [hB5, hE5]; have BB7 : Hid (Below u6.heap.size u6 u7) := bel; clear bel T7))
  go_ret
  have c0 : Below w.heap.size w u0 := BB0.out
  have c1 : Below w.heap.size w u1 := c0.trans (BB1.out.mono c0.size)
  have c2 : Below w.heap.size w u2 := c1.trans (BB2.out.mono c1.size)
  have c3 : Below w.heap.size w u3 := c2.trans (BB3.out.mono c2.size)
  have c4 : Below w.heap.size w u4 := c3.trans (BB4.out.mono c3.size)
  have c5 : Below w.heap.size w u5 := c4.trans (BB5.out.mono c4.size)
  have c6 : Below w.heap.size w u6 := c5.trans (BB6.out.mono c5.size)
  have c7 : Below w.heap.size w u7 := c6.trans (BB7.out.mono c6.size)
  exact ⟨ret_bool (by simp [*]), c7⟩

set_option maxHeartbeats 4000000 in
set_option maxRecDepth 100000 in
theorem order_ttt (a b c : ByteArray) (w : World) (ha : a.size ≤ 9223372036854775807) (hb : b.size ≤ 9223372036854775807) (hc : c.size ≤ 9223372036854775807) (hE0 : wiE a b = 0) (hB0 : wiB a b = true) (hE1 : wiE b a = 0) (hB1 : wiB b a = true) (hE2 : wiE b c = 0) (hB2 : wiB b c = true) (hE3 : wiE a c = 0) (hB3 : wiB a c = true) (hE4 : wiE a a = 0) (hB4 : wiB a a = true) (hE5 : wiE a ⟨#[47]⟩ = 0) (hB5 : wiB a ⟨#[47]⟩ = true) (hJ : spE a = 0) (hK : spE b = 0) (hX : clS a = clS b) :
    Calls Tryd.prog 6 #[.string a, .string b, .string c] w fun e w' => e = .returned (.bool true) ∧ Below w.heap.size w w' := by
  have hr : (⟨#[47]⟩ : ByteArray).size ≤ 9223372036854775807 := by decide
  obtain ⟨X, gX⟩ : ∃ X, clS a = X := ⟨_, rfl⟩
  obtain ⟨Y, gY⟩ : ∃ Y, clS b = Y := ⟨_, rfl⟩
  rw [gX, gY] at hX
  subst hX
  have T0 : Hid True := trivial
  have T1 : Hid True := trivial
  have T2 : Hid True := trivial
  have T3 : Hid True := trivial
  have T4 : Hid True := trivial
  have T5 : Hid True := trivial
  have T6 : Hid True := trivial
  have T7 : Hid True := trivial
  go_enter Tryd.func6, Tryd.ntmps6
  go_wp2_with (first
    | (go_at_call 18; have h9 := T0; clear h9; refine (within_any a b _ ha hb).mono ?_; rintro e u0 ⟨rfl, bel⟩; rw [hB0, hE0]; have BB0 : Hid (Below w.heap.size w u0) := bel; clear bel T0)
    | (go_at_call 18; have h9 := T1; clear h9; refine (within_any b a _ hb ha).mono ?_; rintro e u1 ⟨rfl, bel⟩; rw [hB1, hE1]; have BB1 : Hid (Below u0.heap.size u0 u1) := bel; clear bel T1)
    | (go_at_call 18; have h9 := T2; clear h9; refine (within_any b c _ hb hc).mono ?_; rintro e u2 ⟨rfl, bel⟩; rw [hB2, hE2]; have BB2 : Hid (Below u1.heap.size u1 u2) := bel; clear bel T2)
    | (go_at_call 18; have h9 := T3; clear h9; refine (within_any a c _ ha hc).mono ?_; rintro e u3 ⟨rfl, bel⟩; rw [hB3, hE3]; have BB3 : Hid (Below u2.heap.size u2 u3) := bel; clear bel T3)
    | (go_at_call 18; have h9 := T4; clear h9; refine (within_any a a _ ha ha).mono ?_; rintro e u4 ⟨rfl, bel⟩; rw [hB4, hE4]; have BB4 : Hid (Below u3.heap.size u3 u4) := bel; clear bel T4)
    | (go_at_call 19; have h9 := T5; clear h9; refine (clean_any a _ ha).mono ?_; rintro e u5 ⟨rfl, bel⟩; rw [gX, hJ]; have BB5 : Hid (Below u4.heap.size u4 u5) := bel; clear bel T5)
    | (go_at_call 19; have h9 := T6; clear h9; refine (clean_any b _ hb).mono ?_; rintro e u6 ⟨rfl, bel⟩; rw [gY, hK]; have BB6 : Hid (Below u5.heap.size u5 u6) := bel; clear bel T6)
    | (go_at_call 18; have h9 := T7; clear h9; refine (within_any a ⟨#[47]⟩ _ ha hr).mono ?_; rintro e u7 ⟨rfl, bel⟩; rw [hB5, hE5]; have BB7 : Hid (Below u6.heap.size u6 u7) := bel; clear bel T7))
  go_ret
  have c0 : Below w.heap.size w u0 := BB0.out
  have c1 : Below w.heap.size w u1 := c0.trans (BB1.out.mono c0.size)
  have c2 : Below w.heap.size w u2 := c1.trans (BB2.out.mono c1.size)
  have c3 : Below w.heap.size w u3 := c2.trans (BB3.out.mono c2.size)
  have c4 : Below w.heap.size w u4 := c3.trans (BB4.out.mono c3.size)
  have c5 : Below w.heap.size w u5 := c4.trans (BB5.out.mono c4.size)
  have c6 : Below w.heap.size w u6 := c5.trans (BB6.out.mono c5.size)
  have c7 : Below w.heap.size w u7 := c6.trans (BB7.out.mono c6.size)
  exact ⟨ret_bool (by simp [*]), c7⟩

set_option maxHeartbeats 4000000 in
set_option maxRecDepth 100000 in
theorem order_ttf (a b c : ByteArray) (w : World) (ha : a.size ≤ 9223372036854775807) (hb : b.size ≤ 9223372036854775807) (hc : c.size ≤ 9223372036854775807) (hE0 : wiE a b = 0) (hB0 : wiB a b = true) (hE1 : wiE b a = 0) (hB1 : wiB b a = true) (hE2 : wiE b c = 0) (hB2 : wiB b c = false) (hE3 : wiE a c = 0) (hE4 : wiE a a = 0) (hB4 : wiB a a = true) (hE5 : wiE a ⟨#[47]⟩ = 0) (hB5 : wiB a ⟨#[47]⟩ = true) (hJ : spE a = 0) (hK : spE b = 0) (hX : clS a = clS b) :
    Calls Tryd.prog 6 #[.string a, .string b, .string c] w fun e w' => e = .returned (.bool true) ∧ Below w.heap.size w w' := by
  have hr : (⟨#[47]⟩ : ByteArray).size ≤ 9223372036854775807 := by decide
  obtain ⟨B3, gB3⟩ : ∃ B, wiB a c = B := ⟨_, rfl⟩
  obtain ⟨X, gX⟩ : ∃ X, clS a = X := ⟨_, rfl⟩
  obtain ⟨Y, gY⟩ : ∃ Y, clS b = Y := ⟨_, rfl⟩
  rw [gX, gY] at hX
  subst hX
  have T0 : Hid True := trivial
  have T1 : Hid True := trivial
  have T2 : Hid True := trivial
  have T3 : Hid True := trivial
  have T4 : Hid True := trivial
  have T5 : Hid True := trivial
  have T6 : Hid True := trivial
  have T7 : Hid True := trivial
  go_enter Tryd.func6, Tryd.ntmps6
  go_wp2_with (first
    | (go_at_call 18; have h9 := T0; clear h9; refine (within_any a b _ ha hb).mono ?_; rintro e u0 ⟨rfl, bel⟩; rw [hB0, hE0]; have BB0 : Hid (Below w.heap.size w u0) := bel; clear bel T0)
    | (go_at_call 18; have h9 := T1; clear h9; refine (within_any b a _ hb ha).mono ?_; rintro e u1 ⟨rfl, bel⟩; rw [hB1, hE1]; have BB1 : Hid (Below u0.heap.size u0 u1) := bel; clear bel T1)
    | (go_at_call 18; have h9 := T2; clear h9; refine (within_any b c _ hb hc).mono ?_; rintro e u2 ⟨rfl, bel⟩; rw [hB2, hE2]; have BB2 : Hid (Below u1.heap.size u1 u2) := bel; clear bel T2)
    | (go_at_call 18; have h9 := T3; clear h9; refine (within_any a c _ ha hc).mono ?_; rintro e u3 ⟨rfl, bel⟩; rw [gB3, hE3]; have BB3 : Hid (Below u2.heap.size u2 u3) := bel; clear bel T3)
    | (go_at_call 18; have h9 := T4; clear h9; refine (within_any a a _ ha ha).mono ?_; rintro e u4 ⟨rfl, bel⟩; rw [hB4, hE4]; have BB4 : Hid (Below u3.heap.size u3 u4) := bel; clear bel T4)
    | (go_at_call 19; have h9 := T5; clear h9; refine (clean_any a _ ha).mono ?_; rintro e u5 ⟨rfl, bel⟩; rw [gX, hJ]; have BB5 : Hid (Below u4.heap.size u4 u5) := bel; clear bel T5)
    | (go_at_call 19; have h9 := T6; clear h9; refine (clean_any b _ hb).mono ?_; rintro e u6 ⟨rfl, bel⟩; rw [gY, hK]; have BB6 : Hid (Below u5.heap.size u5 u6) := bel; clear bel T6)
    | (go_at_call 18; have h9 := T7; clear h9; refine (within_any a ⟨#[47]⟩ _ ha hr).mono ?_; rintro e u7 ⟨rfl, bel⟩; rw [hB5, hE5]; have BB7 : Hid (Below u6.heap.size u6 u7) := bel; clear bel T7))
  go_ret
  have c0 : Below w.heap.size w u0 := BB0.out
  have c1 : Below w.heap.size w u1 := c0.trans (BB1.out.mono c0.size)
  have c2 : Below w.heap.size w u2 := c1.trans (BB2.out.mono c1.size)
  have c3 : Below w.heap.size w u3 := c2.trans (BB3.out.mono c2.size)
  have c4 : Below w.heap.size w u4 := c3.trans (BB4.out.mono c3.size)
  have c5 : Below w.heap.size w u5 := c4.trans (BB5.out.mono c4.size)
  have c6 : Below w.heap.size w u6 := c5.trans (BB6.out.mono c5.size)
  have c7 : Below w.heap.size w u7 := c6.trans (BB7.out.mono c6.size)
  exact ⟨ret_bool (by simp [*]), c7⟩

set_option maxHeartbeats 4000000 in
set_option maxRecDepth 100000 in
theorem order_tfn (a b c : ByteArray) (w : World) (ha : a.size ≤ 9223372036854775807) (hb : b.size ≤ 9223372036854775807) (hc : c.size ≤ 9223372036854775807) (hE0 : wiE a b = 0) (hB0 : wiB a b = true) (hE1 : wiE b a = 0) (hB1 : wiB b a = false) (hE2 : wiE b c ≠ 0) (hE4 : wiE a a = 0) (hB4 : wiB a a = true) (hE5 : wiE a ⟨#[47]⟩ = 0) (hB5 : wiB a ⟨#[47]⟩ = true) (hJ : spE a = 0) (hK : spE b = 0) (hX : clS a ≠ clS b) :
    Calls Tryd.prog 6 #[.string a, .string b, .string c] w fun e w' => e = .returned (.bool true) ∧ Below w.heap.size w w' := by
  have hr : (⟨#[47]⟩ : ByteArray).size ≤ 9223372036854775807 := by decide
  obtain ⟨E2, gE2⟩ : ∃ E, wiE b c = E := ⟨_, rfl⟩
  rw [gE2] at hE2
  have fE2 : (E2 == 0) = false := by simpa using hE2
  obtain ⟨B2, gB2⟩ : ∃ B, wiB b c = B := ⟨_, rfl⟩
  obtain ⟨E3, gE3⟩ : ∃ E, wiE a c = E := ⟨_, rfl⟩
  obtain ⟨B3, gB3⟩ : ∃ B, wiB a c = B := ⟨_, rfl⟩
  obtain ⟨X, gX⟩ : ∃ X, clS a = X := ⟨_, rfl⟩
  obtain ⟨Y, gY⟩ : ∃ Y, clS b = Y := ⟨_, rfl⟩
  rw [gX, gY] at hX
  have x0 : ¬ X.toList = Y.toList := fun h => hX (toList_inj h)
  have x1 : (X.toList == Y.toList) = false := by simp [x0]
  have x2 : (X.toList != Y.toList) = true := by simp [x0]
  have T0 : Hid True := trivial
  have T1 : Hid True := trivial
  have T2 : Hid True := trivial
  have T3 : Hid True := trivial
  have T4 : Hid True := trivial
  have T5 : Hid True := trivial
  have T6 : Hid True := trivial
  have T7 : Hid True := trivial
  go_enter Tryd.func6, Tryd.ntmps6
  go_wp2_with (first
    | (go_at_call 18; have h9 := T0; clear h9; refine (within_any a b _ ha hb).mono ?_; rintro e u0 ⟨rfl, bel⟩; rw [hB0, hE0]; have BB0 : Hid (Below w.heap.size w u0) := bel; clear bel T0)
    | (go_at_call 18; have h9 := T1; clear h9; refine (within_any b a _ hb ha).mono ?_; rintro e u1 ⟨rfl, bel⟩; rw [hB1, hE1]; have BB1 : Hid (Below u0.heap.size u0 u1) := bel; clear bel T1)
    | (go_at_call 18; have h9 := T2; clear h9; refine (within_any b c _ hb hc).mono ?_; rintro e u2 ⟨rfl, bel⟩; rw [gB2, gE2]; have BB2 : Hid (Below u1.heap.size u1 u2) := bel; clear bel T2)
    | (go_at_call 18; have h9 := T3; clear h9; refine (within_any a c _ ha hc).mono ?_; rintro e u3 ⟨rfl, bel⟩; rw [gB3, gE3]; have BB3 : Hid (Below u2.heap.size u2 u3) := bel; clear bel T3)
    | (go_at_call 18; have h9 := T4; clear h9; refine (within_any a a _ ha ha).mono ?_; rintro e u4 ⟨rfl, bel⟩; rw [hB4, hE4]; have BB4 : Hid (Below u3.heap.size u3 u4) := bel; clear bel T4)
    | (go_at_call 19; have h9 := T5; clear h9; refine (clean_any a _ ha).mono ?_; rintro e u5 ⟨rfl, bel⟩; rw [gX, hJ]; have BB5 : Hid (Below u4.heap.size u4 u5) := bel; clear bel T5)
    | (go_at_call 19; have h9 := T6; clear h9; refine (clean_any b _ hb).mono ?_; rintro e u6 ⟨rfl, bel⟩; rw [gY, hK]; have BB6 : Hid (Below u5.heap.size u5 u6) := bel; clear bel T6)
    | (go_at_call 18; have h9 := T7; clear h9; refine (within_any a ⟨#[47]⟩ _ ha hr).mono ?_; rintro e u7 ⟨rfl, bel⟩; rw [hB5, hE5]; have BB7 : Hid (Below u6.heap.size u6 u7) := bel; clear bel T7))
  go_ret
  have c0 : Below w.heap.size w u0 := BB0.out
  have c1 : Below w.heap.size w u1 := c0.trans (BB1.out.mono c0.size)
  have c2 : Below w.heap.size w u2 := c1.trans (BB2.out.mono c1.size)
  have c3 : Below w.heap.size w u3 := c2.trans (BB3.out.mono c2.size)
  have c4 : Below w.heap.size w u4 := c3.trans (BB4.out.mono c3.size)
  have c5 : Below w.heap.size w u5 := c4.trans (BB5.out.mono c4.size)
  have c6 : Below w.heap.size w u6 := c5.trans (BB6.out.mono c5.size)
  have c7 : Below w.heap.size w u7 := c6.trans (BB7.out.mono c6.size)
  exact ⟨ret_bool (by simp [*]), c7⟩

set_option maxHeartbeats 4000000 in
set_option maxRecDepth 100000 in
theorem order_tft (a b c : ByteArray) (w : World) (ha : a.size ≤ 9223372036854775807) (hb : b.size ≤ 9223372036854775807) (hc : c.size ≤ 9223372036854775807) (hE0 : wiE a b = 0) (hB0 : wiB a b = true) (hE1 : wiE b a = 0) (hB1 : wiB b a = false) (hE2 : wiE b c = 0) (hB2 : wiB b c = true) (hE3 : wiE a c = 0) (hB3 : wiB a c = true) (hE4 : wiE a a = 0) (hB4 : wiB a a = true) (hE5 : wiE a ⟨#[47]⟩ = 0) (hB5 : wiB a ⟨#[47]⟩ = true) (hJ : spE a = 0) (hK : spE b = 0) (hX : clS a ≠ clS b) :
    Calls Tryd.prog 6 #[.string a, .string b, .string c] w fun e w' => e = .returned (.bool true) ∧ Below w.heap.size w w' := by
  have hr : (⟨#[47]⟩ : ByteArray).size ≤ 9223372036854775807 := by decide
  obtain ⟨X, gX⟩ : ∃ X, clS a = X := ⟨_, rfl⟩
  obtain ⟨Y, gY⟩ : ∃ Y, clS b = Y := ⟨_, rfl⟩
  rw [gX, gY] at hX
  have x0 : ¬ X.toList = Y.toList := fun h => hX (toList_inj h)
  have x1 : (X.toList == Y.toList) = false := by simp [x0]
  have x2 : (X.toList != Y.toList) = true := by simp [x0]
  have T0 : Hid True := trivial
  have T1 : Hid True := trivial
  have T2 : Hid True := trivial
  have T3 : Hid True := trivial
  have T4 : Hid True := trivial
  have T5 : Hid True := trivial
  have T6 : Hid True := trivial
  have T7 : Hid True := trivial
  go_enter Tryd.func6, Tryd.ntmps6
  go_wp2_with (first
    | (go_at_call 18; have h9 := T0; clear h9; refine (within_any a b _ ha hb).mono ?_; rintro e u0 ⟨rfl, bel⟩; rw [hB0, hE0]; have BB0 : Hid (Below w.heap.size w u0) := bel; clear bel T0)
    | (go_at_call 18; have h9 := T1; clear h9; refine (within_any b a _ hb ha).mono ?_; rintro e u1 ⟨rfl, bel⟩; rw [hB1, hE1]; have BB1 : Hid (Below u0.heap.size u0 u1) := bel; clear bel T1)
    | (go_at_call 18; have h9 := T2; clear h9; refine (within_any b c _ hb hc).mono ?_; rintro e u2 ⟨rfl, bel⟩; rw [hB2, hE2]; have BB2 : Hid (Below u1.heap.size u1 u2) := bel; clear bel T2)
    | (go_at_call 18; have h9 := T3; clear h9; refine (within_any a c _ ha hc).mono ?_; rintro e u3 ⟨rfl, bel⟩; rw [hB3, hE3]; have BB3 : Hid (Below u2.heap.size u2 u3) := bel; clear bel T3)
    | (go_at_call 18; have h9 := T4; clear h9; refine (within_any a a _ ha ha).mono ?_; rintro e u4 ⟨rfl, bel⟩; rw [hB4, hE4]; have BB4 : Hid (Below u3.heap.size u3 u4) := bel; clear bel T4)
    | (go_at_call 19; have h9 := T5; clear h9; refine (clean_any a _ ha).mono ?_; rintro e u5 ⟨rfl, bel⟩; rw [gX, hJ]; have BB5 : Hid (Below u4.heap.size u4 u5) := bel; clear bel T5)
    | (go_at_call 19; have h9 := T6; clear h9; refine (clean_any b _ hb).mono ?_; rintro e u6 ⟨rfl, bel⟩; rw [gY, hK]; have BB6 : Hid (Below u5.heap.size u5 u6) := bel; clear bel T6)
    | (go_at_call 18; have h9 := T7; clear h9; refine (within_any a ⟨#[47]⟩ _ ha hr).mono ?_; rintro e u7 ⟨rfl, bel⟩; rw [hB5, hE5]; have BB7 : Hid (Below u6.heap.size u6 u7) := bel; clear bel T7))
  go_ret
  have c0 : Below w.heap.size w u0 := BB0.out
  have c1 : Below w.heap.size w u1 := c0.trans (BB1.out.mono c0.size)
  have c2 : Below w.heap.size w u2 := c1.trans (BB2.out.mono c1.size)
  have c3 : Below w.heap.size w u3 := c2.trans (BB3.out.mono c2.size)
  have c4 : Below w.heap.size w u4 := c3.trans (BB4.out.mono c3.size)
  have c5 : Below w.heap.size w u5 := c4.trans (BB5.out.mono c4.size)
  have c6 : Below w.heap.size w u6 := c5.trans (BB6.out.mono c5.size)
  have c7 : Below w.heap.size w u7 := c6.trans (BB7.out.mono c6.size)
  exact ⟨ret_bool (by simp [*]), c7⟩

set_option maxHeartbeats 4000000 in
set_option maxRecDepth 100000 in
theorem order_tff (a b c : ByteArray) (w : World) (ha : a.size ≤ 9223372036854775807) (hb : b.size ≤ 9223372036854775807) (hc : c.size ≤ 9223372036854775807) (hE0 : wiE a b = 0) (hB0 : wiB a b = true) (hE1 : wiE b a = 0) (hB1 : wiB b a = false) (hE2 : wiE b c = 0) (hB2 : wiB b c = false) (hE3 : wiE a c = 0) (hE4 : wiE a a = 0) (hB4 : wiB a a = true) (hE5 : wiE a ⟨#[47]⟩ = 0) (hB5 : wiB a ⟨#[47]⟩ = true) (hJ : spE a = 0) (hK : spE b = 0) (hX : clS a ≠ clS b) :
    Calls Tryd.prog 6 #[.string a, .string b, .string c] w fun e w' => e = .returned (.bool true) ∧ Below w.heap.size w w' := by
  have hr : (⟨#[47]⟩ : ByteArray).size ≤ 9223372036854775807 := by decide
  obtain ⟨B3, gB3⟩ : ∃ B, wiB a c = B := ⟨_, rfl⟩
  obtain ⟨X, gX⟩ : ∃ X, clS a = X := ⟨_, rfl⟩
  obtain ⟨Y, gY⟩ : ∃ Y, clS b = Y := ⟨_, rfl⟩
  rw [gX, gY] at hX
  have x0 : ¬ X.toList = Y.toList := fun h => hX (toList_inj h)
  have x1 : (X.toList == Y.toList) = false := by simp [x0]
  have x2 : (X.toList != Y.toList) = true := by simp [x0]
  have T0 : Hid True := trivial
  have T1 : Hid True := trivial
  have T2 : Hid True := trivial
  have T3 : Hid True := trivial
  have T4 : Hid True := trivial
  have T5 : Hid True := trivial
  have T6 : Hid True := trivial
  have T7 : Hid True := trivial
  go_enter Tryd.func6, Tryd.ntmps6
  go_wp2_with (first
    | (go_at_call 18; have h9 := T0; clear h9; refine (within_any a b _ ha hb).mono ?_; rintro e u0 ⟨rfl, bel⟩; rw [hB0, hE0]; have BB0 : Hid (Below w.heap.size w u0) := bel; clear bel T0)
    | (go_at_call 18; have h9 := T1; clear h9; refine (within_any b a _ hb ha).mono ?_; rintro e u1 ⟨rfl, bel⟩; rw [hB1, hE1]; have BB1 : Hid (Below u0.heap.size u0 u1) := bel; clear bel T1)
    | (go_at_call 18; have h9 := T2; clear h9; refine (within_any b c _ hb hc).mono ?_; rintro e u2 ⟨rfl, bel⟩; rw [hB2, hE2]; have BB2 : Hid (Below u1.heap.size u1 u2) := bel; clear bel T2)
    | (go_at_call 18; have h9 := T3; clear h9; refine (within_any a c _ ha hc).mono ?_; rintro e u3 ⟨rfl, bel⟩; rw [gB3, hE3]; have BB3 : Hid (Below u2.heap.size u2 u3) := bel; clear bel T3)
    | (go_at_call 18; have h9 := T4; clear h9; refine (within_any a a _ ha ha).mono ?_; rintro e u4 ⟨rfl, bel⟩; rw [hB4, hE4]; have BB4 : Hid (Below u3.heap.size u3 u4) := bel; clear bel T4)
    | (go_at_call 19; have h9 := T5; clear h9; refine (clean_any a _ ha).mono ?_; rintro e u5 ⟨rfl, bel⟩; rw [gX, hJ]; have BB5 : Hid (Below u4.heap.size u4 u5) := bel; clear bel T5)
    | (go_at_call 19; have h9 := T6; clear h9; refine (clean_any b _ hb).mono ?_; rintro e u6 ⟨rfl, bel⟩; rw [gY, hK]; have BB6 : Hid (Below u5.heap.size u5 u6) := bel; clear bel T6)
    | (go_at_call 18; have h9 := T7; clear h9; refine (within_any a ⟨#[47]⟩ _ ha hr).mono ?_; rintro e u7 ⟨rfl, bel⟩; rw [hB5, hE5]; have BB7 : Hid (Below u6.heap.size u6 u7) := bel; clear bel T7))
  go_ret
  have c0 : Below w.heap.size w u0 := BB0.out
  have c1 : Below w.heap.size w u1 := c0.trans (BB1.out.mono c0.size)
  have c2 : Below w.heap.size w u2 := c1.trans (BB2.out.mono c1.size)
  have c3 : Below w.heap.size w u3 := c2.trans (BB3.out.mono c2.size)
  have c4 : Below w.heap.size w u4 := c3.trans (BB4.out.mono c3.size)
  have c5 : Below w.heap.size w u5 := c4.trans (BB5.out.mono c4.size)
  have c6 : Below w.heap.size w u6 := c5.trans (BB6.out.mono c5.size)
  have c7 : Below w.heap.size w u7 := c6.trans (BB7.out.mono c6.size)
  exact ⟨ret_bool (by simp [*]), c7⟩

set_option maxHeartbeats 4000000 in
set_option maxRecDepth 100000 in
theorem order_fn (a b c : ByteArray) (w : World) (ha : a.size ≤ 9223372036854775807) (hb : b.size ≤ 9223372036854775807) (hc : c.size ≤ 9223372036854775807) (hE0 : wiE a b = 0) (hB0 : wiB a b = false) (hE1 : wiE b a = 0) (hE2 : wiE b c ≠ 0) (hE4 : wiE a a = 0) (hB4 : wiB a a = true) (hE5 : wiE a ⟨#[47]⟩ = 0) (hB5 : wiB a ⟨#[47]⟩ = true) (hJ : spE a = 0) (hK : spE b = 0) (hX : clS a ≠ clS b) :
    Calls Tryd.prog 6 #[.string a, .string b, .string c] w fun e w' => e = .returned (.bool true) ∧ Below w.heap.size w w' := by
  have hr : (⟨#[47]⟩ : ByteArray).size ≤ 9223372036854775807 := by decide
  obtain ⟨B1, gB1⟩ : ∃ B, wiB b a = B := ⟨_, rfl⟩
  obtain ⟨E2, gE2⟩ : ∃ E, wiE b c = E := ⟨_, rfl⟩
  rw [gE2] at hE2
  have fE2 : (E2 == 0) = false := by simpa using hE2
  obtain ⟨B2, gB2⟩ : ∃ B, wiB b c = B := ⟨_, rfl⟩
  obtain ⟨E3, gE3⟩ : ∃ E, wiE a c = E := ⟨_, rfl⟩
  obtain ⟨B3, gB3⟩ : ∃ B, wiB a c = B := ⟨_, rfl⟩
  obtain ⟨X, gX⟩ : ∃ X, clS a = X := ⟨_, rfl⟩
  obtain ⟨Y, gY⟩ : ∃ Y, clS b = Y := ⟨_, rfl⟩
  rw [gX, gY] at hX
  have x0 : ¬ X.toList = Y.toList := fun h => hX (toList_inj h)
  have x1 : (X.toList == Y.toList) = false := by simp [x0]
  have x2 : (X.toList != Y.toList) = true := by simp [x0]
  have T0 : Hid True := trivial
  have T1 : Hid True := trivial
  have T2 : Hid True := trivial
  have T3 : Hid True := trivial
  have T4 : Hid True := trivial
  have T5 : Hid True := trivial
  have T6 : Hid True := trivial
  have T7 : Hid True := trivial
  go_enter Tryd.func6, Tryd.ntmps6
  go_wp2_with (first
    | (go_at_call 18; have h9 := T0; clear h9; refine (within_any a b _ ha hb).mono ?_; rintro e u0 ⟨rfl, bel⟩; rw [hB0, hE0]; have BB0 : Hid (Below w.heap.size w u0) := bel; clear bel T0)
    | (go_at_call 18; have h9 := T1; clear h9; refine (within_any b a _ hb ha).mono ?_; rintro e u1 ⟨rfl, bel⟩; rw [gB1, hE1]; have BB1 : Hid (Below u0.heap.size u0 u1) := bel; clear bel T1)
    | (go_at_call 18; have h9 := T2; clear h9; refine (within_any b c _ hb hc).mono ?_; rintro e u2 ⟨rfl, bel⟩; rw [gB2, gE2]; have BB2 : Hid (Below u1.heap.size u1 u2) := bel; clear bel T2)
    | (go_at_call 18; have h9 := T3; clear h9; refine (within_any a c _ ha hc).mono ?_; rintro e u3 ⟨rfl, bel⟩; rw [gB3, gE3]; have BB3 : Hid (Below u2.heap.size u2 u3) := bel; clear bel T3)
    | (go_at_call 18; have h9 := T4; clear h9; refine (within_any a a _ ha ha).mono ?_; rintro e u4 ⟨rfl, bel⟩; rw [hB4, hE4]; have BB4 : Hid (Below u3.heap.size u3 u4) := bel; clear bel T4)
    | (go_at_call 19; have h9 := T5; clear h9; refine (clean_any a _ ha).mono ?_; rintro e u5 ⟨rfl, bel⟩; rw [gX, hJ]; have BB5 : Hid (Below u4.heap.size u4 u5) := bel; clear bel T5)
    | (go_at_call 19; have h9 := T6; clear h9; refine (clean_any b _ hb).mono ?_; rintro e u6 ⟨rfl, bel⟩; rw [gY, hK]; have BB6 : Hid (Below u5.heap.size u5 u6) := bel; clear bel T6)
    | (go_at_call 18; have h9 := T7; clear h9; refine (within_any a ⟨#[47]⟩ _ ha hr).mono ?_; rintro e u7 ⟨rfl, bel⟩; rw [hB5, hE5]; have BB7 : Hid (Below u6.heap.size u6 u7) := bel; clear bel T7))
  go_ret
  have c0 : Below w.heap.size w u0 := BB0.out
  have c1 : Below w.heap.size w u1 := c0.trans (BB1.out.mono c0.size)
  have c2 : Below w.heap.size w u2 := c1.trans (BB2.out.mono c1.size)
  have c3 : Below w.heap.size w u3 := c2.trans (BB3.out.mono c2.size)
  have c4 : Below w.heap.size w u4 := c3.trans (BB4.out.mono c3.size)
  have c5 : Below w.heap.size w u5 := c4.trans (BB5.out.mono c4.size)
  have c6 : Below w.heap.size w u6 := c5.trans (BB6.out.mono c5.size)
  have c7 : Below w.heap.size w u7 := c6.trans (BB7.out.mono c6.size)
  exact ⟨ret_bool (by simp [*]), c7⟩

set_option maxHeartbeats 4000000 in
set_option maxRecDepth 100000 in
theorem order_fo (a b c : ByteArray) (w : World) (ha : a.size ≤ 9223372036854775807) (hb : b.size ≤ 9223372036854775807) (hc : c.size ≤ 9223372036854775807) (hE0 : wiE a b = 0) (hB0 : wiB a b = false) (hE1 : wiE b a = 0) (hE2 : wiE b c = 0) (hE3 : wiE a c = 0) (hE4 : wiE a a = 0) (hB4 : wiB a a = true) (hE5 : wiE a ⟨#[47]⟩ = 0) (hB5 : wiB a ⟨#[47]⟩ = true) (hJ : spE a = 0) (hK : spE b = 0) (hX : clS a ≠ clS b) :
    Calls Tryd.prog 6 #[.string a, .string b, .string c] w fun e w' => e = .returned (.bool true) ∧ Below w.heap.size w w' := by
  have hr : (⟨#[47]⟩ : ByteArray).size ≤ 9223372036854775807 := by decide
  obtain ⟨B1, gB1⟩ : ∃ B, wiB b a = B := ⟨_, rfl⟩
  obtain ⟨B2, gB2⟩ : ∃ B, wiB b c = B := ⟨_, rfl⟩
  obtain ⟨B3, gB3⟩ : ∃ B, wiB a c = B := ⟨_, rfl⟩
  obtain ⟨X, gX⟩ : ∃ X, clS a = X := ⟨_, rfl⟩
  obtain ⟨Y, gY⟩ : ∃ Y, clS b = Y := ⟨_, rfl⟩
  rw [gX, gY] at hX
  have x0 : ¬ X.toList = Y.toList := fun h => hX (toList_inj h)
  have x1 : (X.toList == Y.toList) = false := by simp [x0]
  have x2 : (X.toList != Y.toList) = true := by simp [x0]
  have T0 : Hid True := trivial
  have T1 : Hid True := trivial
  have T2 : Hid True := trivial
  have T3 : Hid True := trivial
  have T4 : Hid True := trivial
  have T5 : Hid True := trivial
  have T6 : Hid True := trivial
  have T7 : Hid True := trivial
  go_enter Tryd.func6, Tryd.ntmps6
  go_wp2_with (first
    | (go_at_call 18; have h9 := T0; clear h9; refine (within_any a b _ ha hb).mono ?_; rintro e u0 ⟨rfl, bel⟩; rw [hB0, hE0]; have BB0 : Hid (Below w.heap.size w u0) := bel; clear bel T0)
    | (go_at_call 18; have h9 := T1; clear h9; refine (within_any b a _ hb ha).mono ?_; rintro e u1 ⟨rfl, bel⟩; rw [gB1, hE1]; have BB1 : Hid (Below u0.heap.size u0 u1) := bel; clear bel T1)
    | (go_at_call 18; have h9 := T2; clear h9; refine (within_any b c _ hb hc).mono ?_; rintro e u2 ⟨rfl, bel⟩; rw [gB2, hE2]; have BB2 : Hid (Below u1.heap.size u1 u2) := bel; clear bel T2)
    | (go_at_call 18; have h9 := T3; clear h9; refine (within_any a c _ ha hc).mono ?_; rintro e u3 ⟨rfl, bel⟩; rw [gB3, hE3]; have BB3 : Hid (Below u2.heap.size u2 u3) := bel; clear bel T3)
    | (go_at_call 18; have h9 := T4; clear h9; refine (within_any a a _ ha ha).mono ?_; rintro e u4 ⟨rfl, bel⟩; rw [hB4, hE4]; have BB4 : Hid (Below u3.heap.size u3 u4) := bel; clear bel T4)
    | (go_at_call 19; have h9 := T5; clear h9; refine (clean_any a _ ha).mono ?_; rintro e u5 ⟨rfl, bel⟩; rw [gX, hJ]; have BB5 : Hid (Below u4.heap.size u4 u5) := bel; clear bel T5)
    | (go_at_call 19; have h9 := T6; clear h9; refine (clean_any b _ hb).mono ?_; rintro e u6 ⟨rfl, bel⟩; rw [gY, hK]; have BB6 : Hid (Below u5.heap.size u5 u6) := bel; clear bel T6)
    | (go_at_call 18; have h9 := T7; clear h9; refine (within_any a ⟨#[47]⟩ _ ha hr).mono ?_; rintro e u7 ⟨rfl, bel⟩; rw [hB5, hE5]; have BB7 : Hid (Below u6.heap.size u6 u7) := bel; clear bel T7))
  go_ret
  have c0 : Below w.heap.size w u0 := BB0.out
  have c1 : Below w.heap.size w u1 := c0.trans (BB1.out.mono c0.size)
  have c2 : Below w.heap.size w u2 := c1.trans (BB2.out.mono c1.size)
  have c3 : Below w.heap.size w u3 := c2.trans (BB3.out.mono c2.size)
  have c4 : Below w.heap.size w u4 := c3.trans (BB4.out.mono c3.size)
  have c5 : Below w.heap.size w u5 := c4.trans (BB5.out.mono c4.size)
  have c6 : Below w.heap.size w u6 := c5.trans (BB6.out.mono c5.size)
  have c7 : Below w.heap.size w u7 := c6.trans (BB7.out.mono c6.size)
  exact ⟨ret_bool (by simp [*]), c7⟩

end Go.Proofs.YtmbdacdgbmpedaaDoor
