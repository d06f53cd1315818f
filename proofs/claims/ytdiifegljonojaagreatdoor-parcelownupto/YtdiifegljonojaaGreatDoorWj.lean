/-
  SEAT YtdiifegljonojaaGreatDoor: may a leaf be? its names.
-/
import Derived.Test.YtdiifegljonojaaGreatDoorWi
import Derived.Test.YtdiifegljonojaaGreatDoorRc
namespace Go.Proofs.YtdiifegljonojaaGreatDoor
open Go.RowKit
set_option linter.unusedVariables false

theorem bel_join {a b c : World} (h1 : Below a.heap.size a b) (h2 : Below b.heap.size b c) : Below a.heap.size a c := ⟨h2.os.trans h1.os, h2.tape.trans h1.tape, h2.output.trans h1.output, Nat.le_trans h1.size h2.size, fun k hk => (h2.block k (Nat.lt_of_lt_of_le hk h1.size)).trans (h1.block k hk)⟩
def typB (t : Int) : Bool := decide (1 ≤ t) && decide (t ≤ 3)
def datB (t : Int) (n : Nat) : Bool := if t = 1 then decide (n ≤ 16777216) else decide (n = 0)
def tarB (t : Int) (tg : ByteArray) : Bool := if t = 3 then decide (1 ≤ tg.size) && decide (tg.size ≤ 127) && !Pt.zeroB tg else decide (tg.size = 0)
/-- May a leaf be, its path apart? -/
def bodB (t m : Int) (n : Nat) (tg : ByteArray) : Bool := typB t && decide (0 ≤ m) && decide (m ≤ 4095) && datB t n && tarB t tg

theorem nz_eq (n : Nat) : ((n : Int) == 0) = decide (n = 0) := by
  by_cases h : n = 0
  · subst h; rfl
  · rw [decide_eq_false h, beq_eq_false_iff_ne]; omega
theorem type_any (t : Int) (w : World) : Calls Tryz.prog 29 #[.int .i64 t] w fun e w' => e = .returned (.bool (typB t)) ∧ w' = w := by
  unfold typB
  by_cases h : 1 ≤ t
  · by_cases h2 : t ≤ 3
    · have d1 : decide (1 ≤ t) = true := decide_eq_true h
      have d2 : decide (t ≤ 3) = true := decide_eq_true h2
      go_enter Tryz.func29, Tryz.ntmps29
      go_wp2
      go_ret
      exact ⟨by simp [d1, d2], rfl⟩
    · have d1 : decide (1 ≤ t) = true := decide_eq_true h
      have d2 : decide (t ≤ 3) = false := decide_eq_false h2
      go_enter Tryz.func29, Tryz.ntmps29
      go_wp2
      go_ret
      exact ⟨by simp, rfl⟩
  · have d1 : decide (1 ≤ t) = false := decide_eq_false h
    go_enter Tryz.func29, Tryz.ntmps29
    go_wp2
    go_ret
    exact ⟨by simp, rfl⟩
theorem tsize_any (t : Int) (w : World) : Calls Tryz.prog 52 #[.int .i64 t] w fun e w' => e = .returned (.bool (decide (1 ≤ t) && decide (t ≤ 127))) ∧ w' = w := by
  by_cases h : 1 ≤ t
  · by_cases h2 : t ≤ 127
    · have d1 : decide (1 ≤ t) = true := decide_eq_true h
      have d2 : decide (t ≤ 127) = true := decide_eq_true h2
      go_enter Tryz.func52, Tryz.ntmps52
      go_wp2
      go_ret
      exact ⟨by simp [d1, d2], rfl⟩
    · have d1 : decide (1 ≤ t) = true := decide_eq_true h
      have d2 : decide (t ≤ 127) = false := decide_eq_false h2
      go_enter Tryz.func52, Tryz.ntmps52
      go_wp2
      go_ret
      exact ⟨by simp, rfl⟩
  · have d1 : decide (1 ≤ t) = false := decide_eq_false h
    go_enter Tryz.func52, Tryz.ntmps52
    go_wp2
    go_ret
    exact ⟨by simp, rfl⟩
set_option maxRecDepth 100000 in
theorem data_may (p : ByteArray) (t m s : Int) (a : Option Addr) (n c : Nat) (tg : ByteArray) (w : World) : Calls Tryz.prog 30 #[.agg #[.string p, .int .i64 t, .int .i64 m, .int .u64 s, .slice a n c, .string tg]] w fun e w' => e = .returned (.bool (datB t n)) ∧ Below w.heap.size w w' := by
  have HB := hide (below_alloc w (.cells #[.string p, .int .i64 t, .int .i64 m, .int .u64 s, .slice a n c, .string tg] 38))
  unfold datB
  by_cases h : t = 1
  · subst h
    rw [if_pos rfl]
    go_enter Tryz.func30, Tryz.ntmps30
    go_wp2
    go_ret
    exact ⟨by simp; omega, HB.out⟩
  · rw [if_neg h]
    have e1 : (t != 1) = true := by simp [h]
    go_enter Tryz.func30, Tryz.ntmps30
    go_wp2
    go_ret
    exact ⟨by rw [← nz_eq]; rfl, HB.out⟩
set_option maxRecDepth 100000 in
theorem target_may (p : ByteArray) (t m s : Int) (a : Option Addr) (n c : Nat) (tg : ByteArray) (w : World) (htg : tg.size ≤ 200000000000000) : Calls Tryz.prog 31 #[.agg #[.string p, .int .i64 t, .int .i64 m, .int .u64 s, .slice a n c, .string tg]] w fun e w' => e = .returned (.bool (tarB t tg)) ∧ Below w.heap.size w w' := by
  have HB := hide (below_alloc w (.cells #[.string p, .int .i64 t, .int .i64 m, .int .u64 s, .slice a n c, .string tg] 38))
  unfold tarB
  by_cases h : t = 3
  · subst h
    rw [if_pos rfl]
    cases hz : (decide (1 ≤ tg.size) && decide (tg.size ≤ 127)) with
    | true =>
      have HZ : Hid ((decide (1 ≤ (tg.size : Int)) && decide ((tg.size : Int) ≤ 127)) = true) := by unfold Hid; simp at hz ⊢; omega
      clear hz
      go_enter Tryz.func31, Tryz.ntmps31
      go_wp2_with (first
        | (go_at_call 52; refine (tsize_any (tg.size : Int) _).mono ?_; rintro e w1 ⟨rfl, rfl⟩; rw [HZ.out]))
      refine (noneZero_any tg _ htg).mono ?_
      rintro e w2 ⟨rfl, b2⟩
      have HB2 := hide (bel_join HB.out b2)
      clear b2
      go_wp2
      go_ret
      exact ⟨by simp, HB2.out⟩
    | false =>
      have HZ : Hid ((decide (1 ≤ (tg.size : Int)) && decide ((tg.size : Int) ≤ 127)) = false) := by unfold Hid; simp at hz ⊢; omega
      clear hz
      go_enter Tryz.func31, Tryz.ntmps31
      go_wp2_with (first
        | (go_at_call 52; refine (tsize_any (tg.size : Int) _).mono ?_; rintro e w1 ⟨rfl, rfl⟩; rw [HZ.out]))
      go_ret
      exact ⟨by simp, HB.out⟩
  · rw [if_neg h]
    have e1 : (t != 3) = true := by simp [h]
    have hes : tg.toList.isEmpty = decide (tg.size = 0) := by
      rw [Pt.toList_data]
      by_cases h0 : tg.size = 0
      · have h2 : tg.data.toList = [] := List.eq_nil_of_length_eq_zero h0
        rw [h2, decide_eq_true h0]; rfl
      · rw [decide_eq_false h0]
        cases h2 : tg.data.toList with
        | nil => exact absurd (congrArg List.length h2) h0
        | cons x r => rfl
    have HES := hide hes
    clear hes
    go_enter Tryz.func31, Tryz.ntmps31
    go_wp2
    go_ret
    exact ⟨by rw [← HES.out]; rfl, HB.out⟩
set_option maxHeartbeats 2000000 in
set_option maxRecDepth 100000 in
theorem body_may (p : ByteArray) (t m s : Int) (a : Option Addr) (n c : Nat) (tg : ByteArray) (w : World) (htg : tg.size ≤ 200000000000000) : Calls Tryz.prog 16 #[.agg #[.string p, .int .i64 t, .int .i64 m, .int .u64 s, .slice a n c, .string tg]] w fun e w' => e = .returned (.bool (bodB t m n tg)) ∧ Below w.heap.size w w' := by
  have hfb : (w.alloc (.cells #[.string p, .int .i64 t, .int .i64 m, .int .u64 s, .slice a n c, .string tg] 38)).heap[w.heap.size]? = some (.cells #[.string p, .int .i64 t, .int .i64 m, .int .u64 s, .slice a n c, .string tg] 38 (0, 0)) := heap_alloc_new w _
  have HB := hide (below_alloc w (.cells #[.string p, .int .i64 t, .int .i64 m, .int .u64 s, .slice a n c, .string tg] 38))
  have HF := hide hfb
  obtain ⟨f0, f1, f2, f3, f4, f5⟩ := fb6 hfb
  clear hfb
  obtain ⟨U, hU⟩ : ∃ U, w.alloc (.cells #[.string p, .int .i64 t, .int .i64 m, .int .u64 s, .slice a n c, .string tg] 38) = U := ⟨_, rfl⟩
  have HU := hide hU
  rw [hU] at HB HF f0 f1 f2 f3 f4 f5
  clear hU
  unfold bodB
  cases h1 : typB t with
  | false =>
    go_enter Tryz.func16, Tryz.ntmps16
    go_upto_region 1 with fail
    rw [HU.out]
    go_wp2_with (first | (go_at_call 29; refine (type_any t _).mono ?_; rintro e w1 ⟨rfl, rfl⟩; rw [h1]))
    go_ret
    exact ⟨by simp, HB.out⟩
  | true =>
    by_cases h2 : 0 ≤ m
    · have d2 : decide (0 ≤ m) = true := decide_eq_true h2
      by_cases h3 : m ≤ 4095
      · have d3 : decide (m ≤ 4095) = true := decide_eq_true h3
        cases h4 : datB t n with
        | false =>
          go_enter Tryz.func16, Tryz.ntmps16
          go_upto_region 1 with fail
          rw [HU.out]
          go_wp2_with (first
            | (go_at_call 29; refine (type_any t _).mono ?_; rintro e w1 ⟨rfl, rfl⟩; rw [h1])
            | (go_at_call 30; refine (data_may p t m s a n c tg _).mono ?_; rintro e w2 ⟨rfl, b2⟩; rw [h4]; have HB2 := hide (bel_join HB.out b2); clear b2))
          go_ret
          exact ⟨by simp [d2, d3], HB2.out⟩
        | true =>
          go_enter Tryz.func16, Tryz.ntmps16
          go_upto_region 1 with fail
          rw [HU.out]
          go_wp2_with (first
            | (go_at_call 29; refine (type_any t _).mono ?_; rintro e w1 ⟨rfl, rfl⟩; rw [h1])
            | (go_at_call 30; refine (data_may p t m s a n c tg _).mono ?_; rintro e w2 ⟨rfl, b2⟩; rw [h4]
               have hf2 := (b2.block _ (Array.getElem?_eq_some_iff.1 HF.out).1).trans HF.out
               have HB2 := hide (bel_join HB.out b2)
               clear f0 f1 f2 f3 f4 f5
               obtain ⟨f0, f1, f2, f3, f4, f5⟩ := fb6 hf2
               clear b2 hf2)
            | (go_at_call 31; refine (target_may p t m s a n c tg _ htg).mono ?_; rintro e w3 ⟨rfl, b3⟩; have HB3 := hide (bel_join HB2.out b3); clear b3))
          go_ret
          exact ⟨by simp [d2, d3], HB3.out⟩
      · have d3 : decide (m ≤ 4095) = false := decide_eq_false h3
        go_enter Tryz.func16, Tryz.ntmps16
        go_upto_region 1 with fail
        rw [HU.out]
        go_wp2_with (first | (go_at_call 29; refine (type_any t _).mono ?_; rintro e w1 ⟨rfl, rfl⟩; rw [h1]))
        go_ret
        exact ⟨by simp [d2, d3], HB.out⟩
    · have d2 : decide (0 ≤ m) = false := decide_eq_false h2
      go_enter Tryz.func16, Tryz.ntmps16
      go_upto_region 1 with fail
      rw [HU.out]
      go_wp2_with (first | (go_at_call 29; refine (type_any t _).mono ?_; rintro e w1 ⟨rfl, rfl⟩; rw [h1]))
      go_ret
      exact ⟨by simp [d2], HB.out⟩

theorem ow_lower {w : World} {B B' : Nat} {v : Value} {xs : List ByteArray} (h : Pt.Ow w B v xs) (hb : B' ≤ B) : Pt.Ow w B' v xs := by
  obtain ⟨h1, h2⟩ := h
  refine ⟨h1, ?_⟩
  rcases h2 with h2 | ⟨g, cap, cur, hv, hb', r⟩
  · exact Or.inl h2
  · exact Or.inr ⟨g, cap, cur, hv, Nat.le_trans hb hb', r⟩
/-- Is a path written as a leaf's must be? -/
def nmsB (s : ByteArray) : Bool := decide (Pt.spE s = 0) && (Pt.clS s).toList == s.toList && !(Pt.spN s).any Pt.upB
set_option maxHeartbeats 2000000 in
set_option maxRecDepth 100000 in
theorem namesOf_any (s : ByteArray) (w : World) (hs : s.size ≤ 9223372036854775807) : Calls Tryz.prog 19 #[.string s] w fun e w' => (∃ v, e = .returned (.tuple #[v, .bool (nmsB s)]) ∧ (nmsB s = true → Pt.Ow w' w.heap.size v (Pt.spN s)) ∧ ∃ a n c, v = .slice a n c) ∧ Below w.heap.size w w' := by
  have HC := hide (Pt.clean_any s w hs)
  by_cases h1 : Pt.spE s = 0
  · have HE := hide h1
    cases h2 : (Pt.clS s).toList == s.toList with
    | false =>
      have hn : nmsB s = false := by unfold nmsB; rw [h2]; simp
      rw [hn]
      have HN2 := hide hn
      clear hn
      go_enter Tryz.func19, Tryz.ntmps19
      go_wp2_with (first | (go_at_call 34; refine HC.out.mono ?_; rintro e w1 ⟨rfl, b1⟩; rw [HE.out]; have HB := hide b1; clear b1))
      go_ret2
      exact ⟨⟨_, rfl, (fun h => by cases h), _, _, _, rfl⟩, HB.out⟩
    | true =>
      have hn : nmsB s = !(Pt.spN s).any Pt.upB := by unfold nmsB; rw [h2, decide_eq_true h1]; simp
      rw [hn]
      clear hn h1
      go_enter Tryz.func19, Tryz.ntmps19
      go_wp2_with (first
        | (go_at_call 34; refine HC.out.mono ?_; rintro e w1 ⟨rfl, b1⟩; rw [HE.out]; have HB := hide b1; clear b1)
        | (go_at_call 35; refine (Pt.psplit_any s _ hs).mono ?_; rintro e w2 ⟨v, rfl, ow, b2⟩; rw [HE.out]; obtain ⟨a2, c2, rfl, _, _, _, _⟩ := Pt.Ow.vw ow; have HO := hide ow; have HB2 := hide (bel_join HB.out b2); clear ow b2)
        | (go_at_call 36; refine (Pt.has_up _ (Pt.spN s) _ (Pt.Ow.vw HO.out)).mono ?_; rintro e w3 ⟨rfl, rfl⟩))
      go_ret2
      exact ⟨⟨_, by simp, (fun _ => ow_lower HO.out HB.out.size), _, _, _, rfl⟩, HB2.out⟩
  · have hn : nmsB s = false := by unfold nmsB; rw [decide_eq_false h1]; simp
    rw [hn]
    have e1 : (Pt.spE s != 0) = true := by simp [h1]
    clear hn
    go_enter Tryz.func19, Tryz.ntmps19
    go_wp2_with (first | (go_at_call 34; refine HC.out.mono ?_; rintro e w1 ⟨rfl, b1⟩; have HB := hide b1; clear b1))
    go_ret2
    exact ⟨⟨_, rfl, (fun h => by cases h), _, _, _, rfl⟩, HB.out⟩
end Go.Proofs.YtdiifegljonojaaGreatDoor
