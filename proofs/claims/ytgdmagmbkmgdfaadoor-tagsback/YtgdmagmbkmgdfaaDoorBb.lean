/-
  SEAT YtgdmagmbkmgdfaaDoor: TagsBack: all ways.
-/
import Derived.Test.YtgdmagmbkmgdfaaDoorBkW
namespace Go.Proofs.YtgdmagmbkmgdfaaDoor
open Go.RowKit Go.ChangeShapes Go.WideShapes Go.ChangeAt
set_option linter.unusedVariables false

/-- A digit of a number that was read. -/
theorem digit_of {zs : List Int} (h : ∀ x ∈ zs, 0 ≤ x ∧ x ≤ 255) : ∀ (n t i : Nat), i < n → getL zs t n / 256 ^ i % 256 = zs.getD (t + i) 0
  | 0, _, _, hi => by omega
  | n + 1, t, 0, _ => by
    have hb := byteAt h t
    rw [getL_cons, Int.pow_zero, Int.ediv_one]
    show _ = zs.getD t 0
    omega
  | n + 1, t, i + 1, hi => by
    have hb := byteAt h t
    have ih := digit_of h n (t + 1) i (by omega)
    rw [getL_cons, Int.pow_succ, Int.mul_comm (256 ^ i) 256, ← Int.ediv_ediv_of_nonneg (by decide)]
    rw [show (zs.getD t 0 + 256 * getL zs (t + 1) n) / 256 = getL zs (t + 1) n by omega, ih, show t + 1 + i = t + (i + 1) by omega]

theorem tagL_back (zs : List Int) (hl : zs.length = 26) (h : ∀ x ∈ zs, 0 ≤ x ∧ x ≤ 255) : tagL (getL zs 0 1) (getL zs 1 1) (getL zs 2 6) (getL zs 8 6) (getL zs 14 4) (getL zs 18 4) (getL zs 22 2) (getL zs 24 2) = zs := by
  apply List.ext_getElem (by rw [tagL_length, hl])
  intro j h1 h2
  have key : (tagL (getL zs 0 1) (getL zs 1 1) (getL zs 2 6) (getL zs 8 6) (getL zs 14 4) (getL zs 18 4) (getL zs 22 2) (getL zs 24 2)).getD j 0 = zs.getD j 0 := by
    have hj : j < 26 := by omega
    rcases (show (0 ≤ j ∧ j < 1) ∨ (1 ≤ j ∧ j < 2) ∨ (2 ≤ j ∧ j < 8) ∨ (8 ≤ j ∧ j < 14) ∨ (14 ≤ j ∧ j < 18) ∨ (18 ≤ j ∧ j < 22) ∨ (22 ≤ j ∧ j < 24) ∨ (24 ≤ j ∧ j < 26) by omega) with ⟨q1, q2⟩ | ⟨q1, q2⟩ | ⟨q1, q2⟩ | ⟨q1, q2⟩ | ⟨q1, q2⟩ | ⟨q1, q2⟩ | ⟨q1, q2⟩ | ⟨q1, q2⟩
    · have e := tag_f0 (getL zs 0 1) (getL zs 1 1) (getL zs 2 6) (getL zs 8 6) (getL zs 14 4) (getL zs 18 4) (getL zs 22 2) (getL zs 24 2) (j - 0) (by omega)
      rw [digit_of h 1 0 (j - 0) (by omega), show 0 + (j - 0) = j by omega] at e
      exact e
    · have e := tag_f1 (getL zs 0 1) (getL zs 1 1) (getL zs 2 6) (getL zs 8 6) (getL zs 14 4) (getL zs 18 4) (getL zs 22 2) (getL zs 24 2) (j - 1) (by omega)
      rw [digit_of h 1 1 (j - 1) (by omega), show 1 + (j - 1) = j by omega] at e
      exact e
    · have e := tag_f2 (getL zs 0 1) (getL zs 1 1) (getL zs 2 6) (getL zs 8 6) (getL zs 14 4) (getL zs 18 4) (getL zs 22 2) (getL zs 24 2) (j - 2) (by omega)
      rw [digit_of h 6 2 (j - 2) (by omega), show 2 + (j - 2) = j by omega] at e
      exact e
    · have e := tag_f3 (getL zs 0 1) (getL zs 1 1) (getL zs 2 6) (getL zs 8 6) (getL zs 14 4) (getL zs 18 4) (getL zs 22 2) (getL zs 24 2) (j - 8) (by omega)
      rw [digit_of h 6 8 (j - 8) (by omega), show 8 + (j - 8) = j by omega] at e
      exact e
    · have e := tag_f4 (getL zs 0 1) (getL zs 1 1) (getL zs 2 6) (getL zs 8 6) (getL zs 14 4) (getL zs 18 4) (getL zs 22 2) (getL zs 24 2) (j - 14) (by omega)
      rw [digit_of h 4 14 (j - 14) (by omega), show 14 + (j - 14) = j by omega] at e
      exact e
    · have e := tag_f5 (getL zs 0 1) (getL zs 1 1) (getL zs 2 6) (getL zs 8 6) (getL zs 14 4) (getL zs 18 4) (getL zs 22 2) (getL zs 24 2) (j - 18) (by omega)
      rw [digit_of h 4 18 (j - 18) (by omega), show 18 + (j - 18) = j by omega] at e
      exact e
    · have e := tag_f6 (getL zs 0 1) (getL zs 1 1) (getL zs 2 6) (getL zs 8 6) (getL zs 14 4) (getL zs 18 4) (getL zs 22 2) (getL zs 24 2) (j - 22) (by omega)
      rw [digit_of h 2 22 (j - 22) (by omega), show 22 + (j - 22) = j by omega] at e
      exact e
    · have e := tag_f7 (getL zs 0 1) (getL zs 1 1) (getL zs 2 6) (getL zs 8 6) (getL zs 14 4) (getL zs 18 4) (getL zs 22 2) (getL zs 24 2) (j - 24) (by omega)
      rw [digit_of h 2 24 (j - 24) (by omega), show 24 + (j - 24) = j by omega] at e
      exact e
  rw [List.getD_eq_getElem?_getD, List.getD_eq_getElem?_getD, List.getElem?_eq_getElem h1, List.getElem?_eq_getElem h2] at key
  exact key

theorem small_of {zs : List Int} (h : ∀ x ∈ zs, 0 ≤ x ∧ x ≤ 255) : Small (getL zs 0 1) (getL zs 1 1) (getL zs 2 6) (getL zs 8 6) (getL zs 14 4) (getL zs 18 4) (getL zs 22 2) (getL zs 24 2) := by
  have z1 : (256 : Int) ^ 1 = 256 := by decide
  have z2 : (256 : Int) ^ 2 = 65536 := by decide
  have z4 : (256 : Int) ^ 4 = 4294967296 := by decide
  have z6 : (256 : Int) ^ 6 = 281474976710656 := by decide
  have r0 := getL_range h 0 1
  rw [z1] at r0
  have r1 := getL_range h 1 1
  rw [z1] at r1
  have r2 := getL_range h 2 6
  rw [z6] at r2
  have r3 := getL_range h 8 6
  rw [z6] at r3
  have r4 := getL_range h 14 4
  rw [z4] at r4
  have r5 := getL_range h 18 4
  rw [z4] at r5
  have r6 := getL_range h 22 2
  rw [z2] at r6
  have r7 := getL_range h 24 2
  rw [z2] at r7
  unfold Small
  omega

theorem bz_of (l : Nat) (zs : List Int) (hl : l ≤ 140737488351232) (hlen : zs.length = l) (h : ∀ x ∈ zs, 0 ≤ x ∧ x ≤ 255) : ∃ m0 m1 m2 m3 m4 m5 m6 m7 K, Bz l zs m0 m1 m2 m3 m4 m5 m6 m7 K ∧ ((l = 26 ∧ K = 0) ∨ (l ≠ 26 ∧ K = 60)) := by
  by_cases e : l = 26
  · subst e
    have hs := small_of h
    have r2 := getL_range h 2 6
    have r3 := getL_range h 8 6
    have hp := pk_small (getL zs 0 1) (getL zs 1 1) (getL zs 2 6) (getL zs 8 6) (getL zs 14 4) (getL zs 18 4) (getL zs 22 2) (getL zs 24 2) r2.1 r3.1 hs
    have hf : Fits [un (getL zs 0 1), un (getL zs 1 1), getL zs 2 6, getL zs 8 6, un (getL zs 14 4), un (getL zs 18 4), un (getL zs 22 2), un (getL zs 24 2)] 8 := by
      have hs' := hs
      obtain ⟨⟨p0, q0⟩, ⟨p1, q1⟩, q2, q3, ⟨p4, q4⟩, ⟨p5, q5⟩, ⟨p6, q6⟩, ⟨p7, q7⟩⟩ := hs
      exact (fits_small (getL zs 0 1) (getL zs 1 1) (getL zs 2 6) (getL zs 8 6) (getL zs 14 4) (getL zs 18 4) (getL zs 22 2) (getL zs 24 2) r2.1 r3.1 (by omega) (by omega) (by omega) (by omega) (by omega) (by omega) (by omega) (by omega) (by omega) (by omega) (by omega) (by omega)).2 hs'
    refine ⟨_, _, _, _, _, _, _, _, 0, ⟨fun w a cap hT hr => read8_ok a cap zs w hT hr, fun _ w hT => ?_⟩, Or.inl ⟨rfl, rfl⟩⟩
    refine (pack_yes (getL zs 0 1) (getL zs 1 1) (getL zs 2 6) (getL zs 8 6) (getL zs 14 4) (getL zs 18 4) (getL zs 22 2) (getL zs 24 2) w hT r2.1 r3.1 hf).mono fun e w' ⟨⟨g, c, he, ho⟩, hb⟩ => ⟨_, _, he, ?_, hb⟩
    rw [hp, tagL_back zs hlen h] at ho
    exact ho
  · exact ⟨0, 0, 0, 0, 0, 0, 0, 0, 60, ⟨fun w a cap hT hr => read8_bad a l cap w (by omega) e, fun h => absurd h e⟩, Or.inr ⟨e, rfl⟩⟩

theorem no_rows (n0 n1 n2 n3 n4 n5 n6 n7 : Int) (h2 : 0 ≤ n2) (h3 : 0 ≤ n3) (hns : ¬ Small n0 n1 n2 n3 n4 n5 n6 n7) (hff : Fits [un n0, un n1, n2, n3, un n4, un n5, un n6, un n7] 8 ↔ Small n0 n1 n2 n3 n4 n5 n6 n7) : Bx n0 n1 n2 n3 n4 n5 n6 n7 [] [] 0 0 61 := by
  have hf : ¬ Fits [un n0, un n1, n2, n3, un n4, un n5, un n6, un n7] 8 := fun h => hns (hff.1 h)
  exact ⟨rfl, rfl, by simp, by simp, fun w hT => (pack_no n0 n1 n2 n3 n4 n5 n6 n7 w hT h2 h3 hf).mono fun e w' ⟨he, hb⟩ => ⟨_, _, he, World.ownsRow_nil _ _ _ _, hb⟩, fun w hT => (tlay_no n0 n1 n2 n3 n4 n5 n6 n7 w hT h2 h3 hf).mono fun e w' ⟨he, hb⟩ => ⟨_, _, he, World.ownsRow_nil _ _ _ _, hb⟩⟩

theorem backWalk (B P sec n0 n1 n2 n3 n4 n5 n6 n7 : Int) (a : Option Addr) (l cap : Nat) (zs : List Int) (w : World) (_g0 : (Lit.int .i64 B).wf = true) (_g1 : (Lit.int .i64 P).wf = true) (_g2 : (Lit.int .i64 sec).wf = true)
    (w0 : (Lit.int .i64 n0).wf = true) (w1 : (Lit.int .i64 n1).wf = true) (w2 : (Lit.int .u64 n2).wf = true) (w3 : (Lit.int .u64 n3).wf = true) (w4 : (Lit.int .i64 n4).wf = true) (w5 : (Lit.int .i64 n5).wf = true) (w6 : (Lit.int .i64 n6).wf = true) (w7 : (Lit.int .i64 n7).wf = true)
    (hw : Reads w a l zs) (hs : l ≤ 140737488351232) (_hc : l ≤ cap) (hT : Tab w) :
    Calls Tryd.prog 7 #[.agg #[.int .i64 B, .int .i64 P, .int .i64 sec], T8 n0 n1 n2 n3 n4 n5 n6 n7, .slice a l cap] w fun e w' => e = .returned (.bool true) ∧ Below w.heap.size w w' := by
  have b0 := bounds_i64 w0
  have b1 := bounds_i64 w1
  have b2 := bounds_u64 w2
  have b3 := bounds_u64 w3
  have b4 := bounds_i64 w4
  have b5 := bounds_i64 w5
  have b6 := bounds_i64 w6
  have b7 := bounds_i64 w7
  obtain ⟨m0, m1, m2, m3, m4, m5, m6, m7, K, hz, hK⟩ := bz_of l zs hs hw.1 hw.2.1
  obtain ⟨N, M, C, Q, L, hN, hM, nQ, nL, rQ, rL, hcase, c14, c15, c16, c17⟩ := packs_all n0 n1 n2 n3 n4 n5 n6 n7 b2.1 b3.1 b0.1 b0.2 b1.1 b1.2 b4.1 b4.2 b5.1 b5.2 b6.1 b6.2 b7.1 b7.2
  rcases hcase with ⟨hsm, rfl, rfl, rfl, rfl, rfl⟩ | ⟨hns, rfl⟩
  · have hx : Bx n0 n1 n2 n3 n4 n5 n6 n7 (tagL n0 n1 n2 n3 n4 n5 n6 n7) (railL (tagL n0 n1 n2 n3 n4 n5 n6 n7)) 26 54 0 := ⟨nQ, nL, rQ, rL, c16, c17⟩
    rcases hK with ⟨rfl, hK⟩ | ⟨hne, hK⟩
    · exact backA B P sec n0 n1 n2 n3 n4 n5 n6 n7 _ a cap zs m0 m1 m2 m3 m4 m5 m6 m7 K w hT b2.1 b3.1 rfl hsm hx hz hw hK
    · exact backB B P sec n0 n1 n2 n3 n4 n5 n6 n7 _ a l cap zs m0 m1 m2 m3 m4 m5 m6 m7 K w hT b2.1 b3.1 rfl hsm hx hz hw hK hne hs
  · have hne : chk.chkE B P sec n0 n1 n2 n3 n4 n5 n6 n7 ≠ 0 := by
      intro h
      obtain ⟨f1, f2, f3, f4⟩ := chkE_0 h
      have g1 := of_decide_eq_true f1
      have g2 := of_decide_eq_true f2
      have g3 := of_decide_eq_true f3
      have g4 := of_decide_eq_true f4
      apply hns
      unfold Small
      omega
    have hx := no_rows n0 n1 n2 n3 n4 n5 n6 n7 b2.1 b3.1 hns (fits_small n0 n1 n2 n3 n4 n5 n6 n7 b2.1 b3.1 b0.1 b0.2 b1.1 b1.2 b4.1 b4.2 b5.1 b5.2 b6.1 b6.2 b7.1 b7.2)
    rcases hK with ⟨rfl, hK⟩ | ⟨hl, hK⟩
    · exact backC B P sec n0 n1 n2 n3 n4 n5 n6 n7 _ a cap zs m0 m1 m2 m3 m4 m5 m6 m7 K w hT b2.1 b3.1 rfl hx hne hz hw hK
    · exact backD B P sec n0 n1 n2 n3 n4 n5 n6 n7 _ a l cap zs m0 m1 m2 m3 m4 m5 m6 m7 K w hT b2.1 b3.1 rfl hx hne hz hw hK hl hs
end Go.Proofs.YtgdmagmbkmgdfaaDoor
