/-
  SEAT Ytejonebnmeinhab: JudgeLess, its walk of what may be.
-/
import Derived.Test.YtejonebnmeinhabLessB
import Derived.Deep.DeepCutAuto
import Derived.Deep.CutRange
namespace Go.Proofs.Ytejonebnmeinhab
open Go.RowKit
set_option linter.unusedVariables false

theorem rv_nil (w : World) : RV w none 0 4 (flat []) := ⟨rfl, (fun _ => rfl), (fun y hy => by cases hy)⟩

set_option maxHeartbeats 8000000 in
set_option maxRecDepth 100000 in
theorem less_Z (b p s : Int) (a1 a4 : Option Addr) (len cap l4 cap4 : Nat) (bs : List Bool) (clean : Bool) (blk at0 : Int) (w : World) (hb : ReadsB w a1 len bs) (hl : len ≤ 140737488351232)  (wb : Wf blk) (wa : Wf at0) (hE : newE b p s len = 0) 
    (HR0 : ∀ (a a' : Option Addr) (cap cap' : Nat) (w : World), ReadsB w a len bs → ReadsC w a' 0 [] → Calls Try.prog 27 #[.agg #[.int .i64 b, .int .i64 p, .int .i64 s], .slice a len cap, .bool clean, .slice a' 0 cap'] w fun e w' => e = .returned (.tuple #[.int .i64 (-1), .int .i64 0]) ∧ Below w.heap.size w w') :
    Calls Try.prog 6 #[.agg #[.int .i64 b, .int .i64 p, .int .i64 s], .slice a1 len cap, .bool clean, .slice none 0 0, .slice a4 l4 cap4, .int .i64 blk, .int .i64 at0] w fun e w' => e = .returned (.bool true) ∧ Below w.heap.size w w' := by
  have hb0 : Below w.heap.size w (w.alloc (.cells #[.int .i64 b, .int .i64 p, .int .i64 s] 23)) := (Below.refl _ _).alloc (Nat.le_refl _) _
  obtain ⟨w0, hw0⟩ : ∃ w0, w0 = w.alloc (.cells #[.int .i64 b, .int .i64 p, .int .i64 s] 23) := ⟨_, rfl⟩
  have hS : ∀ x, w0.grownBy x none → x.cell? ⟨w.heap.size, 0, none⟩ = some (.int .i64 b) ∧ x.cell? ⟨w.heap.size, 1, none⟩ = some (.int .i64 p) ∧ x.cell? ⟨w.heap.size, 2, none⟩ = some (.int .i64 s) := fun x hx => box_cells (by rw [hw0] at hx; exact hx)
  rw [← hw0] at hb0
  have hlen := hb.1
  have hc : ReadsC w none 0 [] := ⟨rfl, (fun _ h => by cases h), (fun _ => rfl), fun _ h => by cases h⟩
  have hf : Fits b p s = true := by
    cases hf : Fits b p s with
    | true => rfl
    | false => simp [newE, hf] at hE
  have hbd := fits_b hf
  have hlb : (len : Int) = b := by
    by_cases hb : (len : Int) = b
    · exact hb
    · simp [newE, hf, hb] at hE
  obtain ⟨st, hst⟩ : ∃ st, start clean p bs = st := ⟨_, rfl⟩
  have hsl : st.length = len := by rw [← hst, start_length]; exact hlen
  have hR : chkI (chk p st []) = -1 := rfl
  have HR : Hid _ := HR0
  have HMK : Hid _ := make8
  have hm8 := make8 (w.alloc (.cells #[.int .i64 b, .int .i64 p, .int .i64 s] 23))
  have H8 : Hid (ReadsB (((w.alloc (.cells #[.int .i64 b, .int .i64 p, .int .i64 s] 23)).alloc (.cells #[.bool false, .bool false, .bool false, .bool false, .bool false, .bool false, .bool false, .bool false] 4)).alloc (.cells #[.int .i64 1, .int .i64 0, .int .i64 0, .int .i64 0, .int .i64 1, .int .i64 0, .int .i64 0, .int .i64 0] 73)) (some ⟨w.heap.size + 1, 0, none⟩) 8 F8) := by
    have h := reads8 (w := w.alloc (.cells #[.int .i64 b, .int .i64 p, .int .i64 s] 23)) (World.grownBy_alloc _ (.cells #[.int .i64 1, .int .i64 0, .int .i64 0, .int .i64 0, .int .i64 1, .int .i64 0, .int .i64 0, .int .i64 0] 73) none)
    rw [show (w.alloc (.cells #[.int .i64 b, .int .i64 p, .int .i64 s] 23)).heap.size = w.heap.size + 1 by simp] at h
    exact h
  have HT : Hid (ReadsC (((w.alloc (.cells #[.int .i64 b, .int .i64 p, .int .i64 s] 23)).alloc (.cells #[.bool false, .bool false, .bool false, .bool false, .bool false, .bool false, .bool false, .bool false] 4)).alloc (.cells #[.int .i64 1, .int .i64 0, .int .i64 0, .int .i64 0, .int .i64 1, .int .i64 0, .int .i64 0, .int .i64 0] 73)) (some ⟨w.heap.size + 1 + 1, 0, none⟩) 2 T2) := by
    have h := readsT2 ((w.alloc (.cells #[.int .i64 b, .int .i64 p, .int .i64 s] 23)).alloc (.cells #[.bool false, .bool false, .bool false, .bool false, .bool false, .bool false, .bool false, .bool false] 4))
    simp only [World.size_alloc] at h
    exact h
  have gA : w0.grownBy (((w.alloc (.cells #[.int .i64 b, .int .i64 p, .int .i64 s] 23)).alloc (.cells #[.bool false, .bool false, .bool false, .bool false, .bool false, .bool false, .bool false, .bool false] 4)).alloc (.cells #[.int .i64 1, .int .i64 0, .int .i64 0, .int .i64 0, .int .i64 1, .int .i64 0, .int .i64 0, .int .i64 0] 73)) none := by rw [hw0]; exact gb_alloc (World.grownBy_alloc _ _ none) _
  have HS : Hid _ := hS
  clear HR0 hS hw0 HMK
  go_enter Try.func6, Try.ntmps6
  go_wp2_with (first
    | (go_at_call 22; refine (check_ok 8 4 1 (some ⟨w.heap.size + 1, 0, none⟩) (some ⟨w.heap.size + 1 + 1, 0, none⟩) 8 8 2 2 F8 T2 true _ new8 H8.out HT.out (by omega)).mono ?_; rintro e u1 ⟨rfl, bel1⟩; rw [twice_is]; have g1 := grownBy_trans gA (grown_of bel1 none); have bw1 := below_trans hb0 (below_of g1); obtain ⟨c0, c1, c2⟩ := HS.out _ g1; clear hm8))
  go_region_held3 (fun x => w0.grownBy x none ∧ x.cell? ⟨w.heap.size, 0, none⟩ = some (.int .i64 b) ∧ x.cell? ⟨w.heap.size, 1, none⟩ = some (.int .i64 p) ∧ x.cell? ⟨w.heap.size, 2, none⟩ = some (.int .i64 s))
    ((refine (fun hx => ⟨hx, HS.out _ hx⟩) ?_; first | exact gb_drew g1 | exact g4 | exact g3 | exact g2))
    (first
      | (go_at_call 23; refine (marks_any _ _ _ bs _ hl ?_).mono ?_; exact hb.below bw1.drew; rintro e u2 ⟨gm, cm, rfl, hcm, ownm, belm⟩; have g2 := grownBy_trans (gb_drew g1) (grown_of belm none); have bw2 := below_trans bw1.drew belm; have rm2 := marksR hlen ownm)
      | (go_at_call 24; refine (trace_any _ _ _ [] _ (by decide) ?_).mono ?_; exact hc.below bw2; rintro e u3 ⟨gt, ct, rfl, hct, ownt, belt⟩; have g3 := grownBy_trans g2 (grown_of belt none); have bw3 := below_trans bw2 belt; have rm3 := rm2.below belt; have rt3 := traceR rfl hc.2.1 ownt)
      | (go_at_call 22; refine (check_ok b p s _ _ _ _ _ _ bs [] _ _ hE rm3 rt3 (show (0 : Nat) ≤ 140737488355000 by decide)).mono ?_; rintro e u4 ⟨rfl, belk⟩; rw [hst, hR]; have g4 := grownBy_trans g3 (grown_of belk none); have bw4 := below_trans bw3 belk; clear ownm ownt rm2 rm3 rt3 g1 g2 g3 bw1 bw2 bw3 belm belt))
  obtain ⟨c0, c1, c2⟩ := HS.out _ g4
  go_upto_region 10 with (first
    | (go_at_call 27; refine (HR.out _ _ _ _ _ (hb.below bw4) (hc.below bw4)).mono ?_; rintro e u5 ⟨rfl, bel5⟩; have g5 := grownBy_trans g4 (grown_of bel5 none); have bw5 := below_trans bw4 bel5; obtain ⟨d0, d1, d2⟩ := HS.out _ g5; clear g4 bw4 c0 c1 c2))
  go_cut [86] (fun s86 wx => s86 = .bool (decide (blk < 0 ∨ b ≤ blk)) ∧ u5 = wx)
  case first =>
    by_cases q0 : blk < 0
    · go_wp2
      go_meet
      exact ⟨congrArg Value.bool (decide_eq_true (by omega)).symm, rfl⟩
    · by_cases q1 : b ≤ blk
      · go_wp2
        go_meet
        exact ⟨congrArg Value.bool (decide_eq_true (by omega)).symm, rfl⟩
      · go_wp2
        go_meet
        exact ⟨congrArg Value.bool (decide_eq_false (by omega)).symm, rfl⟩
  case rest =>
  obtain ⟨rfl, rfl⟩ := hcut
  go_upto_if 86 with fail
  go_cut [5] (fun s5 wx => ∃ q : Nat, q < len ∧ s5 = .int .i64 (q : Int) ∧ u5 = wx)
  case first =>
    by_cases q0 : blk < 0 ∨ b ≤ blk
    · have q1 : decide (blk < 0 ∨ b ≤ blk) = true := decide_eq_true q0
      go_wp2
      go_meet
      exact ⟨0, by omega, rfl, rfl⟩
    · have q1 : decide (blk < 0 ∨ b ≤ blk) = false := decide_eq_false q0
      go_wp2
      go_meet
      exact ⟨blk.toNat, by omega, by congr 1; omega, rfl⟩
  case rest =>
  obtain ⟨q, hq, rfl, rfl⟩ := hcut
  obtain ⟨i0, hi, hz0, hz1, hz2⟩ := info_parts info73
  have HI : Hid (Try.prog.info? 73 = some i0 ∧ i0.zero = some (.agg #[.int .i64 0, .int .i64 0, .int .i64 0, .int .i64 0]) ∧ i0.size = 4 ∧ i0.bytes = 32) := ⟨hi, hz0, hz1, hz2⟩
  have hq9 : q ≤ 100000 := by omega
  have PK : Hid (ReadsB u5 a1 len bs ∧ w0.grownBy u5 none ∧ Below w.heap.size w u5 ∧ newE b p s len = 0 ∧ start clean p bs = st ∧ st.length = len ∧ q < len ∧ len ≤ 140737488351232 ∧ bs.length = len ∧ q ≤ 100000) := ⟨hb.below bw5, g5, bw5, hE, hst, hsl, hq, hl, hlen, hq9⟩
  clear hb hc hl wb wa hE hb0 hlen hf hbd hlb hR hst hsl HR H8 HT gA bel1 c0 c1 c2 hcm hct belk bel5 g5 bw5 d0 d1 d2 hq hi hz0 hz1 hz2 hq9
  go_wp2
  go_loopw [21, 22, 23] (fun s21 s22 s23 wr => s21 = .slice none 0 0 ∧ s22 = .int .i64 (-1) ∧ s23 = .int .i64 0 ∧ u5 = wr) (fun _ _ _ _ => 0)
  case atStart => exact ⟨rfl, rfl, rfl, rfl⟩
  case round =>
  obtain ⟨rfl, rfl, rfl, rfl⟩ := hrel
  go_upto_region 21 with fail
  go_cut [135] (fun s135 wx => s135 = .bool (decide (at0 ≤ -1 ∨ (0 : Int) < at0)) ∧ u5 = wx)
  case first =>
    by_cases q0 : at0 ≤ -1
    · go_wp2
      go_meet
      exact ⟨congrArg Value.bool (decide_eq_true (by omega)).symm, rfl⟩
    · by_cases q1 : (0 : Int) < at0
      · go_wp2
        go_meet
        exact ⟨congrArg Value.bool (decide_eq_true (by omega)).symm, rfl⟩
      · go_wp2
        go_meet
        exact ⟨congrArg Value.bool (decide_eq_false (by omega)).symm, rfl⟩
  case rest =>
  obtain ⟨rfl, rfl⟩ := hcut
  go_upto_if 135 with fail
  go_cut [6] (fun s6 wx => s6 = .int .i64 0 ∧ u5 = wx)
  case first =>
    by_cases q0 : at0 ≤ -1 ∨ (0 : Int) < at0
    · have q1 : decide (at0 ≤ -1 ∨ (0 : Int) < at0) = true := decide_eq_true q0
      go_wp2
      go_meet
      exact ⟨rfl, rfl⟩
    · have q1 : decide (at0 ≤ -1 ∨ (0 : Int) < at0) = false := decide_eq_false q0
      go_wp2
      go_meet
      exact ⟨by congr 1; omega, rfl⟩
  case rest =>
  obtain ⟨rfl, rfl⟩ := hcut
  go_upto_region 23 with fail
  have HD : Hid (0 + 0 ≤ maxLen ∧ (0 + 0) * 32 ≤ 140737488355328 ∧ 0 + 0 + 1 ≤ maxLen ∧ (0 + 0 + 1) * 32 ≤ 140737488355328 ∧ 0 + 0 + 1 + 0 ≤ maxLen ∧ (0 + 0 + 1 + 0) * 32 ≤ 140737488355328) := by
    unfold Hid maxLen
    omega
  have a0 : Below u5.heap.size u5 u5 := Below.refl _ _
  have a1 := a0.alloc (Nat.le_refl _) (.cells #[] 73)
  have a2 := a1.alloc a1.size (.cells #[.int .i64 3, .int .i64 (q : Int), .int .i64 0, .int .i64 0] 73)
  have a3 := a0.alloc (Nat.le_refl _) (.cells #[.int .i64 3, .int .i64 (q : Int), .int .i64 0, .int .i64 0] 73)
  have a4 := a3.alloc a3.size (.cells #[] 73)
  have b1 : Below u5.heap.size u5 ((u5.alloc (.cells #[] 73)).drew) := a1.drew
  have b2 : Below u5.heap.size u5 (((u5.alloc (.cells #[] 73)).alloc (.cells #[.int .i64 3, .int .i64 (q : Int), .int .i64 0, .int .i64 0] 73)).drew) := a2.drew
  have c2 : Below u5.heap.size u5 (((u5.alloc (.cells #[.int .i64 3, .int .i64 (q : Int), .int .i64 0, .int .i64 0] 73)).alloc (.cells #[] 73)).drew) := a4.drew
  have p1 : (u5.alloc (.cells #[] 73)).ownsRow u5.heap.size 73 4 (.slice (some ⟨u5.heap.size, 0, none⟩) 0 0) 0 [] := own_made u5 u5.heap.size (Nat.le_refl _)
  have o1 : ((u5.alloc (.cells #[] 73)).drew).ownsRow u5.heap.size 73 4 (.slice (some ⟨u5.heap.size, 0, none⟩) 0 0) 0 [] := p1.drew
  have o2 : (((u5.alloc (.cells #[] 73)).alloc (.cells #[.int .i64 3, .int .i64 (q : Int), .int .i64 0, .int .i64 0] 73)).drew).ownsRow u5.heap.size 73 4 (.slice (some ⟨u5.heap.size, 0, none⟩) 0 0) 0 [] := (p1.alloc (.cells #[.int .i64 3, .int .i64 (q : Int), .int .i64 0, .int .i64 0] 73)).drew
  have o3 : (((u5.alloc (.cells #[.int .i64 3, .int .i64 (q : Int), .int .i64 0, .int .i64 0] 73)).alloc (.cells #[] 73)).drew).ownsRow u5.heap.size 73 4 (.slice (some ⟨u5.heap.size + 1, 0, none⟩) 0 0) 0 [] := by
    have h := own_made (u5.alloc (.cells #[.int .i64 3, .int .i64 (q : Int), .int .i64 0, .int .i64 0] 73)) u5.heap.size a3.size
    rw [World.size_alloc] at h
    exact h.drew
  have rC2 : RV (((u5.alloc (.cells #[] 73)).alloc (.cells #[.int .i64 3, .int .i64 (q : Int), .int .i64 0, .int .i64 0] 73)).drew) (some ⟨u5.heap.size + 1, 0, none⟩) 1 4 [.int .i64 3, .int .i64 (q : Int), .int .i64 0, .int .i64 0] := by
    have h := rv_block (w := u5.alloc (.cells #[] 73)) (cs := #[.int .i64 3, .int .i64 (q : Int), .int .i64 0, .int .i64 0]) (t := 73) (m := 1) (size := 4) rfl
    rw [World.size_alloc] at h
    exact h.grown (drew_grown _ none) (by simp)
  have rC3 : RV (((u5.alloc (.cells #[.int .i64 3, .int .i64 (q : Int), .int .i64 0, .int .i64 0] 73)).alloc (.cells #[] 73)).drew) (some ⟨u5.heap.size, 0, none⟩) 1 4 [.int .i64 3, .int .i64 (q : Int), .int .i64 0, .int .i64 0] := (rv_block (w := u5) (cs := #[.int .i64 3, .int .i64 (q : Int), .int .i64 0, .int .i64 0]) (t := 73) (m := 1) (size := 4) rfl).grown (gb_drew (World.grownBy_alloc _ _ none)) (by simp)
  have P23 : Hid (Below u5.heap.size u5 ((u5.alloc (.cells #[] 73)).drew) ∧ Below u5.heap.size u5 (((u5.alloc (.cells #[] 73)).alloc (.cells #[.int .i64 3, .int .i64 (q : Int), .int .i64 0, .int .i64 0] 73)).drew) ∧ Below u5.heap.size u5 (((u5.alloc (.cells #[.int .i64 3, .int .i64 (q : Int), .int .i64 0, .int .i64 0] 73)).alloc (.cells #[] 73)).drew) ∧ ((u5.alloc (.cells #[] 73)).drew).ownsRow u5.heap.size 73 4 (.slice (some ⟨u5.heap.size, 0, none⟩) 0 0) 0 [] ∧ (((u5.alloc (.cells #[] 73)).alloc (.cells #[.int .i64 3, .int .i64 (q : Int), .int .i64 0, .int .i64 0] 73)).drew).ownsRow u5.heap.size 73 4 (.slice (some ⟨u5.heap.size, 0, none⟩) 0 0) 0 [] ∧ (((u5.alloc (.cells #[.int .i64 3, .int .i64 (q : Int), .int .i64 0, .int .i64 0] 73)).alloc (.cells #[] 73)).drew).ownsRow u5.heap.size 73 4 (.slice (some ⟨u5.heap.size + 1, 0, none⟩) 0 0) 0 [] ∧ RV (((u5.alloc (.cells #[] 73)).alloc (.cells #[.int .i64 3, .int .i64 (q : Int), .int .i64 0, .int .i64 0] 73)).drew) (some ⟨u5.heap.size + 1, 0, none⟩) 1 4 [.int .i64 3, .int .i64 (q : Int), .int .i64 0, .int .i64 0] ∧ RV (((u5.alloc (.cells #[.int .i64 3, .int .i64 (q : Int), .int .i64 0, .int .i64 0] 73)).alloc (.cells #[] 73)).drew) (some ⟨u5.heap.size, 0, none⟩) 1 4 [.int .i64 3, .int .i64 (q : Int), .int .i64 0, .int .i64 0]) := ⟨b1, b2, c2, o1, o2, o3, rC2, rC3⟩
  clear a0 a1 a2 a3 a4 b1 b2 c2 p1 o1 o2 o3 rC2 rC3
  go_cut [24] (fun s24 wx => ∃ aw kw, s24 = .slice aw (0 + 1) kw ∧ Hid (ReadsC wx aw (0 + 1) ([] ++ [⟨3, (q : Int), 0, 0⟩] ++ [])) ∧ Below u5.heap.size u5 wx)
  case first =>
    go_region_held3 (fun _ => True) (trivial)
      (first
        | (refine step_append_src (by rfl) (.tmp 138) (.tmp 141) 62 (by rfl) u5.heap.size 73 i0 _ 4 32 Try.underlying62 HI.out.1 HI.out.2.1 HI.out.2.2.1 HI.out.2.2.2 rfl (by decide) (.slice (some ⟨u5.heap.size, 0, none⟩) 0 0) 0 [] ?_ ?_ none 0 0 (flat []) (by rfl) ?_ (flat_one []) HD.out.1 HD.out.2.1 ?_ ?_; exact rfl; with_reducible exact P23.out.2.2.2.1; exact (rv_nil _); exact P23.out.1.size; intro v1 w1 own1 grow1; have bw1 := P23.out.1.grown grow1 P23.out.1.size (fun j hj => (P23.out.2.2.2.1.lt j hj).1))
        | (refine step_append_src (by rfl) (.tmp 138) (.tmp 141) 62 (by rfl) u5.heap.size 73 i0 _ 4 32 Try.underlying62 HI.out.1 HI.out.2.1 HI.out.2.2.1 HI.out.2.2.2 rfl (by decide) (.slice (some ⟨u5.heap.size, 0, none⟩) 0 0) 0 [] ?_ ?_ none 0 0 (flat []) (by rfl) ?_ (flat_one []) HD.out.1 HD.out.2.1 ?_ ?_; exact rfl; with_reducible exact P23.out.2.2.2.2.1; exact (rv_nil _); exact P23.out.2.1.size; intro v1 w1 own1 grow1; have bw1 := P23.out.2.1.grown grow1 P23.out.2.1.size (fun j hj => (P23.out.2.2.2.2.1.lt j hj).1); have rC1 := P23.out.2.2.2.2.2.2.1.grown grow1 (by intro x hx; cases hx; simp [Value.ownBlock]))
        | (refine step_append_src (by rfl) (.tmp 138) (.tmp 141) 62 (by rfl) u5.heap.size 73 i0 _ 4 32 Try.underlying62 HI.out.1 HI.out.2.1 HI.out.2.2.1 HI.out.2.2.2 rfl (by decide) (.slice (some ⟨u5.heap.size + 1, 0, none⟩) 0 0) 0 [] ?_ ?_ none 0 0 (flat []) (by rfl) ?_ (flat_one []) HD.out.1 HD.out.2.1 ?_ ?_; exact rfl; with_reducible exact P23.out.2.2.2.2.2.1; exact (rv_nil _); exact P23.out.2.2.1.size; intro v1 w1 own1 grow1; have bw1 := P23.out.2.2.1.grown grow1 P23.out.2.2.1.size (fun j hj => (P23.out.2.2.2.2.2.1.lt j hj).1); have rC1 := P23.out.2.2.2.2.2.2.2.grown grow1 (by intro x hx; cases hx; simp [Value.ownBlock]))
        | (refine step_append_src (by rfl) (.tmp 142) (.tmp 145) 62 (by rfl) u5.heap.size 73 i0 _ 4 32 Try.underlying62 HI.out.1 HI.out.2.1 HI.out.2.2.1 HI.out.2.2.2 rfl (by decide) v1 (0 + 0) ([] ++ flat []) (by rfl) own1 _ 1 _ [.int .i64 3, .int .i64 (q : Int), .int .i64 0, .int .i64 0] (by rfl) rC1 (flat_one [⟨3, (q : Int), 0, 0⟩]) HD.out.2.2.1 HD.out.2.2.2.1 bw1.size ?_; intro v2 w2 own2 grow2; have bw2 := bw1.grown grow2 bw1.size (fun j hj => (own1.lt j hj).1))
        | (refine step_append_src (by rfl) (.tmp 142) (.tmp 145) 62 (by rfl) u5.heap.size 73 i0 _ 4 32 Try.underlying62 HI.out.1 HI.out.2.1 HI.out.2.2.1 HI.out.2.2.2 rfl (by decide) v1 (0 + 0) ([] ++ flat []) (by rfl) (own1.alloc _) _ 1 _ [.int .i64 3, .int .i64 (q : Int), .int .i64 0, .int .i64 0] (by rfl) (rv_block (w := w1) (cs := #[.int .i64 3, .int .i64 (q : Int), .int .i64 0, .int .i64 0]) (t := 73) rfl) (flat_one [⟨3, (q : Int), 0, 0⟩]) HD.out.2.2.1 HD.out.2.2.2.1 (bw1.alloc bw1.size _).size ?_; intro v2 w2 own2 grow2; have bw2 := (bw1.alloc bw1.size _).grown grow2 (bw1.alloc bw1.size _).size (fun j hj => (own1.lt j hj).1))
        | (refine step_append_src (by rfl) (.tmp 146) (.tmp 149) 62 (by rfl) u5.heap.size 73 i0 _ 4 32 Try.underlying62 HI.out.1 HI.out.2.1 HI.out.2.2.1 HI.out.2.2.2 rfl (by decide) v2 (0 + 0 + 1) ([] ++ flat [] ++ [.int .i64 3, .int .i64 (q : Int), .int .i64 0, .int .i64 0]) (by rfl) own2 none 0 0 (flat []) (by rfl) (rv_nil _) (flat_one []) HD.out.2.2.2.2.1 HD.out.2.2.2.2.2 bw2.size ?_; intro v3 w3 own3 grow3; have bw3 := bw2.grown grow3 bw2.size (fun j hj => (own2.lt j hj).1)))
    all_goals go_wp2
    all_goals go_meet
    all_goals
      obtain ⟨aw, kw, rfl, hrw⟩ := with_meet (m := 0) (A := 0) (X := []) (Y := []) own3 (Nat.le_refl _) (fun c h => by cases h) (fun c h => by cases h) (by have := PK.out.2.2.2.2.2.2.2.2.2; omega)
      exact ⟨aw, kw, rfl, hrw, bw3⟩
  case rest =>
  obtain ⟨aw, kw, rfl, HRW, bwx⟩ := hcut
  obtain ⟨rb, gr, bwr, hE, hst, hsl, hq, hl, hbl, hq5⟩ := PK.out
  have gx : w0.grownBy wc none := grownBy_trans gr (grown_of bwx none)
  have bx : Below w.heap.size w wc := below_trans bwr bwx
  have rbx := rb.below bwx
  have rwx := HRW.out
  have k0 : Below wc.heap.size wc wc.drew := (Below.refl _ _).drew
  have e1 : chkI (chk p (start clean p bs) ([] : List Cmd)) = -1 := rfl
  have e2 : chkI (chk p (start clean p bs) ([] ++ [⟨3, (q : Int), 0, 0⟩] ++ [])) = -1 := by
    rw [hst]
    have := with_chk (P := p) (cs := []) (st := st) (m := 0) (A := 0) (q := q) (L := -1) rfl (Nat.le_refl _) (Nat.le_refl _) (by omega) (by omega) (fun j hj => absurd hj (Nat.not_lt_zero _))
    exact this
  have rlx : ReadsC wc none 0 ([] : List Cmd) := ⟨rfl, (fun _ h => by cases h), (fun _ => rfl), fun _ h => by cases h⟩
  have PZ : Hid (ReadsB wc a1 len bs ∧ ReadsC wc none 0 ([] : List Cmd) ∧ ReadsC wc aw (0 + 1) ([] ++ [⟨3, (q : Int), 0, 0⟩] ++ []) ∧ 0 * 32 ≤ 140737488355264 ∧ 0 ≤ 140737488355000 ∧ (0 + 1) * 32 ≤ 140737488355264 ∧ 0 + 1 ≤ 140737488355000 ∧ len ≤ 140737488351232 ∧ newE b p s len = 0 ∧ bs.length = len ∧ ([] : List Cmd).length = 0) := ⟨rbx, rlx, rwx, by decide, by decide, by decide, by decide, hl, hE, hbl, rfl⟩
  have E1 : Hid _ := e1
  have E2 : Hid _ := e2
  obtain ⟨c0, c1, c2⟩ := HS.out _ gx
  clear rb gr bwr hst hsl hq hq5 rbx rlx rwx e1 e2 hl hE hbl PK P23 HRW HI
  go_upto_region 24 with fail
  go_region_held3 (fun x => w0.grownBy x none ∧ x.cell? ⟨w.heap.size, 0, none⟩ = some (.int .i64 b) ∧ x.cell? ⟨w.heap.size, 1, none⟩ = some (.int .i64 p) ∧ x.cell? ⟨w.heap.size, 2, none⟩ = some (.int .i64 s))
    ((refine (fun hx => ⟨hx, HS.out _ hx⟩) ?_; first | exact gb_drew gx | exact g4 | exact g3 | exact g2))
    (first
      | (go_at_call 23; refine (marks_any _ _ _ bs _ PZ.out.2.2.2.2.2.2.2.1 ?_).mono ?_; exact PZ.out.1.below k0; rintro e y2 ⟨gm, cm, rfl, hcm, ownm, belm⟩; have g2 := grownBy_trans (gb_drew gx) (grown_of belm none); have k2 := below_trans k0 belm; have rm2 := marksR PZ.out.2.2.2.2.2.2.2.2.2.1 ownm)
      | (go_at_call 24; refine (trace_any _ _ _ ([] : List Cmd) _ PZ.out.2.2.2.1 ?_).mono ?_; exact PZ.out.2.1.below k2; rintro e y3 ⟨gt, ct, rfl, hct, ownt, belt⟩; have g3 := grownBy_trans g2 (grown_of belt none); have k3 := below_trans k2 belt; have rm3 := rm2.below belt; have rt3 := traceR PZ.out.2.2.2.2.2.2.2.2.2.2 PZ.out.2.1.2.1 ownt)
      | (go_at_call 22; refine (check_ok b p s _ _ _ _ _ _ bs ([] : List Cmd) _ _ PZ.out.2.2.2.2.2.2.2.2.1 rm3 rt3 PZ.out.2.2.2.2.1).mono ?_; rintro e y4 ⟨rfl, belk⟩; rw [E1.out]; have g4 := grownBy_trans g3 (grown_of belk none); have k4 := below_trans k3 belk; clear ownm ownt rm2 rm3 rt3 g2 g3 k2 k3 belm belt))
  obtain ⟨d0, d1, d2⟩ := HS.out _ g4
  have k5 : Below wc.heap.size wc y4.drew := k4.drew
  go_upto_region 25 with fail
  go_region_held3 (fun x => w0.grownBy x none ∧ x.cell? ⟨w.heap.size, 0, none⟩ = some (.int .i64 b) ∧ x.cell? ⟨w.heap.size, 1, none⟩ = some (.int .i64 p) ∧ x.cell? ⟨w.heap.size, 2, none⟩ = some (.int .i64 s))
    ((refine (fun hx => ⟨hx, HS.out _ hx⟩) ?_; first | exact gb_drew g4 | exact g8 | exact g7 | exact g6))
    (first
      | (go_at_call 23; refine (marks_any _ _ _ bs _ PZ.out.2.2.2.2.2.2.2.1 ?_).mono ?_; exact PZ.out.1.below k5; rintro e z2 ⟨gm6, cm6, rfl, hcm6, ownm6, belm6⟩; have g6 := grownBy_trans (gb_drew g4) (grown_of belm6 none); have k6 := below_trans k5 belm6; have rm6 := marksR PZ.out.2.2.2.2.2.2.2.2.2.1 ownm6)
      | (go_at_call 24; refine (trace_any _ _ _ ([] ++ [⟨3, (q : Int), 0, 0⟩] ++ []) _ PZ.out.2.2.2.2.2.1 ?_).mono ?_; exact PZ.out.2.2.1.below k6; rintro e z3 ⟨gt7, ct7, rfl, hct7, ownt7, belt7⟩; have g7 := grownBy_trans g6 (grown_of belt7 none); have k7 := below_trans k6 belt7; have rm7 := rm6.below belt7; have rt7 := traceR PZ.out.2.2.1.1 PZ.out.2.2.1.2.1 ownt7)
      | (go_at_call 22; refine (check_ok b p s _ _ _ _ _ _ bs ([] ++ [⟨3, (q : Int), 0, 0⟩] ++ []) _ _ PZ.out.2.2.2.2.2.2.2.2.1 rm7 rt7 PZ.out.2.2.2.2.2.2.1).mono ?_; rintro e z4 ⟨rfl, belk8⟩; rw [E2.out]; have g8 := grownBy_trans g7 (grown_of belk8 none); have k8 := below_trans k7 belk8))
  go_wp2
  go_ret
  exact ⟨rfl, below_trans bx k8⟩
end Go.Proofs.Ytejonebnmeinhab
