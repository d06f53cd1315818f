/-
  SEAT Ytejonebnmeinhab: JudgeLess where no judge may be.
-/
import Derived.Test.YtejonebnmeinhabLessB
import Derived.Test.YtejonebnmeinhabRefG
namespace Go.Proofs.Ytejonebnmeinhab
open Go.RowKit
set_option linter.unusedVariables false

set_option maxHeartbeats 8000000 in
set_option maxRecDepth 100000 in
theorem less_bad (b p s : Int) (a1 a3 a4 : Option Addr) (len cap n cap3 l4 cap4 : Nat) (bs : List Bool) (cs : List Cmd) (clean : Bool) (blk at0 : Int) (w : World) (hb : ReadsB w a1 len bs) (hl : len ≤ 140737488351232) (hc : ReadsC w a3 n cs) (hn : n * 32 ≤ 140737488351232) (hE : newE b p s len ≠ 0) :
    Calls Try.prog 6 #[.agg #[.int .i64 b, .int .i64 p, .int .i64 s], .slice a1 len cap, .bool clean, .slice a3 n cap3, .slice a4 l4 cap4, .int .i64 blk, .int .i64 at0] w fun e w' => e = .returned (.bool true) ∧ Below w.heap.size w w' := by
  have hb0 : Below w.heap.size w (w.alloc (.cells #[.int .i64 b, .int .i64 p, .int .i64 s] 23)) := (Below.refl _ _).alloc (Nat.le_refl _) _
  obtain ⟨w0, hw0⟩ : ∃ w0, w0 = w.alloc (.cells #[.int .i64 b, .int .i64 p, .int .i64 s] 23) := ⟨_, rfl⟩
  have hS : ∀ x, w0.grownBy x none → x.cell? ⟨w.heap.size, 0, none⟩ = some (.int .i64 b) ∧ x.cell? ⟨w.heap.size, 1, none⟩ = some (.int .i64 p) ∧ x.cell? ⟨w.heap.size, 2, none⟩ = some (.int .i64 s) := fun x hx => box_cells (by rw [hw0] at hx; exact hx)
  rw [← hw0] at hb0
  have hlen := hb.1
  have hclen := hc.1
  obtain ⟨EE, hEE⟩ : ∃ EE, newE b p s len = EE := ⟨_, rfl⟩
  have hl2 : len ≤ 140737488355000 := by omega
  have e1 : (EE == 0) = false := by rw [← hEE]; simpa using hE
  have e3 : (EE != 0) = true := by rw [← hEE]; simpa using hE
  have HMK : Hid _ := make8
  have hm8 := make8 (w.alloc (.cells #[.int .i64 b, .int .i64 p, .int .i64 s] 23))
  have H8 : Hid (ReadsB (((w.alloc (.cells #[.int .i64 b, .int .i64 p, .int .i64 s] 23)).alloc (.cells #[.bool false, .bool false, .bool false, .bool false, .bool false, .bool false, .bool false, .bool false] 4)).alloc (.cells #[.int .i64 1, .int .i64 0, .int .i64 0, .int .i64 0, .int .i64 1, .int .i64 0, .int .i64 0, .int .i64 0] 73)) (some ⟨w.heap.size + 1, 0, none⟩) 8 F8) := by
    have h := reads8 (w := w.alloc (.cells #[.int .i64 b, .int .i64 p, .int .i64 s] 23)) (World.grownBy_alloc _ (.cells #[.int .i64 1, .int .i64 0, .int .i64 0, .int .i64 0, .int .i64 1, .int .i64 0, .int .i64 0, .int .i64 0] 73) none)
    rw [show (w.alloc (.cells #[.int .i64 b, .int .i64 p, .int .i64 s] 23)).heap.size = w.heap.size + 1 by simp] at h
    exact h
  have HT : Hid (ReadsC (((w.alloc (.cells #[.int .i64 b, .int .i64 p, .int .i64 s] 23)).alloc (.cells #[.bool false, .bool false, .bool false, .bool false, .bool false, .bool false, .bool false, .bool false] 4)).alloc (.cells #[.int .i64 1, .int .i64 0, .int .i64 0, .int .i64 0, .int .i64 1, .int .i64 0, .int .i64 0, .int .i64 0] 73)) (some ⟨w.heap.size + 1 + 1, 0, none⟩) 2 T2) := by
    have h := readsT2 ((w.alloc (.cells #[.int .i64 b, .int .i64 p, .int .i64 s] 23)).alloc (.cells #[.bool false, .bool false, .bool false, .bool false, .bool false, .bool false, .bool false, .bool false] 4))
    simp only [World.size_alloc] at h
    exact h
  have gA : w0.grownBy (((w.alloc (.cells #[.int .i64 b, .int .i64 p, .int .i64 s] 23)).alloc (.cells #[.bool false, .bool false, .bool false, .bool false, .bool false, .bool false, .bool false, .bool false] 4)).alloc (.cells #[.int .i64 1, .int .i64 0, .int .i64 0, .int .i64 0, .int .i64 1, .int .i64 0, .int .i64 0, .int .i64 0] 73)) none := by rw [hw0]; exact gb_alloc (World.grownBy_alloc _ _ none) _
  have HS : Hid _ := hS
  clear hS hw0 HMK
  go_enter Try.func6, Try.ntmps6
  go_wp2_with (first
    | (go_at_call 22; refine (check_ok 8 4 1 (some ⟨w.heap.size + 1, 0, none⟩) (some ⟨w.heap.size + 1 + 1, 0, none⟩) 8 8 2 2 F8 T2 true _ new8 H8.out HT.out (by omega)).mono ?_; rintro e u1 ⟨rfl, bel1⟩; rw [twice_is]; have g1 := grownBy_trans gA (grown_of bel1 none); have bw1 := below_trans hb0 (below_of g1); obtain ⟨c0, c1, c2⟩ := HS.out _ g1; clear hm8))
  go_region_held3 (fun x => w0.grownBy x none ∧ x.cell? ⟨w.heap.size, 0, none⟩ = some (.int .i64 b) ∧ x.cell? ⟨w.heap.size, 1, none⟩ = some (.int .i64 p) ∧ x.cell? ⟨w.heap.size, 2, none⟩ = some (.int .i64 s))
    ((refine (fun hx => ⟨hx, HS.out _ hx⟩) ?_; first | exact gb_drew g1 | exact g4 | exact g3 | exact g2))
    (first
      | (go_at_call 23; refine (marks_any _ _ _ bs _ hl ?_).mono ?_; exact hb.below bw1.drew; rintro e u2 ⟨gm, cm, rfl, hcm, ownm, belm⟩; have g2 := grownBy_trans (gb_drew g1) (grown_of belm none); have bw2 := below_trans bw1.drew belm; have rm2 := marksR hlen ownm)
      | (go_at_call 24; refine (trace_any _ _ _ cs _ (by omega) ?_).mono ?_; exact hc.below bw2; rintro e u3 ⟨gt, ct, rfl, hct, ownt, belt⟩; have g3 := grownBy_trans g2 (grown_of belt none); have bw3 := below_trans bw2 belt; have rm3 := rm2.below belt; have rt3 := traceR hclen hc.2.1 ownt)
      | (go_at_call 22; refine (check_bad b p s _ _ _ _ _ _ _ _ hl2 hE).mono ?_; rintro e u4 ⟨rfl, belk⟩; rw [hEE]; have g4 := grownBy_trans g3 (grown_of belk none); have bw4 := below_trans bw3 belk; clear ownm ownt rm2 rm3 rt3 g1 g2 g3 bw1 bw2 bw3 belm belt))
  obtain ⟨c0, c1, c2⟩ := HS.out _ g4
  go_wp2_with (first
    | (go_at_call 27; refine (rcheck_bad b p s _ _ _ _ _ _ _ _ hl2 hE).mono ?_; rintro e u5 ⟨rfl, bel5⟩; rw [hEE]; have bw5 := below_trans bw4 bel5))
  go_ret
  exact ⟨rfl, bw5⟩
end Go.Proofs.Ytejonebnmeinhab
