/-
  SEAT Ytejonebnmeinhab: JudgeChecks, its walk.
-/
import Derived.Test.YtejonebnmeinhabRefG
import Derived.Test.YtejonebnmeinhabKept
import Derived.Test.YtejonebnmeinhabTurnsW
namespace Go.Proofs.Ytejonebnmeinhab
open Go.RowKit
set_option linter.unusedVariables false

theorem ownB_grown {w w' : World} {B E S n : Nat} {v : Value} {xs : List Value} (h : w.ownsRow B E S v n xs) (hg : w.grownBy w' none) : w'.ownsRow B E S v n xs :=
  ⟨h.1, by
    rcases h.2 with h1 | ⟨g, cap, cur, hv, hb, hg', r⟩
    · exact Or.inl h1
    · exact Or.inr ⟨g, cap, cur, hv, hb, by rw [hg.block g (Array.getElem?_eq_some_iff.1 hg').1 (by simp)]; exact hg', r⟩⟩

/-- What either Check answers: one number, one error. -/
theorem checks_both (b p s : Int) (len n : Nat) (bs : List Bool) (cs : List Cmd) (clean : Bool) (hl : len ≤ 140737488355000) (hn : n * 32 ≤ 140737488351232) : ∃ N E : Int,
    (∀ (a a' : Option Addr) (cap cap' : Nat) (w : World), ReadsB w a len bs → ReadsC w a' n cs → Calls Try.prog 27 #[.agg #[.int .i64 b, .int .i64 p, .int .i64 s], .slice a len cap, .bool clean, .slice a' n cap'] w fun e w' => e = .returned (.tuple #[.int .i64 N, .int .i64 E]) ∧ Below w.heap.size w w') ∧
    (∀ (a a' : Option Addr) (cap cap' : Nat) (w : World), ReadsB w a len bs → ReadsC w a' n cs → Calls Try.prog 22 #[.agg #[.int .i64 b, .int .i64 p, .int .i64 s], .slice a len cap, .bool clean, .slice a' n cap'] w fun e w' => e = .returned (.tuple #[.int .i64 N, .int .i64 E]) ∧ Below w.heap.size w w') := by
  by_cases hE : newE b p s len = 0
  · exact ⟨_, _, fun a a' cap cap' w h hc => rcheck_ok b p s a a' len cap n cap' bs cs clean w hE h hc hn, fun a a' cap cap' w h hc => check_ok b p s a a' len cap n cap' bs cs clean w hE h hc (by omega)⟩
  · exact ⟨_, _, fun a a' cap cap' w h hc => rcheck_bad b p s a a' len cap n cap' clean w hl hE, fun a a' cap cap' w h hc => check_bad b p s a a' len cap n cap' clean w hl hE⟩

set_option maxHeartbeats 2000000 in
set_option maxRecDepth 100000 in
theorem checks_walk (b p s : Int) (a1 : Option Addr) (len cap : Nat) (bs : List Bool) (clean : Bool) (a3 : Option Addr) (n cap3 : Nat) (cs : List Cmd) (w : World) (wb : Wf b) (wp : Wf p) (ws : Wf s) (hb : ReadsB w a1 len bs) (hl : len ≤ 140737488351232) (hc : ReadsC w a3 n cs) (hn : n * 32 ≤ 140737488351232) :
    Calls Try.prog 7 #[.agg #[.int .i64 b, .int .i64 p, .int .i64 s], .slice a1 len cap, .bool clean, .slice a3 n cap3] w fun e w' => e = .returned (.bool true) ∧ Below w.heap.size w w' := by
  obtain ⟨w0, hw0⟩ : ∃ w0, w0 = w.alloc (.cells #[.int .i64 b, .int .i64 p, .int .i64 s] 23) := ⟨_, rfl⟩
  have g0 : w.grownBy w0 none := by rw [hw0]; exact World.grownBy_alloc _ _ _
  have hS : ∀ x, w0.grownBy x none → x.cell? ⟨w.heap.size, 0, none⟩ = some (.int .i64 b) ∧ x.cell? ⟨w.heap.size, 1, none⟩ = some (.int .i64 p) ∧ x.cell? ⟨w.heap.size, 2, none⟩ = some (.int .i64 s) := fun x hx => box_cells (by rw [hw0] at hx; exact hx)
  have HW : Hid (w0 = w.alloc (.cells #[.int .i64 b, .int .i64 p, .int .i64 s] 23)) := hw0
  have HS : Hid _ := hS
  have hlen := hb.1
  have hclen := hc.1
  obtain ⟨N, E, hr, hk⟩ := checks_both b p s len n bs cs clean (by omega) hn
  have HR : Hid _ := hr
  have HK : Hid _ := hk
  clear hw0 hS hr hk
  go_enter Try.func7, Try.ntmps7
  go_wp2_with (first
    | (go_at_call 27; rw [← HW.out]; refine (HR.out _ _ _ _ _ (hb.below (below_of g0)) (hc.below (below_of g0))).mono ?_; rintro e u1 ⟨rfl, bel1⟩; have g1 := grown_of bel1 none; have bw1 := below_of (grownBy_trans g0 g1))
    | (go_at_call 23; refine (marks_any _ _ _ bs _ hl (hb.below bw1)).mono ?_; rintro e u2 ⟨gm, cm, rfl, hcm, ownm, belm⟩; have g2 := grownBy_trans g1 (grown_of belm none); have bw2 := below_trans bw1 belm)
    | (go_at_call 24; refine (trace_any _ _ _ cs _ (by omega) (hc.below bw2)).mono ?_; rintro e u3 ⟨gt, ct, rfl, hct, ownt, belt⟩; have g3 := grownBy_trans g2 (grown_of belt none); have bw3 := below_trans bw2 belt; have ownm3 := ownB_grown ownm (grown_of belt none); obtain ⟨c0, c1, c2⟩ := HS.out u3 g3)
    | (go_at_call 22; refine (HK.out _ _ _ _ _ (marksR hlen ownm3) (traceR hclen hc.2.1 ownt)).mono ?_; rintro e u4 ⟨rfl, bel4⟩; have g4 := grown_of bel4 none; have bw4 := below_trans bw3 bel4; have ownm4 := ownB_grown ownm3 g4; have ownt4 := ownB_grown ownt g4)
    | (go_at_call 28; refine (marksKept_any _ _ _ _ _ _ bs _ hl (hb.below bw4) hcm ownm4).mono ?_; rintro e u5 ⟨rfl, q1, rfl⟩; have bw5 := below_drewN bw4 q1; have ownt5 := ownB_grown ownt4 (drewN_grown _ q1 none))
    | (go_at_call 29; refine (traceKept_any _ _ _ _ _ _ cs _ hn (hc.below bw5) hct ownt5).mono ?_; rintro e u6 ⟨rfl, q2, rfl⟩))
  go_ret
  exact ⟨rfl, below_drewN bw4 _⟩
end Go.Proofs.Ytejonebnmeinhab
