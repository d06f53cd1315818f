/-
  SEAT Ytejonebnmeinhab: the reference's Keeps, kind 1.
-/
import Derived.Test.YtejonebnmeinhabRefB
namespace Go.Proofs.Ytejonebnmeinhab
open Go.RowKit
set_option linter.unusedVariables false

set_option maxHeartbeats 1000000 in
theorem rkeeps_1ge (gr : Nat) (b p s : Int) (am : Option Addr) (lm km : Nat) (bs : List Bool) (clean : Bool) (ac : Option Addr) (n kc : Nat) (seen : List Cmd) (blk : Nat) (cp cs : Int) (w : World) (h : RefAt w gr b p s am lm km bs clean ac n kc seen)
    (hblk : blk < lm) (hb : b = lm) (ht : cs = 0 ∨ cs = 44 ∨ cs = 45) (hn : n ≤ 140737488355000) (hlm : lm ≤ 100000) (hpg : ∀ c ∈ seen, c.k = 1 → c.p + 1 ≤ 9223372036854775807) (hM0 : ¬ (markedR (bs.getD blk false) seen blk = false ∧ ¬ nextR p (firstN clean p) seen blk ≤ cp)) :
    Calls Try.prog 83 #[.pointer (some ⟨gr, 0, none⟩), .agg #[.int .i64 1, .int .i64 (blk : Int), .int .i64 cp, .int .i64 cs]] w fun e w' => e = .returned (.bool (kpt p (knowAt p clean bs seen blk) ⟨1, blk, cp, cs⟩)) ∧ Below w.heap.size w w' := by
  obtain ⟨w1, hw1⟩ : ∃ w1, w1 = w.alloc (.cells #[.int .i64 1, .int .i64 (blk : Int), .int .i64 cp, .int .i64 cs] 73) := ⟨_, rfl⟩
  have g1 : w.grownBy w1 none := by rw [hw1]; exact World.grownBy_alloc _ _ _
  have hb0 : Below w.heap.size w w1 := below_of g1
  have hS : ∀ x, w1.grownBy x none → x.cell? ⟨w.heap.size, 0, none⟩ = some (.int .i64 1) ∧ x.cell? ⟨w.heap.size, 1, none⟩ = some (.int .i64 (blk : Int)) ∧ x.cell? ⟨w.heap.size, 2, none⟩ = some (.int .i64 cp) ∧ x.cell? ⟨w.heap.size, 3, none⟩ = some (.int .i64 cs) ∧ x.cell? ⟨gr, 1, none⟩ = some (.int .i64 p) := fun x hx => by
    rw [hw1] at hx
    obtain ⟨x0, x1, x2, x3⟩ := cmd_cells hx
    exact ⟨x0, x1, x2, x3, (grownBy_trans (World.grownBy_alloc _ _ none) hx).cell h.c1 (by simp)⟩
  have hA : ∀ x, w1.grownBy x none → RefAt x gr b p s am lm km bs clean ac n kc seen := fun x hx => h.grown (grownBy_trans g1 hx)
  have d0 : w1.cell? ⟨gr, 0, none⟩ = some (.int .i64 b) := g1.cell h.c0 (by simp)
  obtain ⟨x0, x1, x2, x3, x4⟩ := hS w1 (World.grownBy.refl _ _)
  have HS : Hid _ := hS
  have HA : Hid _ := hA
  clear hS hA h
  obtain ⟨M, hM⟩ : ∃ M, markedR (bs.getD blk false) seen blk = M := ⟨_, rfl⟩
  obtain ⟨N, hN⟩ : ∃ N, nextR p (firstN clean p) seen blk = N := ⟨_, rfl⟩
  have hK : knowAt p clean bs seen blk = ⟨M, N, wearR seen blk⟩ := by unfold knowAt; rw [hM, hN]
  rw [hK]
  simp only [kpt]
  have e3 : decide ((blk : Int) < 0) = false := decide_eq_false (by omega)
  have e4 : decide (b ≤ (blk : Int)) = false := decide_eq_false (by omega)
  cases M with
  | true =>
    rcases ht with rfl | rfl | rfl
    all_goals
      go_enter Try.func83, Try.ntmps83
      go_wp2
      rw [← hw1]
      clear hw1
      go_quiet (fail)
      all_goals go_wp2_with (first | (go_at_call 84; refine (marked_any gr b p s am lm km bs clean ac n kc seen blk _ ?_ hblk hn hlm).mono ?_; exact HA.out _ (drewN_grown _ _ _); rintro e u ⟨rfl, rfl⟩; rw [hM]))
      all_goals go_ret
      all_goals exact ⟨ret_bool (by simp), below_drewN hb0 _⟩
  | false =>
    by_cases hNp : N ≤ cp
    · have hd : decide (N ≤ cp) = true := decide_eq_true hNp
      rcases ht with rfl | rfl | rfl
      all_goals
        go_enter Try.func83, Try.ntmps83
        go_wp2
        rw [← hw1]
        clear hw1
        go_quiet (fail)
        all_goals go_wp2_with (first | (go_at_call 84; refine (marked_any gr b p s am lm km bs clean ac n kc seen blk _ ?_ hblk hn hlm).mono ?_; exact HA.out _ (drewN_grown _ _ _); rintro e u ⟨rfl, rfl⟩; rw [hM]))
        all_goals
          go_region_held3 (fun x => w1.grownBy x none ∧ x.cell? ⟨w.heap.size, 0, none⟩ = some (.int .i64 1) ∧ x.cell? ⟨w.heap.size, 1, none⟩ = some (.int .i64 (blk : Int)) ∧ x.cell? ⟨w.heap.size, 2, none⟩ = some (.int .i64 cp) ∧ x.cell? ⟨gr, 1, none⟩ = some (.int .i64 p))
            ((refine (fun hx => ⟨hx, (HS.out _ hx).1, (HS.out _ hx).2.1, (HS.out _ hx).2.2.1, (HS.out _ hx).2.2.2.2⟩) ?_; first | exact gb_drew (drewN_grown _ _ _) | exact g2))
            (first | (go_at_call 85; refine (next_any gr b p s am lm km bs clean ac n kc seen _ _ ?_ hn hpg).mono ?_; exact HA.out _ (gb_drew (drewN_grown _ _ _)); rintro e u2 ⟨rfl, bel2⟩; rw [hN]; have g2 := grownBy_trans (gb_drew (drewN_grown w1 _ none)) (grown_of bel2 none)))
        all_goals go_wp2
        all_goals go_ret
        all_goals exact ⟨ret_bool (by simp), below_of (grownBy_trans g1 g2)⟩
    · exact absurd ⟨hM, by rw [hN]; exact hNp⟩ hM0
end Go.Proofs.Ytejonebnmeinhab
