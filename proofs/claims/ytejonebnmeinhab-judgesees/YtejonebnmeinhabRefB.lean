/-
  SEAT Ytejonebnmeinhab: the reference's Keeps.
-/
import Derived.Test.YtejonebnmeinhabRefP
namespace Go.Proofs.Ytejonebnmeinhab
open Go.RowKit
set_option linter.unusedVariables false

theorem drewN_grown (w : World) (k : Nat) (r : Option Nat) : w.grownBy (w.drewN k) r := ⟨rfl, rfl, rfl, Nat.le_refl _, fun _ _ _ => rfl⟩

theorem see_none {P : Int} {st : List Blk} {c : Cmd} (h : ¬ (0 ≤ c.b ∧ c.b < st.length ∧ taken c.s = true ∧ kpt P (st.getD c.b.toNat Blk.zero) c = true)) : (see P st c).isSome = false := by
  unfold see
  rw [if_neg h]
  rfl
theorem see_some {P : Int} {st : List Blk} {c : Cmd} (h : 0 ≤ c.b ∧ c.b < st.length ∧ taken c.s = true ∧ kpt P (st.getD c.b.toNat Blk.zero) c = true) : (see P st c).isSome = true := by
  unfold see
  rw [if_pos h]
  rfl
theorem see_is {P : Int} {st : List Blk} {c : Cmd} (h : 0 ≤ c.b ∧ c.b < st.length ∧ taken c.s = true) : (see P st c).isSome = kpt P (st.getD c.b.toNat Blk.zero) c := by
  cases hk : kpt P (st.getD c.b.toNat Blk.zero) c with
  | true => exact see_some ⟨h.1, h.2.1, h.2.2, hk⟩
  | false => exact see_none (by rw [hk]; simp)
theorem kpt_other {P : Int} {b : Blk} {c : Cmd} (h : c.k < 1 ∨ 3 < c.k) : kpt P b c = false := by
  cases hk : kpt P b c with
  | false => rfl
  | true => have := kpt_kind hk; omega

theorem cmd_cells {w u : World} {k cb cp cs : Int} (h : (w.alloc (.cells #[.int .i64 k, .int .i64 cb, .int .i64 cp, .int .i64 cs] 73)).grownBy u none) :
    u.cell? ⟨w.heap.size, 0, none⟩ = some (.int .i64 k) ∧ u.cell? ⟨w.heap.size, 1, none⟩ = some (.int .i64 cb) ∧ u.cell? ⟨w.heap.size, 2, none⟩ = some (.int .i64 cp) ∧ u.cell? ⟨w.heap.size, 3, none⟩ = some (.int .i64 cs) := by
  refine ⟨?_, ?_, ?_, ?_⟩ <;> exact h.cell (by simp) (by simp)

set_option maxHeartbeats 2000000 in
theorem rkeeps_bad (gr : Nat) (b p s : Int) (am : Option Addr) (lm km : Nat) (bs : List Bool) (clean : Bool) (ac : Option Addr) (n kc : Nat) (seen : List Cmd) (c : Cmd) (w : World) (h : RefAt w gr b p s am lm km bs clean ac n kc seen)
    (hx : c.k < 1 ∨ (1 ≤ c.k ∧ 3 < c.k) ∨ (1 ≤ c.k ∧ c.k ≤ 3 ∧ c.b < 0) ∨ (1 ≤ c.k ∧ c.k ≤ 3 ∧ 0 ≤ c.b ∧ b ≤ c.b) ∨ (1 ≤ c.k ∧ c.k ≤ 3 ∧ 0 ≤ c.b ∧ c.b < b ∧ c.s ≠ 0 ∧ c.s ≠ 44 ∧ c.s ≠ 45)) :
    Calls Try.prog 83 #[.pointer (some ⟨gr, 0, none⟩), .agg #[.int .i64 c.k, .int .i64 c.b, .int .i64 c.p, .int .i64 c.s]] w fun e w' => e = .returned (.bool false) ∧ Below w.heap.size w w' := by
  have hb0 : Below w.heap.size w (w.alloc (.cells #[.int .i64 c.k, .int .i64 c.b, .int .i64 c.p, .int .i64 c.s] 73)) := (Below.refl _ _).alloc (Nat.le_refl _) _
  have hlt : gr < w.heap.size := block_lt_of_cell h.c0
  have d0 := (hb0.cell (p := ⟨gr, 0, none⟩) hlt).trans h.c0
  obtain ⟨k, cb, cp, cs⟩ := c
  simp only at hx hb0 d0
  rcases hx with h1 | ⟨h1, h2⟩ | ⟨h1, h2, h3⟩ | ⟨h1, h2, h3, h4⟩ | ⟨h1, h2, h3, h4, h5, h6, h7⟩
  · have e1 : decide (k < 1) = true := decide_eq_true h1
    go_enter Try.func83, Try.ntmps83
    go_wp2
    go_quiet (fail)
    all_goals go_wp2
    all_goals go_ret
    all_goals exact ⟨rfl, below_drewN hb0 _⟩
  · have e1 : decide (k < 1) = false := decide_eq_false (by omega)
    have e2 : decide (3 < k) = true := decide_eq_true h2
    go_enter Try.func83, Try.ntmps83
    go_wp2
    go_quiet (fail)
    all_goals go_wp2
    all_goals go_ret
    all_goals exact ⟨rfl, below_drewN hb0 _⟩
  · have e1 : decide (k < 1) = false := decide_eq_false (by omega)
    have e2 : decide (3 < k) = false := decide_eq_false (by omega)
    have e3 : decide (cb < 0) = true := decide_eq_true h3
    go_enter Try.func83, Try.ntmps83
    go_wp2
    go_quiet (fail)
    all_goals go_wp2
    all_goals go_ret
    all_goals exact ⟨rfl, below_drewN hb0 _⟩
  · have e1 : decide (k < 1) = false := decide_eq_false (by omega)
    have e2 : decide (3 < k) = false := decide_eq_false (by omega)
    have e3 : decide (cb < 0) = false := decide_eq_false (by omega)
    have e4 : decide (b ≤ cb) = true := decide_eq_true h4
    go_enter Try.func83, Try.ntmps83
    go_wp2
    go_quiet (fail)
    all_goals go_wp2
    all_goals go_ret
    all_goals exact ⟨rfl, below_drewN hb0 _⟩
  · have e1 : decide (k < 1) = false := decide_eq_false (by omega)
    have e2 : decide (3 < k) = false := decide_eq_false (by omega)
    have e3 : decide (cb < 0) = false := decide_eq_false (by omega)
    have e4 : decide (b ≤ cb) = false := decide_eq_false (by omega)
    have e5 : (cs != 0) = true := by simpa using h5
    have e6 : (cs != 44) = true := by simpa using h6
    have e7 : (cs != 45) = true := by simpa using h7
    go_enter Try.func83, Try.ntmps83
    go_wp2
    go_quiet (fail)
    all_goals go_wp2
    all_goals go_ret
    all_goals exact ⟨rfl, below_drewN hb0 _⟩

end Go.Proofs.Ytejonebnmeinhab
