/-
  SEAT YtgdmagmbkmgdfabDoor: carry, into bytes.
-/
import Derived.Test.YtgdmagmbkmgdfabDoorRe
namespace Go.Proofs.YtgdmagmbkmgdfabDoor
open Go.RowKit
set_option linter.unusedVariables false

/-- Where a number stands, in how many bytes. -/
def tabP : List (Nat × Nat) := [(0, 1), (1, 1), (2, 6), (8, 6), (14, 4), (18, 4), (22, 2), (24, 2)]
/-- The bytes when the first k numbers lie in them. -/
def pk (vs : List Int) : Nat → List Int
  | 0 => List.replicate 26 0
  | k + 1 => putL (pk vs k) (tabP.getD k (0, 1)).1 (vs.getD k 0) (tabP.getD k (0, 1)).2
def fit (vs : List Int) (k : Nat) : Bool := vs.getD k 0 / 2 ^ (8 * ((tabP.getD k (0, 1)).2 : Int)).toNat == 0
def Fits (vs : List Int) (k : Nat) : Prop := ∀ i, i < k → fit vs i = true

theorem carry_row (k : Nat) (h : k < 8) : ∃ t n : Nat, tabP.getD k (0, 1) = (t, n) ∧ 1 ≤ n ∧ n ≤ 8 ∧ t + n ≤ 26 ∧ (∀ u, (Instr.index 62 (.agg #[.int .i64 0, .int .i64 1, .int .i64 1, .int .i64 1, .int .i64 2, .int .i64 6, .int .i64 8, .int .i64 6, .int .i64 14, .int .i64 4, .int .i64 18, .int .i64 4, .int .i64 22, .int .i64 2, .int .i64 24, .int .i64 2]) (.int .i64 (k : Int))).run Tryd.prog u = .ok (.agg #[.int .i64 (t : Int), .int .i64 (n : Int)]) u) := by
  rcases (show k = 0 ∨ k = 1 ∨ k = 2 ∨ k = 3 ∨ k = 4 ∨ k = 5 ∨ k = 6 ∨ k = 7 by omega) with rfl | rfl | rfl | rfl | rfl | rfl | rfl | rfl
  · exact ⟨0, 1, rfl, by omega, by omega, by omega, fun u => ix_run _ 0 (by omega) u⟩
  · exact ⟨1, 1, rfl, by omega, by omega, by omega, fun u => ix_run _ 1 (by omega) u⟩
  · exact ⟨2, 6, rfl, by omega, by omega, by omega, fun u => ix_run _ 2 (by omega) u⟩
  · exact ⟨8, 6, rfl, by omega, by omega, by omega, fun u => ix_run _ 3 (by omega) u⟩
  · exact ⟨14, 4, rfl, by omega, by omega, by omega, fun u => ix_run _ 4 (by omega) u⟩
  · exact ⟨18, 4, rfl, by omega, by omega, by omega, fun u => ix_run _ 5 (by omega) u⟩
  · exact ⟨22, 2, rfl, by omega, by omega, by omega, fun u => ix_run _ 6 (by omega) u⟩
  · exact ⟨24, 2, rfl, by omega, by omega, by omega, fun u => ix_run _ 7 (by omega) u⟩

theorem grown_drew {a b : World} {r : Option Nat} (h : a.grownBy b r) : a.grownBy b.drew r := ⟨h.os, h.tape, h.output, h.size, h.block⟩

set_option maxHeartbeats 1000000 in
set_option maxRecDepth 100000 in
theorem carry_in (p g B : Nat) (vs : List Int) (w : World) (hT : Tab w) (hv : ∀ i, i < 8 → w.cell? ⟨p, i, none⟩ = some (.int .u64 (vs.getD i 0))) (hp : p < w.heap.size) (hpg : p ≠ g) (hpos : ∀ i, 0 ≤ vs.getD i 0) (hown : Own w B g 26 26 (pk vs 0)) :
    Calls Tryd.prog 18 #[.int .i64 0, .slice (some ⟨g, 0, none⟩) 26 26, .pointer (some ⟨p, 0, none⟩)] w fun e w' => ((e = .returned (.bool true) ∧ Fits vs 8 ∧ Own w' B g 26 26 (pk vs 8)) ∨ (e = .returned (.bool false) ∧ ¬ Fits vs 8)) ∧ w.grownBy w' (some g) := by
  obtain ⟨t0, t1, t2, t3, t4, t5, t6, t7, t8, t9, t10, t11, t12, t13, t14, t15⟩ := hT.all
  have HV : Hid (∀ x : World, w.grownBy x (some g) → ∀ i, i < 8 → x.cell? ⟨p, i, none⟩ = some (.int .u64 (vs.getD i 0))) := fun x hx i hi => by
    rw [World.cell?_of_block (hx.block p hp (by simp; exact hpg))]
    exact hv i hi
  have HO : Hid (Own w B g 26 26 (pk vs 0)) := hown
  have HP : Hid (∀ i, 0 ≤ vs.getD i 0) := hpos
  clear hT hv hown hpos
  go_enter Tryd.func18, Tryd.ntmps18
  go_wp2
  go_step3
  go_wp2
  go_step3
  go_wp2
  clear t0 t1 t2 t3 t4 t5 t6 t7 t8 t9 t10 t11 t12 t13 t14 t15
  go_loopw [7, 11] (fun v i wr => ∃ k : Nat, k ≤ 8 ∧ i = .int .i64 k ∧ v = .bool true ∧ Hid (Own wr B g 26 26 (pk vs k)) ∧ w.grownBy wr (some g) ∧ Hid (Fits vs k))
    (fun _ i _ => 8 - (intOf i).toNat)
  case atStart => exact ⟨0, by omega, rfl, rfl, HO, World.grownBy.refl _ _, fun i hi => by omega⟩
  case round =>
    obtain ⟨k, hk, rfl, rfl, HK, hgr, HF⟩ := hrel
    by_cases hlt : k < 8
    · obtain ⟨t, n, htn, hn1, hn8, htl, hix⟩ := carry_row k hlt
      obtain ⟨v, hv⟩ : ∃ v, v = vs.getD k 0 := ⟨_, rfl⟩
      have hcv : wr.cell? ⟨p, k, none⟩ = some (.int .u64 v) := by rw [hv]; exact HV.out wr hgr k hlt
      have hv0 : 0 ≤ v := by rw [hv]; exact HP.out k
      have m1 : (k : Int) < 8 := by omega
      have hd1 : decide ((k : Int) < 8) = true := decide_eq_true m1
      have hpw : p < wr.heap.size := by have := hgr.size; omega
      have hO : Hid (∀ o, Own (wr.alloc o) B g 26 26 (pk vs k)) := fun o => World.ownsRow.alloc HK.out o
      have hfit : fit vs k = (v / 2 ^ (8 * (n : Int)).toNat == 0) := by unfold fit; rw [← hv, htn]
      by_cases hf : (v / 2 ^ (8 * (n : Int)).toNat == 0) = true
      · have HN : Hid (pk vs (k + 1) = putL (pk vs k) t v n) := by unfold Hid; rw [pk, ← hv, htn]
        have HF2 : Hid (Fits vs (k + 1)) := fun i hi => by
          by_cases e : i = k
          · subst e; rw [hfit]; exact hf
          · exact HF.out i (by omega)
        clear hfit hv htn HK HF
        go_wp2
        go_region_with (go_at_call 28; refine (put_ok B g 26 26 26 t n v (pk vs k) _ ?_ ?_ ?_ ?_ ?_ ?_ ?_ ?_).mono ?_; omega; omega; omega; exact hf; omega; omega; exact hv0; (first | exact hO.out _ | exact (hO.out _).drew); rintro e u ⟨rfl, o5, g5⟩; rw [← HN.out] at o5)
        all_goals
          have g6 : w.grownBy u (some g) := grownBy_trans (grownBy_trans hgr (World.grownBy_alloc wr _ _)) ⟨g5.os, g5.tape, g5.output, g5.size, g5.block⟩
          have HO5 : Hid (Own u B g 26 26 (pk vs (k + 1))) := o5
          clear o5 g5 hgr
          go_wp2
        all_goals
          go_roundw
          case rel => exact ⟨k + 1, by omega, by go_num, rfl, by first | exact HO5.out | exact HO5.out.drew, by first | exact g6 | exact grown_drew g6, HF2⟩
          case measure => simp [intOf]; omega
      · have hf' : (v / 2 ^ (8 * (n : Int)).toNat == 0) = false := by simpa using hf
        have HNF : Hid (¬ Fits vs 8) := fun h => hf (by rw [← hfit]; exact h k hlt)
        clear hfit hv htn HK HF hf
        go_wp2
        go_region_with (go_at_call 28; refine (put_wide _ _ _ _ _ _ _ ?_ ?_ ?_).mono ?_; omega; omega; exact hf'; rintro e u ⟨rfl, rfl⟩)
        all_goals
          have g6 := fun o => grownBy_trans hgr (World.grownBy_alloc wr o (some g))
          have HG6 : Hid _ := g6
          clear g6 hgr
          go_wp2
        all_goals
          try rw [Exit.noGoto_ret]
          go_ret
          exact ⟨Or.inr ⟨rfl, HNF.out⟩, by first | exact HG6.out _ | exact grown_drew (HG6.out _)⟩
    · have hk8 : k = 8 := by omega
      subst hk8
      go_wp2
      try rw [Exit.noGoto_ret]
      go_ret
      exact ⟨Or.inl ⟨rfl, HF.out, HK.out⟩, hgr⟩
end Go.Proofs.YtgdmagmbkmgdfabDoor
