/-
  SEAT Ytjginocbbnmgaaa: growFor, its walk.
-/
import Derived.Test.YtjginocbbnmgaaaTnH
namespace Go.Proofs.Ytjginocbbnmgaaa
open Go.RowKit
set_option linter.unusedVariables false
variable {bx : Nat}

/-- How high a tree is, off its box. -/
def highOf (gt : Nat) (w : World) : Nat := (intOf ((w.cell? ⟨gt, 1, none⟩).getD undef)).toNat
set_option maxHeartbeats 2000000 in
set_option maxRecDepth 100000 in
theorem grow_any (gt h k : Nat) (n : Int) (M : Mp) (w : World) (hT : TreeOn bx w gt h n M) (hk : k < 1048576) :
    Calls Try.prog 37 #[.pointer (some ⟨gt, 0, none⟩), .int .i64 (k : Int)] w fun e w' => ∃ h', e = .returned (.tuple #[]) ∧ TreeOn bx w' gt h' n M ∧ h ≤ h' ∧ 0 < h' ∧ k < spn h' ∧ (h' = h ∨ h' = 1 ∨ spn (h' - 1) ≤ k) ∧ w.grownBy w' (some gt) := by
  have HT : Hid (TreeOn bx w gt h n M) := hT
  clear hT
  go_enter Try.func37, Try.ntmps37
  go_wp2_with fail
  go_loopw [] (fun wr => ∃ h', Hid (TreeOn bx wr gt h' n M) ∧ h ≤ h' ∧ Hid (h' = h ∨ h' = 1 ∨ spn (h' - 1) ≤ k) ∧ Hid (w.grownBy wr (some gt)))
    (fun wr => 6 - highOf gt wr)
  case atStart => exact ⟨h, HT, Nat.le_refl _, Or.inl rfl, World.grownBy.refl _ _⟩
  case round =>
    obtain ⟨h', HT', hle, HW, HG⟩ := hrel
    obtain ⟨top, hb, h0, hN⟩ := HT'.out.blk
    have h5 := HT'.out.h5
    have c0 : wr.cell? ⟨gt, 0, none⟩ = some (ptr top) := by rw [cell_of_row _ _ 0 _ 72 (0, 0) hb]; rfl
    have c1 : wr.cell? ⟨gt, 1, none⟩ = some (.int .i64 (h' : Int)) := by rw [cell_of_row _ _ 1 _ 72 (0, 0) hb]; rfl
    have f0 : wr.frozen? ⟨gt, 0, none⟩ = false := by unfold World.frozen?; simp only [hb]; simp
    have f1 : wr.frozen? ⟨gt, 1, none⟩ = false := by unfold World.frozen?; simp only [hb]; simp
    obtain ⟨SP, hSP⟩ : ∃ SP, spn h' = SP := ⟨_, rfl⟩
    have HSP : Hid _ := hSP
    clear hSP
    by_cases hd : 0 < h' ∧ k < SP
    · have d1 : ((h' : Int) == 0) = false := by simp; omega
      have d2 : ¬ ((SP : Int) ≤ (k : Int)) := by omega
      obtain ⟨hd1, hd2⟩ := hd
      clear c0 hb h0 hN
      go_wp2_with (first | (go_at_call 54; refine (span_any h' _ h5).mono ?_; rintro e u ⟨rfl, rfl⟩; rw [HSP.out]))
      go_end0
      exact ⟨h', rfl, HT'.out, hle, hd1, by rw [HSP.out]; exact hd2, HW.out, HG.out⟩
    · have h4 : h' ≤ 4 := by
        by_cases e : h' = 5
        · subst e
          have := HSP.out
          rw [show spn 5 = 1048576 from rfl] at this
          omega
        · omega
      have HNW : Hid (h' + 1 = h ∨ h' + 1 = 1 ∨ spn (h' + 1 - 1) ≤ k) := by
        unfold Hid
        have := HSP.out
        by_cases e : h' = 0
        · exact Or.inr (Or.inl (by omega))
        · refine Or.inr (Or.inr ?_)
          rw [Nat.add_sub_cancel, this]
          omega
      have hcond : ((h' : Int) == 0) = true ∨ ((h' : Int) == 0) = false ∧ (SP : Int) ≤ (k : Int) := by
        by_cases e : h' = 0
        · exact Or.inl (by simp [e])
        · exact Or.inr ⟨by simp [e], by omega⟩
      cases top with
      | none =>
        have hall := HT'.out.bare (P := undef) hb
        have hn1 := TreeOn.higher HT'.out h4 none (wr.setCell ⟨gt, 1, none⟩ (.int .i64 ((h' : Int) + 1))) (by rw [tree_box 1 hb, Int.natCast_add]; rfl) (NodeOn.void (fun k _ => hall k)) (by have := HT'.out.low; simpa using this)
        have HN1 : Hid _ := hn1
        have HG1 : Hid (w.grownBy (wr.setCell ⟨gt, 1, none⟩ (.int .i64 ((h' : Int) + 1))) (some gt)) := World.grownBy.trans HG.out (grown_setC _ _ _ _)
        have hm1 : highOf gt (wr.setCell ⟨gt, 1, none⟩ (.int .i64 ((h' : Int) + 1))) = h' + 1 := by
          unfold highOf
          rw [cell_of_row _ _ 1 _ 72 (0, 0) (tree_box 1 hb)]
          simp [intOf]
        have hm0 : highOf gt wr = h' := by unfold highOf; rw [c1]; simp [intOf]
        have HM : Hid _ := And.intro hm0 hm1
        simp only [ptr] at c0
        clear hb h0 hN hall hn1 hm1 hm0
        rcases hcond with q | ⟨q, q2⟩
        all_goals
          go_wp2_with (first | (go_at_call 54; refine (span_any h' _ h5).mono ?_; rintro e u ⟨rfl, rfl⟩; rw [HSP.out]))
        all_goals go_roundw
        all_goals first | exact ⟨h' + 1, HN1, by omega, HNW, HG1⟩ | (rw [HM.out.1, HM.out.2]; omega)
      | some g =>
        obtain ⟨l, rfl⟩ : ∃ l, h' = l + 1 := by
          cases h' with
          | zero => cases (h0 rfl).1
          | succ l => exact ⟨l, rfl⟩
        have hNg := hN l rfl
        have hnv : ¬ Void M (spn (l + 1)) := by
          cases l with
          | zero => obtain ⟨_, _, _, _, q⟩ := hNg; exact q
          | succ l => obtain ⟨_, _, _, _, q⟩ := hNg; exact q
        have hgt := lt_of_block hb
        have HAB : Hid (Calls Try.prog 56 _ _ _) := above_any l g M wr (Eg gt bx) (fun i q => by have := HT'.out.low; rcases q with q | q <;> omega) hNg hnv
        have HFE : Hid (firsts M (spn (l + 1)) = M) := firsts_eq HT'.out.out
        have HFN : Hid (∀ u g', Below wr.heap.size wr u → NodeOn (seenH u (Eg gt bx)) (l + 1) (some g') M → TreeOn bx ((u.setCell ⟨gt, 0, none⟩ (.pointer (some ⟨g', 0, none⟩))).setCell ⟨gt, 1, none⟩ (.int .i64 ((l : Int) + 1 + 1))) gt (l + 1 + 1) n M ∧ w.grownBy ((u.setCell ⟨gt, 0, none⟩ (.pointer (some ⟨g', 0, none⟩))).setCell ⟨gt, 1, none⟩ (.int .i64 ((l : Int) + 1 + 1))) (some gt) ∧ highOf gt ((u.setCell ⟨gt, 0, none⟩ (.pointer (some ⟨g', 0, none⟩))).setCell ⟨gt, 1, none⟩ (.int .i64 ((l : Int) + 1 + 1))) = l + 1 + 1 ∧ u.cell? ⟨gt, 0, none⟩ = some (.pointer (some ⟨g, 0, none⟩)) ∧ u.cell? ⟨gt, 1, none⟩ = some (.int .i64 ((l + 1 : Nat) : Int)) ∧ u.frozen? ⟨gt, 0, none⟩ = false ∧ u.frozen? ⟨gt, 1, none⟩ = false) := fun u g' hu hn => by
          have hbu := (hu.block gt hgt).trans hb
          have hb1 := tree_box (x := .pointer (some ⟨g', 0, none⟩)) 0 hbu
          have hb2 := tree_box (x := .int .i64 ((l : Int) + 1 + 1)) 1 hb1
          have hgr := World.grownBy.trans (grown_setC u gt 0 (.pointer (some ⟨g', 0, none⟩))) (grown_setC _ gt 1 (.int .i64 ((l : Int) + 1 + 1)))
          refine ⟨TreeOn.higher HT'.out h4 (some g') _ (by rw [hb2, show ((l + 1 + 1 : Nat) : Int) = (l : Int) + 1 + 1 by omega]; rfl) (hn.mono (shows_grown hgr)) (Nat.lt_of_lt_of_le HT'.out.low (Nat.le_trans hu.size hgr.size)), World.grownBy.trans (World.grownBy.trans HG.out (grown_mono hu _)) hgr, ?_, by rw [cell_of_row _ _ 0 _ 72 (0, 0) hbu]; rfl, by rw [cell_of_row _ _ 1 _ 72 (0, 0) hbu]; rfl, by unfold World.frozen?; simp only [hbu]; simp, by unfold World.frozen?; simp only [hbu]; simp⟩
          unfold highOf
          rw [cell_of_row _ _ 1 _ 72 (0, 0) hb2]
          simp [intOf]
          omega
        have hm0 : highOf gt wr = l + 1 := by unfold highOf; rw [c1]; simp [intOf]
        have HM : Hid _ := hm0
        simp only [ptr] at c0
        clear hb h0 hN hNg hnv hm0
        rcases hcond with q | ⟨q, q2⟩
        all_goals
          go_wp2_with (first | (go_at_call 54; refine (span_any (l + 1) _ h5).mono ?_; rintro e u ⟨rfl, rfl⟩; rw [HSP.out]) | (go_at_call 56; refine Calls.mono HAB.out ?_; rintro e u ⟨g', rfl, n1, q1⟩; rw [HFE.out] at n1; obtain ⟨k1, k2, k3, k4, k5, k6, k7⟩ := HFN.out u g' q1 n1; have K1 : Hid _ := k1; have K2 : Hid _ := k2; have K3 : Hid _ := k3; clear k1 k2 k3 n1 q1))
        all_goals go_roundw
        all_goals first | exact ⟨l + 1 + 1, K1, by omega, HNW, K2⟩ | (rw [HM.out, K3.out]; omega)
end Go.Proofs.Ytjginocbbnmgaaa
