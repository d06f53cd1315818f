/-
  SEAT Ytjhphkfpcpfdnaa: JudgeChip: Spare; where New refuses.
-/
import Derived.Test.YtjhphkfpcpfdnaaPb
namespace Go.Proofs.Ytjhphkfpcpfdnaa
open Go.RowKit Go.Conc
set_option linter.unusedVariables false

theorem spare_any (b p s : Int) (w : World) (hf : Fits b p s = true) (h0 : 1 ≤ s) (h1 : s ≤ 8) : Calls Try.prog 8 #[.agg #[.int .i64 b, .int .i64 p, .int .i64 s]] w fun e w' => e = .returned (.tuple #[.int .i64 (54 + 3 * s), .int .i64 0]) ∧ Below w.heap.size w w' := by
  have HA := hide (below_alloc w (.cells #[.int .i64 b, .int .i64 p, .int .i64 s] 23))
  have HN := hide (alloc_new w (.cells #[.int .i64 b, .int .i64 p, .int .i64 s] 23))
  go_enter Try.func8, Try.ntmps8
  go_wp2_with (first
    | (go_at_call 19; refine (mayBe_any b p s _).mono ?_; rintro e u1 ⟨rfl, b1⟩; rw [hf]; have HB1 := hide (below_trans HA.out b1); obtain ⟨z0, z1, z2⟩ := cells3 ((b1.block _ (lt_of_block HN.out)).trans HN.out); clear b1)
    | (go_at_call 32; refine (spareB_any b p s _ h0 h1).mono ?_; rintro e u2 ⟨rfl, b2⟩; have HB2 := hide (below_trans HB1.out b2); clear b2))
  go_ret2
  exact ⟨rfl, HB2.out⟩
set_option maxHeartbeats 8000000 in
set_option maxRecDepth 100000 in
theorem jchip_no (w : World) (gB gP gS : Int) (ba : Option Addr) (bn bc : Nat) (bad : List Int) (hR : ReadsI w ba bn bad) (hbn : bn ≤ 9223372036854775807) (sa : Option Addr) (n c : Nat) (fs : List Fc) (hF : ReadsF w sa n fs) (hn : n ≤ 9223372036854775807) (oa : Option Addr) (on oc : Nat) (xs : List Ac) (hO : ReadsA w oa on xs) (hon : on ≤ 1048576) (hne : NewE gB gP gS bad fs ≠ 0) :
    Calls Try.prog 3 #[.agg #[.int .i64 gB, .int .i64 gP, .int .i64 gS], .slice ba bn bc, .slice sa n c, .slice oa on oc] w fun e w' => e = .returned (.bool true) ∧ Below w.heap.size w w' := by
  have HR := hide hR
  have HF := hide hF
  have HA := hide (below_alloc w (.cells #[.int .i64 gB, .int .i64 gP, .int .i64 gS] 23))
  have HN := hide (alloc_new w (.cells #[.int .i64 gB, .int .i64 gP, .int .i64 gS] 23))
  obtain ⟨ne, hnee⟩ : ∃ z, z = NewE gB gP gS bad fs := ⟨_, rfl⟩
  have dne : (ne != 0) = true := by rw [hnee]; simpa using hne
  have HNE := hide hnee
  have HN0 := hide hne
  have HE0 : Hid (J.newE gB gP gS 0 ≠ 0) := by
    show J.newE gB gP gS 0 ≠ 0
    unfold J.newE
    split
    · rename_i h9
      have h8 := of_decide_eq_true h9
      rw [if_neg (by omega)]; decide
    · decide
  clear hR hF hO hnee hne
  go_enter Try.func3, Try.ntmps3
  go_wp2_with (first
    | (go_at_call 4; refine (New_any _ gB gP gS ba bn bc bad (HR.out.below HA.out) hbn sa n c fs (HF.out.below HA.out) hn).mono ?_; rintro e u2 hnew; have hv1 := hnew.no HN0.out; rw [← HNE.out] at hv1; subst hv1; have HB2 := hide (below_trans HA.out hnew.bel); obtain ⟨z0, z1, z2⟩ := cells3 ((hnew.bel.block _ (lt_of_block HN.out)).trans HN.out); clear hnew)
    | (go_at_call 5; refine (J.sees_bad gB gP gS none 0 0 [] true none 0 0 0 _ ⟨rfl, fun _ => rfl, fun _ h => by cases h⟩ (by omega) HE0.out).mono ?_; rintro e u3 ⟨rfl, b3⟩; have HB3 := hide (below_trans HB2.out b3); clear b3))
  go_ret
  exact ⟨rfl, HB3.out⟩
end Go.Proofs.Ytjhphkfpcpfdnaa
