/-
  SEAT Ytkcpfcnpniblcad: RailOwn: one may not.
-/
import Derived.Test.YtkcpfcnpniblcadOwB
namespace Go.Proofs.Ytkcpfcnpniblcad.railOwn
open Go.RowKit
set_option linter.unusedVariables false

theorem lay_any (z : List Int) (l : Nat) (u : World) (a : Option Addr) (c : Nat) (h : Reads u a l z) (hl : l ≤ 140737488355000) :
    Calls Try.prog 9 #[.slice a l c] u fun e u' => ∃ v E, e = .returned (.tuple #[v, .int .i64 E]) ∧ Below u.heap.size u u' := by
  by_cases h1 : l ≤ 4095
  · exact (lay_ok a l c z u h1 h).mono fun e u' ⟨g, c', h2, _, h3⟩ => ⟨_, _, h2, h3⟩
  · exact (lay_bad a l c u (by omega) hl).mono fun e u' ⟨h2, h3⟩ => ⟨_, _, h2, by subst h3; exact Below.refl _ _⟩

set_option maxHeartbeats 1000000 in
set_option maxRecDepth 100000 in
theorem walkA (a0 : Option Addr) (len0 cap0 : Nat) (z0 : List Int) (a1 : Option Addr) (len1 cap1 : Nat) (z1 : List Int) (w : World) (w0 : Reads w a0 len0 z0) (s0 : len0 ≤ 140737488351232) (w1 : Reads w a1 len1 z1) (s1 : len1 ≤ 140737488351232) (hgt : 4095 < len0) :
    Calls Try.prog 6 #[.slice a0 len0 cap0, .slice a1 len1 cap1] w fun e w' => e = .returned (.bool true) ∧ Below w.heap.size w w' := by
  have hnil : Hid (∀ u : World, Reads u none 0 []) := fun u => ⟨rfl, by simp, fun _ => rfl, fun _ h => by cases h⟩
  have hdec : decide (([] : List Int) = []) = true := decide_eq_true rfl
  have HR : Hid (∀ x ∈ z1, 0 ≤ x ∧ x ≤ 255) := w1.2.1
  go_enter Try.func6, Try.ntmps6
  go_wp2_with (first
    | (go_at_call 8; refine (heads_any _).mono ?_; rintro e u1 ⟨rfl, bel1⟩; have rA := (w0.below bel1).below ((Below.refl u1.heap.size u1).alloc (Nat.le_refl _) (.cells #[] 5)))
    | (at_builtin; refine wpList_append_reads rfl (.tmp 32) (.tmp 33) rfl u1.heap.size _ _ [] rfl (made0 u1) _ _ _ z0 rfl rA (by omega) (by simp) ?_; intro v2 w2 hown2 hgrow2; simp only [Nat.zero_add, List.nil_append] at hown2; obtain ⟨ax, cx, hvx⟩ := own_form hown2; subst hvx; have b12 : Below u1.heap.size u1 w2 := (((Below.refl _ _).alloc (Nat.le_refl _) _).grown hgrow2 (by simp) (fun k hk => ((made0 u1).lt k hk).1)); have bw2 := bel1.trans (b12.mono bel1.size); have rB := (w1.below bw2).below ((Below.refl w2.heap.size w2).alloc (Nat.le_refl _) (.cells #[] 5)); clear rA hown2 hgrow2 b12 bel1)
    | (at_builtin; refine wpList_append_reads rfl (.tmp 35) (.tmp 36) rfl w2.heap.size _ _ [] rfl (made0 w2) _ _ _ z1 rfl rB (by omega) (by simp) ?_; intro v3 w3 hown3 hgrow3; simp only [Nat.zero_add, List.nil_append] at hown3; obtain ⟨ay, cy, hvy⟩ := own_form hown3; subst hvy; have ry3 := reads_of hown3 HR.out; have b23 : Below w2.heap.size w2 w3 := (((Below.refl _ _).alloc (Nat.le_refl _) _).grown hgrow3 (by simp) (fun k hk => ((made0 w2).lt k hk).1)); have bw3 := bw2.trans (b23.mono bw2.size); clear rB hown3 hgrow3 b23 bw2)
    | (go_at_call 9; refine (lay_bad _ _ _ _ ?_ ?_).mono ?_; (with_reducible exact hgt); omega; rintro e u4 ⟨rfl, rfl⟩)
    | (go_at_call 9; refine (lay_any z1 _ _ _ _ ?_ ?_).mono ?_; (with_reducible exact ry3); omega; rintro e u5 ⟨v5, E5, rfl, b5⟩)
    | (go_at_call 10; refine (no_any _ _).mono ?_; rintro e u ⟨rfl, rfl⟩)
    | (go_at_call 12; refine (same_any _ _ _ _ _ [] [] _ ?_ ?_ ?_).mono ?_; omega; exact hnil.out _; exact hnil.out _; rintro e u ⟨rfl, k1, rfl⟩))
  go_ret
  exact ⟨rfl, below_drewN (bw3.trans (b5.mono bw3.size)) _⟩

set_option maxHeartbeats 1000000 in
set_option maxRecDepth 100000 in
theorem walkB (a0 : Option Addr) (len0 cap0 : Nat) (z0 : List Int) (a1 : Option Addr) (len1 cap1 : Nat) (z1 : List Int) (w : World) (w0 : Reads w a0 len0 z0) (w1 : Reads w a1 len1 z1) (s1 : len1 ≤ 140737488351232) (hle : len0 ≤ 4095) (hgt : 4095 < len1) :
    Calls Try.prog 6 #[.slice a0 len0 cap0, .slice a1 len1 cap1] w fun e w' => e = .returned (.bool true) ∧ Below w.heap.size w w' := by
  obtain ⟨L0, hL0⟩ : ∃ L, layL (z0 ++ [colF z0]) = L := ⟨_, rfl⟩
  have hrL0 : ∀ x ∈ L0, 0 ≤ x ∧ x ≤ 255 := by rw [← hL0]; exact layL_range _
  have HL0 : Hid (layL (z0 ++ [colF z0]) = L0) := hL0
  have HR : Hid (∀ x ∈ z0, 0 ≤ x ∧ x ≤ 255) := w0.2.1
  have HRL : Hid (∀ x ∈ L0, 0 ≤ x ∧ x ≤ 255) := hrL0
  have HZ : Hid (z0.length = len0) := w0.1
  have hdec : decide (L0 = L0) = true := decide_eq_true rfl
  clear hL0 hrL0
  go_enter Try.func6, Try.ntmps6
  go_wp2_with (first
    | (go_at_call 8; refine (heads_any _).mono ?_; rintro e u1 ⟨rfl, bel1⟩; have rA := (w0.below bel1).below ((Below.refl u1.heap.size u1).alloc (Nat.le_refl _) (.cells #[] 5)))
    | (at_builtin; refine wpList_append_reads rfl (.tmp 32) (.tmp 33) rfl u1.heap.size _ _ [] rfl (made0 u1) _ _ _ z0 rfl rA (by omega) (by simp) ?_; intro v2 w2 hown2 hgrow2; simp only [Nat.zero_add, List.nil_append] at hown2; obtain ⟨ax, cx, hvx⟩ := own_form hown2; subst hvx; have rx2 := reads_of hown2 HR.out; have b12 : Below u1.heap.size u1 w2 := (((Below.refl _ _).alloc (Nat.le_refl _) _).grown hgrow2 (by simp) (fun k hk => ((made0 u1).lt k hk).1)); have bw2 := bel1.trans (b12.mono bel1.size); have rB := (w1.below bw2).below ((Below.refl w2.heap.size w2).alloc (Nat.le_refl _) (.cells #[] 5)); clear rA hown2 hgrow2 b12 bel1)
    | (at_builtin; refine wpList_append_reads rfl (.tmp 35) (.tmp 36) rfl w2.heap.size _ _ [] rfl (made0 w2) _ _ _ z1 rfl rB (by omega) (by simp) ?_; intro v3 w3 hown3 hgrow3; simp only [Nat.zero_add, List.nil_append] at hown3; obtain ⟨ay, cy, hvy⟩ := own_form hown3; subst hvy; have b23 : Below w2.heap.size w2 w3 := (((Below.refl _ _).alloc (Nat.le_refl _) _).grown hgrow3 (by simp) (fun k hk => ((made0 w2).lt k hk).1)); have rx3 := rx2.below b23; have bw3 := bw2.trans (b23.mono bw2.size); clear rB hown3 hgrow3 b23 bw2 rx2)
    | (go_at_call 9; refine (lay_bad _ _ _ _ ?_ ?_).mono ?_; (with_reducible exact hgt); omega; rintro e u4 ⟨rfl, rfl⟩)
    | (go_at_call 9; refine (lay_row2 z0 _ _ _ _ ?_ ?_ ?_).mono ?_; (with_reducible exact rx3); exact HZ.out; exact hle; rintro e u5 ⟨g1, c1, rfl, o5, b5⟩; rw [HL0.out] at o5; have rx5 := rx3.below b5; have bw5 := bw3.trans (b5.mono bw3.size); have ro5 := reads_of o5 HRL.out; clear rx3 o5 b5 bw3)
    | (go_at_call 9; refine (lay_row2 z0 _ _ _ _ ?_ ?_ ?_).mono ?_; (with_reducible exact rx5); exact HZ.out; exact hle; rintro e u6 ⟨g3, c3, rfl, o6, b6⟩; rw [HL0.out] at o6; have ro6 := ro5.below b6; have rt6 := reads_of o6 HRL.out; have bw6 := bw5.trans (b6.mono bw5.size); clear rx5 o6 b6 bw5 ro5)
    | (go_at_call 10; refine (no_any _ _).mono ?_; rintro e u ⟨rfl, rfl⟩)
    | (go_at_call 12; refine (same_any _ _ _ _ _ L0 L0 _ ?_ ?_ ?_).mono ?_; omega; exact ro6; exact rt6; rintro e u ⟨rfl, k1, rfl⟩))
  go_ret
  exact ⟨rfl, below_drewN bw6 _⟩

end Go.Proofs.Ytkcpfcnpniblcad.railOwn
