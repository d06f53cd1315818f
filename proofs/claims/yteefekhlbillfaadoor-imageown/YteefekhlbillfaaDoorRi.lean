/-
  SEAT YteefekhlbillfaaDoor: where a piece may stand.
-/
import Derived.Test.YteefekhlbillfaaDoorRh
namespace Go.Proofs.YteefekhlbillfaaDoor
open Go.RowKit
set_option linter.unusedVariables false

set_option maxHeartbeats 2000000 in
set_option maxRecDepth 100000 in
theorem stands_told (pn : Nat) (a : Option Addr) (l c : Nat) (g : List Int) (ak an : Nat) (a' : Option Addr) (l' c' : Nat) (g' : List Int) (w : World) (h : Reads w a l g) (h' : Reads w a' l' g') (hl : l ≤ 4000) :
    Calls Tryd.prog 59 #[.agg #[.int .i64 1, .int .i64 (pn : Int), .slice a l c], .agg #[.int .i64 (ak : Int), .int .i64 (an : Int), .slice a' l' c']] w fun e w' => e = .returned (.bool (stands ⟨1, pn, g⟩ ⟨ak, an, g'⟩)) ∧ Below w.heap.size w w' := by
  obtain ⟨W, hW⟩ : ∃ W, W = ((w.alloc (.cells #[.int .i64 1, .int .i64 (pn : Int), .slice a l c] 102)).alloc (.cells #[.int .i64 (ak : Int), .int .i64 (an : Int), .slice a' l' c'] 102)) := ⟨_, rfl⟩
  have hbel : Below w.heap.size w ((w.alloc (.cells #[.int .i64 1, .int .i64 (pn : Int), .slice a l c] 102)).alloc (.cells #[.int .i64 (ak : Int), .int .i64 (an : Int), .slice a' l' c'] 102)) := ((Below.refl _ _).alloc (Nat.le_refl _) _).alloc (by simp) _
  have r1 := h.below hbel
  have r2 := h'.below hbel
  have HB : Hid _ := hbel
  clear h h' hbel hW
  cases hb : blankB g with
  | true =>
    go_enter Tryd.func59, Tryd.ntmps59
    go_wp2_with (first
      | (go_at_call 66; refine (isBlank_any _ _ _ g _ (by omega) r1).mono ?_; rintro e u0 ⟨rfl, hu0⟩; rw [hu0, hb])
      | (go_at_call 46; refine (equal_any _ _ _ _ _ _ g g' _ r1 r2).mono ?_; rintro e u1 ⟨rfl, hu1⟩; rw [hu1]))
    go_ret
    exact ⟨by simp [stands, hb], HB.out⟩
  | false =>
    go_enter Tryd.func59, Tryd.ntmps59
    go_wp2_with (first
      | (go_at_call 66; refine (isBlank_any _ _ _ g _ (by omega) r1).mono ?_; rintro e u0 ⟨rfl, hu0⟩; rw [hu0, hb])
      | (go_at_call 46; refine (equal_any _ _ _ _ _ _ g g' _ r1 r2).mono ?_; rintro e u1 ⟨rfl, hu1⟩; rw [hu1]))
    go_ret
    refine ⟨ret_bool ?_, HB.out⟩
    by_cases hg : g = g'
    · simp [stands, hg]
    · simp [stands, hb, hg]

set_option maxHeartbeats 2000000 in
set_option maxRecDepth 100000 in
theorem stands_run (pk pn : Nat) (a : Option Addr) (l c : Nat) (g : List Int) (ak an : Nat) (a' : Option Addr) (l' c' : Nat) (g' : List Int) (w : World) (hp : pk = 0 ∨ pk = 2) (hak : ak ≤ 2) :
    Calls Tryd.prog 59 #[.agg #[.int .i64 (pk : Int), .int .i64 (pn : Int), .slice a l c], .agg #[.int .i64 (ak : Int), .int .i64 (an : Int), .slice a' l' c']] w fun e w' => e = .returned (.bool (stands ⟨pk, pn, g⟩ ⟨ak, an, g'⟩)) ∧ Below w.heap.size w w' := by
  by_cases h0 : an = 0
  · subst h0
    rcases hp with rfl | rfl <;> rcases (show ak = 0 ∨ ak = 1 ∨ ak = 2 by omega) with rfl | rfl | rfl
    all_goals
      clear hak
      go_enter Tryd.func59, Tryd.ntmps59
      go_wp2
      go_ret
      exact ⟨ret_bool (by simp [stands]), ((Below.refl _ _).alloc (Nat.le_refl _) _).alloc (by simp) _⟩
  · by_cases h6 : an = 65535
    · subst h6
      rcases hp with rfl | rfl <;> rcases (show ak = 0 ∨ ak = 1 ∨ ak = 2 by omega) with rfl | rfl | rfl
      all_goals
        clear hak h0
        go_enter Tryd.func59, Tryd.ntmps59
        go_wp2
        go_ret
        exact ⟨ret_bool (by simp [stands]), ((Below.refl _ _).alloc (Nat.le_refl _) _).alloc (by simp) _⟩
    · have e0 : ((an : Int) == 0) = false := by rw [beq_eq_false_iff_ne]; omega
      have e6 : ((an : Int) == 65535) = false := by rw [beq_eq_false_iff_ne]; omega
      have HA : Hid (¬ an = 0) := h0
      have HE : Hid (¬ an = 65535) := h6
      clear h0 h6
      rcases hp with rfl | rfl <;> rcases (show ak = 0 ∨ ak = 1 ∨ ak = 2 by omega) with rfl | rfl | rfl
      all_goals
        clear hak
        go_enter Tryd.func59, Tryd.ntmps59
        go_wp2
        go_ret
        exact ⟨ret_bool (by simp [stands, HA.out, HE.out]), ((Below.refl _ _).alloc (Nat.le_refl _) _).alloc (by simp) _⟩

theorem stands_any (pk pn : Nat) (a : Option Addr) (l c : Nat) (g : List Int) (ak an : Nat) (a' : Option Addr) (l' c' : Nat) (g' : List Int) (w : World) (h : Reads w a l g) (h' : Reads w a' l' g') (hl : l ≤ 4000) (hp : pk ≤ 2) (hak : ak ≤ 2) :
    Calls Tryd.prog 59 #[.agg #[.int .i64 (pk : Int), .int .i64 (pn : Int), .slice a l c], .agg #[.int .i64 (ak : Int), .int .i64 (an : Int), .slice a' l' c']] w fun e w' => e = .returned (.bool (stands ⟨pk, pn, g⟩ ⟨ak, an, g'⟩)) ∧ Below w.heap.size w w' := by
  by_cases h1 : pk = 1
  · subst h1; exact stands_told pn a l c g ak an a' l' c' g' w h h' hl
  · exact stands_run pk pn a l c g ak an a' l' c' g' w (by omega) hak

end Go.Proofs.YteefekhlbillfaaDoor
