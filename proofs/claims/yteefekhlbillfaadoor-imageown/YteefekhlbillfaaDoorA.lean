/-
  SEAT YteefekhlbillfaaDoor: the geometry.
-/
import Derived.Test.YteefekhlbillfaaDoorBase
namespace Go.Proofs.YteefekhlbillfaaDoor
open Go.RowKit
set_option linter.unusedVariables false

/-- May the geometry be? -/
def Fits (b p s : Int) : Bool := decide (8 ≤ b ∧ b ≤ 4096 ∧ 4 ≤ p ∧ p ≤ 256 ∧ 1 ≤ s ∧ s ≤ 8 ∧ b * p ≤ 65536)

theorem ways (b p s : Int) : b < 8 ∨ (8 ≤ b ∧ 4096 < b) ∨ (8 ≤ b ∧ b ≤ 4096 ∧ p < 4) ∨ (8 ≤ b ∧ b ≤ 4096 ∧ 4 ≤ p ∧ 256 < p) ∨ (8 ≤ b ∧ b ≤ 4096 ∧ 4 ≤ p ∧ p ≤ 256 ∧ s < 1) ∨ (8 ≤ b ∧ b ≤ 4096 ∧ 4 ≤ p ∧ p ≤ 256 ∧ 1 ≤ s ∧ 8 < s) ∨
    (8 ≤ b ∧ b ≤ 4096 ∧ 4 ≤ p ∧ p ≤ 256 ∧ 1 ≤ s ∧ s ≤ 8 ∧ 0 ≤ b * p ∧ b * p ≤ 1048576) := by
  by_cases h : 8 ≤ b ∧ b ≤ 4096 ∧ 4 ≤ p ∧ p ≤ 256
  · have h1 : 0 ≤ b * p := Int.mul_nonneg (by omega) (by omega)
    have h2 : b * p ≤ 4096 * 256 := Int.mul_le_mul (by omega) (by omega) (by omega) (by omega)
    omega
  · omega

set_option maxHeartbeats 1000000 in
theorem mayBe_any (b p s : Int) (w : World) : Calls Tryd.prog 60 #[.agg #[.int .i64 b, .int .i64 p, .int .i64 s]] w fun e w' => e = .returned (.bool (Fits b p s)) ∧ Below w.heap.size w w' := by
  rcases ways b p s with h | ⟨h1, h⟩ | ⟨h1, h2, h⟩ | ⟨h1, h2, h3, h⟩ | ⟨h1, h2, h3, h4, h⟩ | ⟨h1, h2, h3, h4, h5, h⟩ | ⟨h1, h2, h3, h4, h5, h6, h7, h8⟩
  all_goals
    go_enter Tryd.func60, Tryd.ntmps60
    go_wp2
    go_ret
    exact ⟨ret_bool (by first | exact (decide_eq_true (by omega)).symm | exact (decide_eq_false (by omega)).symm | (unfold Fits; rw [decide_eq_decide]; omega)), (Below.refl _ _).alloc (Nat.le_refl _) _⟩

set_option maxHeartbeats 1000000 in
theorem shape_any (b p s : Int) (w : World) : Calls Tryd.prog 48 #[.agg #[.int .i64 b, .int .i64 p, .int .i64 s]] w fun e w' => e = .returned (.bool (Fits b p s)) ∧ Below w.heap.size w w' := by
  rcases ways b p s with h | ⟨h1, h⟩ | ⟨h1, h2, h⟩ | ⟨h1, h2, h3, h⟩ | ⟨h1, h2, h3, h4, h⟩ | ⟨h1, h2, h3, h4, h5, h⟩ | ⟨h1, h2, h3, h4, h5, h6, h7, h8⟩
  all_goals
    go_enter Tryd.func48, Tryd.ntmps48
    go_wp2
    go_ret
    exact ⟨ret_bool (by first | exact (decide_eq_true (by omega)).symm | exact (decide_eq_false (by omega)).symm | (unfold Fits; rw [decide_eq_decide]; omega)), (Below.refl _ _).alloc (Nat.le_refl _) _⟩

theorem fits_s {b p s : Int} (h : Fits b p s = true) : 1 ≤ s ∧ s ≤ 8 := by
  have := of_decide_eq_true h
  omega

theorem spareBytes_any (b p s : Int) (w : World) (h0 : 1 ≤ s) (h1 : s ≤ 8) : Calls Tryd.prog 61 #[.agg #[.int .i64 b, .int .i64 p, .int .i64 s]] w fun e w' => e = .returned (.int .i64 (54 + 3 * s)) ∧ Below w.heap.size w w' := by
  go_enter Tryd.func61, Tryd.ntmps61
  go_wp2
  go_ret
  exact ⟨rfl, (Below.refl _ _).alloc (Nat.le_refl _) _⟩

theorem rspare_any (b p s : Int) (w : World) (h0 : 1 ≤ s) (h1 : s ≤ 8) : Calls Tryd.prog 69 #[.agg #[.int .i64 b, .int .i64 p, .int .i64 s]] w fun e w' => e = .returned (.int .i64 (54 + 3 * s)) ∧ Below w.heap.size w w' := by
  go_enter Tryd.func69, Tryd.ntmps69
  go_wp2
  go_ret
  exact ⟨rfl, (Below.refl _ _).alloc (Nat.le_refl _) _⟩

def spN (b p s : Int) : Int := if Fits b p s then 54 + 3 * s else 0
def spE (b p s : Int) : Int := if Fits b p s then 0 else 40

theorem box3 {w u : World} {b p s : Int} (h : Below (w.alloc (.cells #[.int .i64 b, .int .i64 p, .int .i64 s] 27)).heap.size (w.alloc (.cells #[.int .i64 b, .int .i64 p, .int .i64 s] 27)) u) :
    u.cell? ⟨w.heap.size, 0, none⟩ = some (.int .i64 b) ∧ u.cell? ⟨w.heap.size, 1, none⟩ = some (.int .i64 p) ∧ u.cell? ⟨w.heap.size, 2, none⟩ = some (.int .i64 s) := by
  refine ⟨?_, ?_, ?_⟩ <;> (rw [h.cell (by simp)]; simp)

set_option maxHeartbeats 1000000 in
theorem spare_any (b p s : Int) (w : World) : Calls Tryd.prog 35 #[.agg #[.int .i64 b, .int .i64 p, .int .i64 s]] w fun e w' => e = .returned (.tuple #[.int .i64 (spN b p s), .int .i64 (spE b p s)]) ∧ Below w.heap.size w w' := by
  have hb0 : Below w.heap.size w (w.alloc (.cells #[.int .i64 b, .int .i64 p, .int .i64 s] 27)) := (Below.refl _ _).alloc (Nat.le_refl _) _
  cases hf : Fits b p s with
  | true =>
    have hs := fits_s hf
    unfold spN spE
    rw [hf]
    go_enter Tryd.func35, Tryd.ntmps35
    go_wp2_with (first
      | (go_at_call 60; refine (mayBe_any _ _ _ _).mono ?_; rintro e u1 ⟨rfl, bel1⟩; rw [hf]; obtain ⟨c0, c1, c2⟩ := box3 bel1)
      | (go_at_call 61; refine (spareBytes_any _ _ _ _ hs.1 hs.2).mono ?_; rintro e u2 ⟨rfl, bel2⟩))
    go_ret2
    have hb1 := hb0.trans (bel1.mono hb0.size)
    exact ⟨rfl, hb1.trans (bel2.mono hb1.size)⟩
  | false =>
    unfold spN spE
    rw [hf]
    go_enter Tryd.func35, Tryd.ntmps35
    go_wp2_with (first
      | (go_at_call 60; refine (mayBe_any _ _ _ _).mono ?_; rintro e u1 ⟨rfl, bel1⟩; rw [hf]))
    go_ret2
    exact ⟨rfl, hb0.trans (bel1.mono hb0.size)⟩


theorem fits_all {b p s : Int} (h : Fits b p s = true) : 8 ≤ b ∧ b ≤ 4096 ∧ 4 ≤ p ∧ p ≤ 256 ∧ 1 ≤ s ∧ s ≤ 8 ∧ 0 ≤ b * p ∧ b * p ≤ 65536 := by
  have h0 := of_decide_eq_true h
  have h1 : 0 ≤ b * p := Int.mul_nonneg (by omega) (by omega)
  omega

theorem pagesIn_any (b p s : Int) (w : World) (h0 : 0 ≤ b * p) (h1 : b * p ≤ 65536) : Calls Tryd.prog 36 #[.agg #[.int .i64 b, .int .i64 p, .int .i64 s]] w fun e w' => e = .returned (.int .i64 (b * p)) ∧ Below w.heap.size w w' := by
  go_enter Tryd.func36, Tryd.ntmps36
  go_wp2
  go_ret
  exact ⟨rfl, (Below.refl _ _).alloc (Nat.le_refl _) _⟩

theorem dataBytes_any (b p s : Int) (w : World) (h0 : 1 ≤ s) (h1 : s ≤ 8) : Calls Tryd.prog 42 #[.agg #[.int .i64 b, .int .i64 p, .int .i64 s]] w fun e w' => e = .returned (.int .i64 (256 * s)) ∧ Below w.heap.size w w' := by
  go_enter Tryd.func42, Tryd.ntmps42
  go_wp2
  go_ret
  exact ⟨rfl, (Below.refl _ _).alloc (Nat.le_refl _) _⟩

theorem pageBytes_any (b p s : Int) (w : World) (hf : Fits b p s = true) : Calls Tryd.prog 37 #[.agg #[.int .i64 b, .int .i64 p, .int .i64 s]] w fun e w' => e = .returned (.int .i64 (256 * s + (54 + 3 * s))) ∧ Below w.heap.size w w' := by
  have hb0 : Below w.heap.size w (w.alloc (.cells #[.int .i64 b, .int .i64 p, .int .i64 s] 27)) := (Below.refl _ _).alloc (Nat.le_refl _) _
  have hs := fits_s hf
  have e1 : spN b p s = 54 + 3 * s := by unfold spN; rw [hf]; rfl
  go_enter Tryd.func37, Tryd.ntmps37
  go_wp2_with (first
    | (go_at_call 35; refine (spare_any _ _ _ _).mono ?_; rintro e u1 ⟨rfl, bel1⟩; rw [e1]; obtain ⟨c0, c1, c2⟩ := box3 bel1)
    | (go_at_call 42; refine (dataBytes_any _ _ _ _ hs.1 hs.2).mono ?_; rintro e u2 ⟨rfl, bel2⟩))
  go_ret
  have hb1 := hb0.trans (bel1.mono hb0.size)
  exact ⟨rfl, hb1.trans (bel2.mono hb1.size)⟩

end Go.Proofs.YteefekhlbillfaaDoor
