/-
  SEAT Ytjhphkfpcpfdnaa: a chip's shape; small calls.
-/
import Derived.Test.YtjhphkfpcpfdnaaMe
import Derived.Lib.SmallJoins
namespace Go.Proofs.Ytjhphkfpcpfdnaa
open Go.RowKit Go.Conc
set_option linter.unusedVariables false

/-- May the geometry be? -/
def Fits (b p s : Int) : Bool := decide (8 ≤ b ∧ b ≤ 4096 ∧ 4 ≤ p ∧ p ≤ 256 ∧ 1 ≤ s ∧ s ≤ 8 ∧ b * p ≤ 65536)

theorem ways (b p s : Int) : b < 8 ∨ (8 ≤ b ∧ 4096 < b) ∨ (8 ≤ b ∧ b ≤ 4096 ∧ p < 4) ∨ (8 ≤ b ∧ b ≤ 4096 ∧ 4 ≤ p ∧ 256 < p) ∨ (8 ≤ b ∧ b ≤ 4096 ∧ 4 ≤ p ∧ p ≤ 256 ∧ s < 1) ∨ (8 ≤ b ∧ b ≤ 4096 ∧ 4 ≤ p ∧ p ≤ 256 ∧ 1 ≤ s ∧ 8 < s) ∨
    (8 ≤ b ∧ b ≤ 4096 ∧ 4 ≤ p ∧ p ≤ 256 ∧ 1 ≤ s ∧ s ≤ 8 ∧ 0 ≤ b * p ∧ b * p ≤ 1048576) := by
  by_cases h : 8 ≤ b ∧ b ≤ 4096 ∧ 4 ≤ p ∧ p ≤ 256
  · have h1 : 0 ≤ b * p := Int.mul_nonneg (by omega) (by omega)
    have h2 : b * p ≤ 4096 * 256 := Int.mul_le_mul (by omega) (by omega) (by omega) (by omega)
    omega
  · omega

set_option maxHeartbeats 1000000 in
theorem mayBe_any (b p s : Int) (w : World) : Calls Try.prog 19 #[.agg #[.int .i64 b, .int .i64 p, .int .i64 s]] w fun e w' => e = .returned (.bool (Fits b p s)) ∧ Below w.heap.size w w' := by
  rcases ways b p s with h | ⟨h1, h⟩ | ⟨h1, h2, h⟩ | ⟨h1, h2, h3, h⟩ | ⟨h1, h2, h3, h4, h⟩ | ⟨h1, h2, h3, h4, h5, h⟩ | ⟨h1, h2, h3, h4, h5, h6, h7, h8⟩
  all_goals
    go_enter Try.func19, Try.ntmps19
    go_wp2
    go_ret
    exact ⟨ret_bool (by first | exact (decide_eq_true (by omega)).symm | exact (decide_eq_false (by omega)).symm | (unfold Fits; rw [decide_eq_decide]; omega)), (Below.refl _ _).alloc (Nat.le_refl _) _⟩

theorem data_any (b p s : Int) (w : World) (h0 : 1 ≤ s) (h1 : s ≤ 8) : Calls Try.prog 34 #[.agg #[.int .i64 b, .int .i64 p, .int .i64 s]] w fun e w' => e = .returned (.int .i64 (256 * s)) ∧ Below w.heap.size w w' := by
  go_enter Try.func34, Try.ntmps34
  go_wp2
  go_ret
  exact ⟨rfl, (Below.refl _ _).alloc (Nat.le_refl _) _⟩
theorem spareB_any (b p s : Int) (w : World) (h0 : 1 ≤ s) (h1 : s ≤ 8) : Calls Try.prog 32 #[.agg #[.int .i64 b, .int .i64 p, .int .i64 s]] w fun e w' => e = .returned (.int .i64 (54 + 3 * s)) ∧ Below w.heap.size w w' := by
  go_enter Try.func32, Try.ntmps32
  go_wp2
  go_ret
  exact ⟨rfl, (Below.refl _ _).alloc (Nat.le_refl _) _⟩
theorem box3 {w u : World} {b p s : Int} (h : Below (w.alloc (.cells #[.int .i64 b, .int .i64 p, .int .i64 s] 23)).heap.size (w.alloc (.cells #[.int .i64 b, .int .i64 p, .int .i64 s] 23)) u) :
    u.cell? ⟨w.heap.size, 0, none⟩ = some (.int .i64 b) ∧ u.cell? ⟨w.heap.size, 1, none⟩ = some (.int .i64 p) ∧ u.cell? ⟨w.heap.size, 2, none⟩ = some (.int .i64 s) := by
  refine ⟨?_, ?_, ?_⟩ <;> (rw [h.cell (by simp)]; simp)
theorem grown_of {w w' : World} (h : Below w.heap.size w w') (row : Option Nat) : w.grownBy w' row := ⟨h.os, h.tape, h.output, h.size, fun k hk _ => h.block k hk⟩
theorem below_of {w w' : World} (h : w.grownBy w' none) : Below w.heap.size w w' := ⟨h.os, h.tape, h.output, h.size, fun k hk => h.block k hk (by simp)⟩
theorem drew_grown (w : World) (r : Option Nat) : w.grownBy w.drew r := ⟨rfl, rfl, rfl, Nat.le_refl _, fun _ _ _ => rfl⟩
theorem below_alloc (w : World) (b) : Below w.heap.size w (w.alloc b) := (Below.refl _ _).alloc (Nat.le_refl _) _

theorem held3 {w x : World} {b p s : Int} (q : (w.alloc (.cells #[.int .i64 b, .int .i64 p, .int .i64 s] 23)).grownBy x none) :
    (fun x : World => (w.alloc (.cells #[.int .i64 b, .int .i64 p, .int .i64 s] 23)).grownBy x none ∧ x.cell? ⟨w.heap.size, 0, none⟩ = some (.int .i64 b) ∧ x.cell? ⟨w.heap.size, 1, none⟩ = some (.int .i64 p) ∧ x.cell? ⟨w.heap.size, 2, none⟩ = some (.int .i64 s)) x := ⟨q, box3 (below_of q)⟩

/-- How many bytes a page has. -/
def pgB (s : Nat) : Nat := 256 * s + (54 + 3 * s)
theorem pgB_le {s : Nat} (h : s ≤ 8) : pgB s ≤ 2126 := by unfold pgB; omega
theorem pageB_any (b p : Int) (s : Nat) (w : World) (h0 : 1 ≤ s) (h1 : s ≤ 8) : Calls Try.prog 29 #[.agg #[.int .i64 b, .int .i64 p, .int .i64 s]] w fun e w' => e = .returned (.int .i64 (pgB s : Nat)) ∧ Below w.heap.size w w' := by
  have g0 : (1 : Int) ≤ s := by omega
  have g1 : (s : Int) ≤ 8 := by omega
  have he : ((pgB s : Nat) : Int) = 256 * (s : Int) + (54 + 3 * (s : Int)) := by unfold pgB; omega
  rw [he]
  clear he h0 h1
  go_enter Try.func29, Try.ntmps29
  go_wp2
  go_region_held3 (fun x => (w.alloc (.cells #[.int .i64 b, .int .i64 p, .int .i64 s] 23)).grownBy x none ∧ x.cell? ⟨w.heap.size, 0, none⟩ = some (.int .i64 b) ∧ x.cell? ⟨w.heap.size, 1, none⟩ = some (.int .i64 p) ∧ x.cell? ⟨w.heap.size, 2, none⟩ = some (.int .i64 s))
    ((first | exact held3 (grownBy_trans (grownBy_trans (drew_grown _ none) (grown_of b1 none)) (grown_of b2 none)) | exact held3 (grownBy_trans (grownBy_trans (drew_grown _ none) (grown_of b2 none)) (grown_of b1 none)) | exact held3 (grownBy_trans (drew_grown _ none) (grown_of b1 none)) | exact held3 (grownBy_trans (drew_grown _ none) (grown_of b2 none)) | exact held3 (drew_grown _ _)))
    ((first | (go_at_call 34; refine (data_any _ _ _ _ g0 g1).mono ?_; rintro e u1 ⟨rfl, b1⟩) | (go_at_call 32; refine (spareB_any _ _ _ _ g0 g1).mono ?_; rintro e u2 ⟨rfl, b2⟩)))
  all_goals go_wp2
  all_goals go_ret
  all_goals exact ⟨ret_int (by simp only [IntKind.wrap_i64]; omega), below_trans (below_alloc w _) (below_of (by first | exact grownBy_trans (grownBy_trans (drew_grown _ none) (grown_of b1 none)) (grown_of b2 none) | exact grownBy_trans (grownBy_trans (drew_grown _ none) (grown_of b2 none)) (grown_of b1 none)))⟩

section
variable {x : Bx} {w : World} {p : Nat}
theorem dark_any (h : x.at w p) : Calls Try.prog 10 #[.pointer (some ⟨p, 0, none⟩)] w fun e w' => e = .returned (.bool x.dark) ∧ w' = w := by
  have c := h.c11
  clear h
  go_enter Try.func10, Try.ntmps10
  go_wp2
  go_ret
  exact ⟨rfl, rfl⟩
theorem on_any (h : x.at w p) : Calls Try.prog 11 #[.pointer (some ⟨p, 0, none⟩)] w fun e w' => e = .returned (.tuple #[]) ∧ w' = w.setCell ⟨p, 11, none⟩ (.bool false) := by
  have c := h.c11
  have f := h.fz 11
  clear h
  go_enter Try.func11, Try.ntmps11
  go_wp2
  go_end0
  exact ⟨rfl, rfl⟩
def hasB (n : Nat) (i : Int) : Bool := decide (0 ≤ i ∧ i < n)
theorem hasBlock_any (h : x.at w p) (i : Int) (B : Nat) (hB : x.B = B) : Calls Try.prog 61 #[.pointer (some ⟨p, 0, none⟩), .int .i64 i] w fun e w' => e = .returned (.bool (hasB B i)) ∧ w' = w := by
  have c := h.c0
  rw [hB] at c
  clear h hB
  by_cases h0 : 0 ≤ i
  · by_cases h1 : i < (B : Int)
    · rw [show hasB B i = true from decide_eq_true ⟨h0, h1⟩]
      go_enter Try.func61, Try.ntmps61
      go_wp2
      go_ret
      exact ⟨rfl, rfl⟩
    · rw [show hasB B i = false from decide_eq_false (by omega)]
      go_enter Try.func61, Try.ntmps61
      go_wp2
      go_ret
      exact ⟨rfl, rfl⟩
  · rw [show hasB B i = false from decide_eq_false (by omega)]
    go_enter Try.func61, Try.ntmps61
    go_wp2
    go_ret
    exact ⟨rfl, rfl⟩
theorem end_zero (h : x.at w p) (a k : Int) (m : Option Addr) (l n : Nat) (f : Int) (h1 : k ≠ 1) (h2 : k ≠ 2) : Calls Try.prog 60 #[.pointer (some ⟨p, 0, none⟩), .agg #[.int .i64 a, .int .i64 k, .slice m l n, .int .u8 f]] w fun e w' => e = .returned (.int .i64 0) ∧ Below w.heap.size w w' := by
  have b1 : (k == 1) = false := by simpa using h1
  have b2 : (k == 2) = false := by simpa using h2
  clear h h1 h2
  go_enter Try.func60, Try.ntmps60
  go_wp2
  go_ret
  exact ⟨rfl, ba (Below.refl _ _)⟩
theorem end_one (h : x.at w p) (a : Int) (m : Option Addr) (l n : Nat) (f : Int) : Calls Try.prog 60 #[.pointer (some ⟨p, 0, none⟩), .agg #[.int .i64 a, .int .i64 1, .slice m l n, .int .u8 f]] w fun e w' => e = .returned (.int .i64 44) ∧ Below w.heap.size w w' := by
  clear h
  go_enter Try.func60, Try.ntmps60
  go_wp2
  go_ret
  exact ⟨rfl, ba (Below.refl _ _)⟩
theorem end_two (h : x.at w p) (a : Int) (m : Option Addr) (l n : Nat) (f : Int) : Calls Try.prog 60 #[.pointer (some ⟨p, 0, none⟩), .agg #[.int .i64 a, .int .i64 2, .slice m l n, .int .u8 f]] w fun e w' => e = .returned (.int .i64 45) ∧ ({ x with dark := true } : Bx).at w' p ∧ Only (· = p) w w' := by
  have hp := h.lt
  have hne : p ≠ w.heap.size := by omega
  have HX := hide h
  have c := h.c11
  have fz := h.fz 11
  clear h
  go_enter Try.func60, Try.ntmps60
  go_wp2
  go_ret
  exact ⟨rfl, (HX.out.setDark true).keep (alloc_old _ _ (HX.out.setDark true).lt), (Only.setCell (· = p) _ p 11 _ rfl).trans (Only.ofB (below_alloc _ _)) (fun _ _ h => h)⟩
end
/-- Which unit a page's bit is of. -/
def unitN (s : Nat) (bit : Nat) : Nat := if bit / 8 < 256 * s then bit / 8 / 256 else if bit / 8 < 256 * s + 54 then s else (bit / 8 - (256 * s + 54)) / 3
end Go.Proofs.Ytjhphkfpcpfdnaa
