/-
  SEAT YtgdmagmbkmgdfabDoor: tags there and back.
-/
import Derived.Test.YtgdmagmbkmgdfabDoorLf
import Derived.Test.YtgdmagmbkmgdfabDoorLv
namespace Go.Proofs.YtgdmagmbkmgdfabDoor
open Go.RowKit
set_option linter.unusedVariables false

theorem fld (zs : List Int) (t n : Nat) (v : Int) (hv : 0 ≤ v) (hn : t + n ≤ 26) (h : ∀ i, i < n → zs.getD (t + i) 0 = v / 256 ^ i % 256) : getL zs t n = v % 256 ^ n := by
  rw [← get_put (List.replicate 26 0) t v n (by simp; omega) hv n (Nat.le_refl _)]
  apply getL_congr
  intro i hi
  rw [putL_getD _ _ _ _ (by simp; omega), if_pos ⟨by omega, by omega⟩, h i hi, Nat.add_sub_cancel_left]

theorem tag_f0 (n0 n1 n2 n3 n4 n5 n6 n7 : Int) : ∀ i, i < 1 → (tagL n0 n1 n2 n3 n4 n5 n6 n7).getD (0 + i) 0 = n0 / 256 ^ i % 256 := by
  intro i hi
  obtain rfl : i = 0 := by omega
  kernel_rfl
theorem tag_f1 (n0 n1 n2 n3 n4 n5 n6 n7 : Int) : ∀ i, i < 1 → (tagL n0 n1 n2 n3 n4 n5 n6 n7).getD (1 + i) 0 = n1 / 256 ^ i % 256 := by
  intro i hi
  obtain rfl : i = 0 := by omega
  kernel_rfl
theorem tag_f2 (n0 n1 n2 n3 n4 n5 n6 n7 : Int) : ∀ i, i < 6 → (tagL n0 n1 n2 n3 n4 n5 n6 n7).getD (2 + i) 0 = n2 / 256 ^ i % 256 := by
  intro i hi
  rcases (show i = 0 ∨ i = 1 ∨ i = 2 ∨ i = 3 ∨ i = 4 ∨ i = 5 by omega) with rfl | rfl | rfl | rfl | rfl | rfl
  · kernel_rfl
  · kernel_rfl
  · kernel_rfl
  · kernel_rfl
  · kernel_rfl
  · kernel_rfl
theorem tag_f3 (n0 n1 n2 n3 n4 n5 n6 n7 : Int) : ∀ i, i < 6 → (tagL n0 n1 n2 n3 n4 n5 n6 n7).getD (8 + i) 0 = n3 / 256 ^ i % 256 := by
  intro i hi
  rcases (show i = 0 ∨ i = 1 ∨ i = 2 ∨ i = 3 ∨ i = 4 ∨ i = 5 by omega) with rfl | rfl | rfl | rfl | rfl | rfl
  · kernel_rfl
  · kernel_rfl
  · kernel_rfl
  · kernel_rfl
  · kernel_rfl
  · kernel_rfl
theorem tag_f4 (n0 n1 n2 n3 n4 n5 n6 n7 : Int) : ∀ i, i < 4 → (tagL n0 n1 n2 n3 n4 n5 n6 n7).getD (14 + i) 0 = n4 / 256 ^ i % 256 := by
  intro i hi
  rcases (show i = 0 ∨ i = 1 ∨ i = 2 ∨ i = 3 by omega) with rfl | rfl | rfl | rfl
  · kernel_rfl
  · kernel_rfl
  · kernel_rfl
  · kernel_rfl
theorem tag_f5 (n0 n1 n2 n3 n4 n5 n6 n7 : Int) : ∀ i, i < 4 → (tagL n0 n1 n2 n3 n4 n5 n6 n7).getD (18 + i) 0 = n5 / 256 ^ i % 256 := by
  intro i hi
  rcases (show i = 0 ∨ i = 1 ∨ i = 2 ∨ i = 3 by omega) with rfl | rfl | rfl | rfl
  · kernel_rfl
  · kernel_rfl
  · kernel_rfl
  · kernel_rfl
theorem tag_f6 (n0 n1 n2 n3 n4 n5 n6 n7 : Int) : ∀ i, i < 2 → (tagL n0 n1 n2 n3 n4 n5 n6 n7).getD (22 + i) 0 = n6 / 256 ^ i % 256 := by
  intro i hi
  rcases (show i = 0 ∨ i = 1 by omega) with rfl | rfl
  · kernel_rfl
  · kernel_rfl
theorem tag_f7 (n0 n1 n2 n3 n4 n5 n6 n7 : Int) : ∀ i, i < 2 → (tagL n0 n1 n2 n3 n4 n5 n6 n7).getD (24 + i) 0 = n7 / 256 ^ i % 256 := by
  intro i hi
  rcases (show i = 0 ∨ i = 1 by omega) with rfl | rfl
  · kernel_rfl
  · kernel_rfl

theorem tagsOf_tagL (n0 n1 n2 n3 n4 n5 n6 n7 : Int) (h2 : 0 ≤ n2) (h3 : 0 ≤ n3) (hs : Small n0 n1 n2 n3 n4 n5 n6 n7) : tagsOf (tagL n0 n1 n2 n3 n4 n5 n6 n7) = T8 n0 n1 n2 n3 n4 n5 n6 n7 := by
  obtain ⟨⟨p0, q0⟩, ⟨p1, q1⟩, q2, q3, ⟨p4, q4⟩, ⟨p5, q5⟩, ⟨p6, q6⟩, ⟨p7, q7⟩⟩ := hs
  have z1 : (256 : Int) ^ 1 = 256 := by decide
  have z2 : (256 : Int) ^ 2 = 65536 := by decide
  have z4 : (256 : Int) ^ 4 = 4294967296 := by decide
  have z6 : (256 : Int) ^ 6 = 281474976710656 := by decide
  have e0 := fld (tagL n0 n1 n2 n3 n4 n5 n6 n7) 0 1 n0 p0 (by omega) (tag_f0 n0 n1 n2 n3 n4 n5 n6 n7)
  rw [z1, Int.emod_eq_of_lt p0 (by omega)] at e0
  have e1 := fld (tagL n0 n1 n2 n3 n4 n5 n6 n7) 1 1 n1 p1 (by omega) (tag_f1 n0 n1 n2 n3 n4 n5 n6 n7)
  rw [z1, Int.emod_eq_of_lt p1 (by omega)] at e1
  have e2 := fld (tagL n0 n1 n2 n3 n4 n5 n6 n7) 2 6 n2 h2 (by omega) (tag_f2 n0 n1 n2 n3 n4 n5 n6 n7)
  rw [z6, Int.emod_eq_of_lt h2 (by omega)] at e2
  have e3 := fld (tagL n0 n1 n2 n3 n4 n5 n6 n7) 8 6 n3 h3 (by omega) (tag_f3 n0 n1 n2 n3 n4 n5 n6 n7)
  rw [z6, Int.emod_eq_of_lt h3 (by omega)] at e3
  have e4 := fld (tagL n0 n1 n2 n3 n4 n5 n6 n7) 14 4 n4 p4 (by omega) (tag_f4 n0 n1 n2 n3 n4 n5 n6 n7)
  rw [z4, Int.emod_eq_of_lt p4 (by omega)] at e4
  have e5 := fld (tagL n0 n1 n2 n3 n4 n5 n6 n7) 18 4 n5 p5 (by omega) (tag_f5 n0 n1 n2 n3 n4 n5 n6 n7)
  rw [z4, Int.emod_eq_of_lt p5 (by omega)] at e5
  have e6 := fld (tagL n0 n1 n2 n3 n4 n5 n6 n7) 22 2 n6 p6 (by omega) (tag_f6 n0 n1 n2 n3 n4 n5 n6 n7)
  rw [z2, Int.emod_eq_of_lt p6 (by omega)] at e6
  have e7 := fld (tagL n0 n1 n2 n3 n4 n5 n6 n7) 24 2 n7 p7 (by omega) (tag_f7 n0 n1 n2 n3 n4 n5 n6 n7)
  rw [z2, Int.emod_eq_of_lt p7 (by omega)] at e7
  unfold tagsOf
  rw [e0, e1, e2, e3, e4, e5, e6, e7]

theorem lift_tags (a : Option Addr) (c : Nat) (n0 n1 n2 n3 n4 n5 n6 n7 : Int) (w : World) (hT : Tab w) (h2 : 0 ≤ n2) (h3 : 0 ≤ n3) (hs : Small n0 n1 n2 n3 n4 n5 n6 n7) (h : Reads w a 54 (railL (tagL n0 n1 n2 n3 n4 n5 n6 n7))) :
    Calls Tryd.prog 12 #[.slice a 54 c] w fun e w' => e = .returned (.tuple #[T8 n0 n1 n2 n3 n4 n5 n6 n7, .int .i64 (-1), .int .i64 0]) ∧ Below w.heap.size w w' := by
  rw [← tagsOf_tagL n0 n1 n2 n3 n4 n5 n6 n7 h2 h3 hs]
  obtain ⟨hc, hx⟩ := cst_of (tagL n0 n1 n2 n3 n4 n5 n6 n7) (tagL_range n0 n1 n2 n3 n4 n5 n6 n7)
  obtain ⟨xs, hxs⟩ : ∃ xs, xs = (tagL n0 n1 n2 n3 n4 n5 n6 n7).map Int.toNat := ⟨_, rfl⟩
  rw [← hxs] at hc hx
  have e1 : railL (tagL n0 n1 n2 n3 n4 n5 n6 n7) = cst (layLN (xs ++ [colN xs])) := by
    rw [← hc, railL, col_cst xs hx, ← lay_cst]
    simp [cst]
  rw [e1] at h
  have hrd := lift8_some a c _ xs (-1) w hT (layLN_lt _) h (read_lay xs hx)
  rw [hc] at hrd
  exact hrd

theorem read_tags (a : Option Addr) (c : Nat) (n0 n1 n2 n3 n4 n5 n6 n7 : Int) (w : World) (hT : Tab w) (h2 : 0 ≤ n2) (h3 : 0 ≤ n3) (hs : Small n0 n1 n2 n3 n4 n5 n6 n7) (h : Reads w a 26 (tagL n0 n1 n2 n3 n4 n5 n6 n7)) :
    Calls Tryd.prog 11 #[.slice a 26 c] w fun e w' => e = .returned (.tuple #[T8 n0 n1 n2 n3 n4 n5 n6 n7, .int .i64 0]) ∧ Below w.heap.size w w' := by
  rw [← tagsOf_tagL n0 n1 n2 n3 n4 n5 n6 n7 h2 h3 hs]
  exact read8_ok a c _ w hT h
end Go.Proofs.YtgdmagmbkmgdfabDoor
