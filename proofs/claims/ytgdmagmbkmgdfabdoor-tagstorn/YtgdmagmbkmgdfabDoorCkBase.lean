/-
  SEAT YtgdmagmbkmgdfabDoor: tags.Check, but for a checkpoint's part.
-/
import Derived.Test.YtgdmagmbkmgdfabDoorRows
import Derived.WalkKit
import Derived.WalkSpells
import Derived.WalkSmall
import Derived.ProofKit
import Derived.OpenShut
import Derived.ChangeOld
import Derived.Below
import Derived.BigQuiet
import Derived.Deep.RegionHeld3
import Derived.Lib.SmallJoins
namespace Go.Proofs.YtgdmagmbkmgdfabDoor.chk
open Go.RowKit
set_option linter.unusedVariables false

theorem ret_bool {a b : Bool} (h : a = b) : Ending.returned (.bool a) = .returned (.bool b) := by rw [h]

/-- May the geometry be? -/
def Fits (b p s : Int) : Bool := decide (8 ≤ b ∧ b ≤ 4096 ∧ 4 ≤ p ∧ p ≤ 256 ∧ 1 ≤ s ∧ s ≤ 8 ∧ b * p ≤ 65536)
def Ser (s b : Int) : Bool := decide (1 ≤ b ∧ b ≤ s ∧ s ≤ 281474976710655)
def Pag (sec n z : Int) : Bool := decide (0 ≤ z ∧ z ≤ 2072 * sec ∧ 0 ≤ n ∧ n ≤ 256 * sec)
def Kin (k f o c n : Int) : Bool := decide ((k = 1 ∧ f = 0 ∧ o = 0 ∧ c = 0 ∧ n = 0) ∨ (k = 2 ∧ (f = 0 ∨ f = 1) ∧ 2 ≤ o ∧ o ≤ 1048575 ∧ c = 0 ∧ 1 ≤ n) ∨
  (k = 3 ∧ (f = 0 ∨ f = 1 ∨ f = 2) ∧ 2 ≤ o ∧ o ≤ 1048575 ∧ 0 ≤ c ∧ c ≤ 1048575 ∧ 1 ≤ n) ∨
  (k = 4 ∧ 1 ≤ o ∧ o ≤ 65536 ∧ 0 ≤ c ∧ c ≤ o - 1 ∧ ((c = o - 1 ∧ f = 4) ∨ (c < o - 1 ∧ f = 0)) ∧ 4 ≤ n))

theorem ways (b p s : Int) : b < 8 ∨ (8 ≤ b ∧ 4096 < b) ∨ (8 ≤ b ∧ b ≤ 4096 ∧ p < 4) ∨ (8 ≤ b ∧ b ≤ 4096 ∧ 4 ≤ p ∧ 256 < p) ∨ (8 ≤ b ∧ b ≤ 4096 ∧ 4 ≤ p ∧ p ≤ 256 ∧ s < 1) ∨ (8 ≤ b ∧ b ≤ 4096 ∧ 4 ≤ p ∧ p ≤ 256 ∧ 1 ≤ s ∧ 8 < s) ∨
    (8 ≤ b ∧ b ≤ 4096 ∧ 4 ≤ p ∧ p ≤ 256 ∧ 1 ≤ s ∧ s ≤ 8 ∧ 0 ≤ b * p ∧ b * p ≤ 1048576) := by
  by_cases h : 8 ≤ b ∧ b ≤ 4096 ∧ 4 ≤ p ∧ p ≤ 256
  · have h1 : 0 ≤ b * p := Int.mul_nonneg (by omega) (by omega)
    have h2 : b * p ≤ 4096 * 256 := Int.mul_le_mul (by omega) (by omega) (by omega) (by omega)
    omega
  · omega

theorem within_t (n a b : Int) (w : World) (h0 : a ≤ n) (h1 : n ≤ b) : Calls Tryd.prog 32 #[.int .i64 n, .int .i64 a, .int .i64 b] w fun e w' => e = .returned (.bool true) ∧ w = w' := by
  go_enter Tryd.func32, Tryd.ntmps32
  go_wp2
  go_ret
  exact ⟨rfl, rfl⟩

theorem within_f (n a b : Int) (w : World) (h : n < a ∨ b < n) : Calls Tryd.prog 32 #[.int .i64 n, .int .i64 a, .int .i64 b] w fun e w' => e = .returned (.bool false) ∧ w = w' := by
  by_cases h0 : a ≤ n
  · have h1 : b < n := by omega
    go_enter Tryd.func32, Tryd.ntmps32
    go_wp2
    go_ret
    exact ⟨ret_bool (decide_eq_false (by omega)), rfl⟩
  · have h1 : n < a := by omega
    go_enter Tryd.func32, Tryd.ntmps32
    go_wp2
    go_ret
    exact ⟨rfl, rfl⟩

set_option maxHeartbeats 1000000 in
theorem shape_any (b p s : Int) (w : World) : Calls Tryd.prog 21 #[.agg #[.int .i64 b, .int .i64 p, .int .i64 s]] w fun e w' => e = .returned (.bool (Fits b p s)) ∧ Below w.heap.size w w' := by
  rcases ways b p s with h | ⟨h1, h⟩ | ⟨h1, h2, h⟩ | ⟨h1, h2, h3, h⟩ | ⟨h1, h2, h3, h4, h⟩ | ⟨h1, h2, h3, h4, h5, h⟩ | ⟨h1, h2, h3, h4, h5, h6, h7, h8⟩
  all_goals
    go_enter Tryd.func21, Tryd.ntmps21
    go_wp2_with (first
      | (go_at_call 32; refine (within_t _ _ _ _ (by omega) (by omega)).mono ?_; rintro e u ⟨rfl, rfl⟩)
      | (go_at_call 32; refine (within_f _ _ _ _ (by omega)).mono ?_; rintro e u ⟨rfl, rfl⟩))
    go_ret
    exact ⟨ret_bool (by first | exact (decide_eq_true (by omega)).symm | exact (decide_eq_false (by omega)).symm | (unfold Fits; rw [decide_eq_decide]; omega)), (Below.refl _ _).alloc (Nat.le_refl _) _⟩

set_option maxHeartbeats 1000000 in
theorem serials_any (k f s b o c n z : Int) (w : World) : Calls Tryd.prog 22 #[.agg #[.int .i64 k, .int .i64 f, .int .u64 s, .int .u64 b, .int .i64 o, .int .i64 c, .int .i64 n, .int .i64 z]] w fun e w' => e = .returned (.bool (Ser s b)) ∧ Below w.heap.size w w' := by
  have hw : b < 1 ∨ (1 ≤ b ∧ s < b) ∨ (1 ≤ b ∧ b ≤ s ∧ 281474976710655 < s) ∨ (1 ≤ b ∧ b ≤ s ∧ s ≤ 281474976710655) := by omega
  rcases hw with h | ⟨h, h1⟩ | ⟨h, h1, h2⟩ | ⟨h, h1, h2⟩
  all_goals
    go_enter Tryd.func22, Tryd.ntmps22
    go_wp2
    go_ret
    exact ⟨ret_bool (by first | exact (decide_eq_true (by omega)).symm | exact (decide_eq_false (by omega)).symm | (unfold Ser; rw [decide_eq_decide]; omega)), (Below.refl _ _).alloc (Nat.le_refl _) _⟩

set_option maxHeartbeats 1000000 in
theorem fitsPage_any (B P sec : Int) (k f s b o c n z : Int) (w : World) (h0 : 1 ≤ sec) (h1 : sec ≤ 8) :
    Calls Tryd.prog 23 #[.agg #[.int .i64 B, .int .i64 P, .int .i64 sec], .agg #[.int .i64 k, .int .i64 f, .int .u64 s, .int .u64 b, .int .i64 o, .int .i64 c, .int .i64 n, .int .i64 z]] w fun e w' => e = .returned (.bool (Pag sec n z)) ∧ Below w.heap.size w w' := by
  have hw : z < 0 ∨ (0 ≤ z ∧ 2072 * sec < z) ∨ (0 ≤ z ∧ z ≤ 2072 * sec ∧ n < 0) ∨ (0 ≤ z ∧ z ≤ 2072 * sec ∧ 0 ≤ n ∧ 256 * sec < n) ∨ (0 ≤ z ∧ z ≤ 2072 * sec ∧ 0 ≤ n ∧ n ≤ 256 * sec) := by omega
  rcases hw with h | ⟨h, h2⟩ | ⟨h, h2, h3⟩ | ⟨h, h2, h3, h4⟩ | ⟨h, h2, h3, h4⟩
  all_goals
    go_enter Tryd.func23, Tryd.ntmps23
    go_wp2_with (first
      | (go_at_call 32; refine (within_t _ _ _ _ (by omega) (by omega)).mono ?_; rintro e u ⟨rfl, rfl⟩)
      | (go_at_call 32; refine (within_f _ _ _ _ (by omega)).mono ?_; rintro e u ⟨rfl, rfl⟩))
    go_ret
    exact ⟨ret_bool (by first | exact (decide_eq_true (by omega)).symm | exact (decide_eq_false (by omega)).symm), ((Below.refl _ _).alloc (Nat.le_refl _) _).alloc (by simp) _⟩
end Go.Proofs.YtgdmagmbkmgdfabDoor.chk
