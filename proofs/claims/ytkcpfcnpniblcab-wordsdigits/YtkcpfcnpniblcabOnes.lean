/-
  SEAT Ytkcpfcnpniblcab: OnesCount8.
-/
import Derived.Test.YtkcpfcnpniblcabFns
namespace Go.Proofs.Ytkcpfcnpniblcab
open Go.RowKit
set_option linter.unusedVariables false

/-- How many of the lowest k bits of n are 1. -/
def popN (n : Nat) : Nat → Nat
  | 0 => 0
  | k + 1 => popN n k + n / 2 ^ k % 2

theorem popN_le (n k : Nat) : popN n k ≤ k := by
  induction k with
  | zero => exact Nat.le_refl _
  | succ k ih => have := Nat.mod_lt (n / 2 ^ k) (show 2 > 0 by decide); rw [popN]; omega

theorem tab_eq (S : ByteArray) (hs : S.size = 256) (hall : ∀ k, k < 256 → (S.data.getD k 0).toNat = popN k 8) (n : Nat) (h : n < S.size) : (S[n]'h).toNat = popN n 8 := by
  have := hall n (by omega)
  rw [← this]
  congr 1
  have h' : n < S.data.size := h
  unfold Array.getD
  rw [dif_pos h']
  rfl

set_option maxRecDepth 100000 in
theorem ones_any (x : Int) (h0 : 0 ≤ x) (h1 : x ≤ 255) (w : World) : Calls Try.prog 26 #[.int .u8 x] w fun e w' => e = .returned (.int .i64 (popN x.toNat 8)) ∧ w = w' := by
  have hp := popN_le x.toNat 8
  go_enter Try.func26, Try.ntmps26
  go_wp2
  go_ret
  refine ⟨ret_int ?_, rfl⟩
  rw [tab_eq _ (by kernel_rfl) (by decide +kernel)]
  simp only [wrap64]
  omega
end Go.Proofs.Ytkcpfcnpniblcab
