/-
  SEAT Ytkcpfcnpniblcac: how far two rows lie apart.
-/
import Derived.Test.YtkcpfcnpniblcacRdF
import Derived.Test.YtkcpfcnpniblcacOneP
namespace Go.Proofs.Ytkcpfcnpniblcac
open Go.RowKit
set_option linter.unusedVariables false

theorem bit8 : ∀ t : Nat, t < 8 → ∀ d : Nat, d < 256 → bits .and .u8 ((d : Int) / 2 ^ t) 1 = ((d / 2 ^ t % 2 : Nat) : Int) := by decide +kernel

set_option maxHeartbeats 1000000 in
theorem apart_any (a a' : Option Addr) (n c c' : Nat) (xs ys : List Nat) (w : World) (hn : n ≤ 10000) (hx : ∀ x ∈ xs, x < 256) (hy : ∀ x ∈ ys, x < 256) (h : Reads w a n (cst xs)) (h' : Reads w a' n (cst ys)) :
    Calls Try.prog 10 #[.slice a n c, .slice a' n c'] w fun e w' => e = .returned (.int .i64 ((distL xs ys : Nat) : Int)) ∧ ∃ k, w' = w.drewN k := by
  have hlx : xs.length = n := by have := h.1; simpa [cst] using this
  have hly : ys.length = n := by have := h'.1; simpa [cst] using this
  go_enter Try.func10, Try.ntmps10
  go_wp2
  go_loopw [5, 6] (fun v i wr => ∃ k j d : Nat, k ≤ n ∧ i = .int .i64 k ∧ v = .int .i64 (d : Int) ∧ d ≤ 8 * k ∧ Hid (d = distL (xs.take k) (ys.take k)) ∧ wr = w.drewN j)
    (fun _ i _ => n - (intOf i).toNat)
  case atStart => exact ⟨0, 0, 0, Nat.zero_le _, rfl, rfl, by omega, by simp [Hid, distL], rfl⟩
  case round =>
    obtain ⟨k, j, d, hk, rfl, rfl, hd, HD, rfl⟩ := hrel
    by_cases hlt : k < n
    · obtain ⟨b, off, rfl, hb, hcell⟩ := h.pos (by omega)
      obtain ⟨b', off', rfl, hb', hcell'⟩ := h'.pos (by omega)
      obtain ⟨x, hxe⟩ : ∃ x, x = xs.getD k 0 := ⟨_, rfl⟩
      obtain ⟨y, hye⟩ : ∃ y, y = ys.getD k 0 := ⟨_, rfl⟩
      have hcx : w.cell? ⟨b, off + k, none⟩ = some (.int .u8 (x : Int)) := by rw [hxe, ← cst_getD]; exact hcell k hlt
      have hcy : w.cell? ⟨b', off' + k, none⟩ = some (.int .u8 (y : Int)) := by rw [hye, ← cst_getD]; exact hcell' k hlt
      have x256 : x < 256 := by rw [hxe]; exact at_lt hx _
      have y256 : y < 256 := by rw [hye]; exact at_lt hy _
      obtain ⟨e, he⟩ : ∃ e, e = x ^^^ y := ⟨_, rfl⟩
      have e256 : e < 256 := by rw [he]; exact Nat.xor_lt_two_pow (n := 8) x256 y256
      have hxr : bits .xor .u8 (x : Int) (y : Int) = (e : Int) := by rw [he]; exact u8_xor_nat x y x256 y256
      have HE : Hid (distL (xs.take (k + 1)) (ys.take (k + 1)) = d + pcK e 8) := by unfold Hid; rw [distL_step _ _ _ (by omega) (by omega), ← HD.out, he, hxe, hye]
      have i1 : (k : Int) < (n : Int) := by omega
      have hd1 : decide ((k : Int) < (n : Int)) = true := decide_eq_true i1
      clear hcell hcell' hxe hye he h h' HD hx hy hlx hly x256 y256
      go_wp2
      go_loopw [5, 7] (fun v i wr => ∃ t j2 d2 : Nat, t ≤ 8 ∧ i = .int .i64 t ∧ v = .int .i64 (d2 : Int) ∧ d2 ≤ d + t ∧ Hid (d2 = d + pcK e t) ∧ wr = w.drewN j2)
        (fun _ i _ => 8 - (intOf i).toNat)
      case atStart => exact ⟨0, j, d, by omega, rfl, rfl, by omega, rfl, rfl⟩
      case round =>
        obtain ⟨t, j2, d2, ht, rfl, rfl, hd2, HD2, rfl⟩ := hrel
        by_cases hlt2 : t < 8
        · have hb := bit8 t hlt2 e e256
          obtain ⟨b0, hb0⟩ : ∃ b0, b0 = e / 2 ^ t % 2 := ⟨_, rfl⟩
          rw [← hb0] at hb
          have HB : Hid (pcK e (t + 1) = pcK e t + b0) := by unfold Hid; rw [pcK, hb0]
          have m2 : (t : Int) < 8 := by omega
          have hd2' : decide ((t : Int) < 8) = true := decide_eq_true m2
          have hb1 : b0 = 0 ∨ b0 = 1 := by omega
          clear hb0
          rcases hb1 with rfl | rfl
          · go_wp2
            go_quiet (fail)
            go_wp2
            go_roundw
            case rel => exact ⟨t + 1, j2 + nq, d2, by omega, by go_num, rfl, by omega, by unfold Hid; rw [HD2.out, HB.out]; omega, rfl⟩
            case measure => simp [intOf]; omega
          · go_wp2
            go_quiet (fail)
            go_wp2
            go_roundw
            case rel => exact ⟨t + 1, j2 + nq, d2 + 1, by omega, by go_num, by go_num, by omega, by unfold Hid; rw [HD2.out, HB.out]; omega, rfl⟩
            case measure => simp [intOf]; omega
        · have ht8 : t = 8 := by omega
          subst ht8
          go_wp2
          go_roundw
          case rel => exact ⟨k + 1, j2, d2, by omega, by go_num, rfl, by omega, by unfold Hid; rw [HE.out, HD2.out], rfl⟩
          case measure => simp [intOf]; omega
    · have hkn : k = n := by omega
      subst hkn
      have e := HD.out
      rw [List.take_of_length_le (by omega), List.take_of_length_le (by omega)] at e
      have HE : Hid (d = distL xs ys) := e
      clear e HD h h'
      go_wp2
      go_ret
      exact ⟨by rw [← HE.out]; rfl, j, rfl⟩
end Go.Proofs.Ytkcpfcnpniblcac
