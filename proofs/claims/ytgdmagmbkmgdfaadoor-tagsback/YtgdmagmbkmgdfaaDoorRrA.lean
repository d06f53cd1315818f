/-
  SEAT YtgdmagmbkmgdfaaDoor: the reference's Read: broken, lower.
-/
import Derived.Test.YtgdmagmbkmgdfaaDoorRdF
import Derived.Test.YtgdmagmbkmgdfaaDoorLowP
namespace Go.Proofs.YtgdmagmbkmgdfaaDoor
open Go.RowKit
set_option linter.unusedVariables false

def lastB (L : List Nat) : Int := match L.getLast? with
  | none => -1
  | some p => (p : Int)
theorem lastB_snoc (L : List Nat) (p : Nat) : lastB (L ++ [p]) = (p : Int) := by simp [lastB]

theorem lo_r : ∀ t : Nat, t < 4 → ∀ z : Nat, z < 256 → (z : Int) / 2 ^ (2 * t) % 2 = ((loA z t : Nat) : Int) := by decide +kernel
theorem hi_r : ∀ t : Nat, t < 4 → ∀ z : Nat, z < 256 → (z : Int) / 2 ^ (2 * t + 1) % 2 = ((z / 4 ^ t / 2 % 2 : Nat) : Int) := by decide +kernel
theorem bkn_lo (z t : Nat) : bkn z t = decide (loA z t = z / 4 ^ t / 2 % 2) := by unfold bkn loA; rw [Bool.eq_iff_iff]; simp

theorem quiet_at {P : Program} {f : FuncId} {args : Array Value} {w : World} {j n : Nat} {v : Value}
    (h : Calls P f args (w.drewN (j + n)) fun e w' => e = .returned v ∧ w' = w.drewN (j + n)) : Calls P f args (w.drewN (j + n)) fun e w'' => e = .returned v ∧ ∃ m, w'' = w.drewN (j + m) :=
  h.mono fun _ _ ⟨he, hm⟩ => ⟨he, n, hm⟩

theorem lobit (z t : Nat) (j : Int) (w : World) (hj : j = 2 * (t : Int)) (hz : z < 256) (ht : t < 4) : Calls Tryd.prog 40 #[.int .u8 (z : Int), .int .i64 j] w fun e w' => e = .returned (.int .i64 ((loA z t : Nat) : Int)) ∧ w' = w :=
  (rbit_any' (z : Int) j (2 * t) w (by omega) (by omega) (by omega) (by omega)).mono fun e u h => ⟨by rw [h.1, lo_r t ht z hz], h.2.symm⟩
theorem hibit (z t : Nat) (j : Int) (w : World) (hj : j = 2 * (t : Int) + 1) (hz : z < 256) (ht : t < 4) : Calls Tryd.prog 40 #[.int .u8 (z : Int), .int .i64 j] w fun e w' => e = .returned (.int .i64 ((z / 4 ^ t / 2 % 2 : Nat) : Int)) ∧ w' = w :=
  (rbit_any' (z : Int) j (2 * t + 1) w (by omega) (by omega) (by omega) (by omega)).mono fun e u h => ⟨by rw [h.1, hi_r t ht z hz], h.2.symm⟩

set_option maxHeartbeats 1000000 in
theorem broken_any (a : Option Addr) (l cap : Nat) (xs : List Nat) (w : World) (hl : l ≤ 10000) (hx : ∀ x ∈ xs, x < 256) (h : Reads w a l (cst xs)) :
    Calls Tryd.prog 44 #[.slice a l cap] w fun e w' => e = .returned (.tuple #[.int .i64 (((brkL xs (4 * l)).length : Nat) : Int), .int .i64 (lastB (brkL xs (4 * l)))]) ∧ ∃ k, w' = w.drewN k := by
  have hlx : xs.length = l := by have := h.1; simpa [cst] using this
  go_enter Tryd.func44, Tryd.ntmps44
  go_wp2
  go_loopw [4, 5, 6] (fun v q i wr => ∃ (k j d : Nat) (p : Int), k ≤ l ∧ i = .int .i64 k ∧ v = .int .i64 (d : Int) ∧ q = .int .i64 p ∧ d ≤ 4 * k ∧ Hid (d = (brkL xs (4 * k)).length ∧ p = lastB (brkL xs (4 * k))) ∧ wr = w.drewN j)
    (fun _ _ i _ => l - (intOf i).toNat)
  case atStart => exact ⟨0, 0, 0, -1, Nat.zero_le _, rfl, rfl, rfl, by omega, ⟨rfl, rfl⟩, rfl⟩
  case round =>
    obtain ⟨k, j, d, p, hk, rfl, rfl, rfl, hd, HD, rfl⟩ := hrel
    by_cases hlt : k < l
    · obtain ⟨b, off, rfl, hb, hcell⟩ := h.pos (by omega)
      obtain ⟨x, hxe⟩ : ∃ x, x = xs.getD k 0 := ⟨_, rfl⟩
      have hcx : w.cell? ⟨b, off + k, none⟩ = some (.int .u8 (x : Int)) := by rw [hxe, ← cst_getD]; exact hcell k hlt
      have x256 : x < 256 := by rw [hxe]; exact at_lt hx _
      have HX : Hid (x = xs.getD k 0) := hxe
      have i1 : (k : Int) < (l : Int) := by omega
      have hd1 : decide ((k : Int) < (l : Int)) = true := decide_eq_true i1
      clear hcell hxe h hx hlx
      go_wp2
      go_loopw [4, 5, 7] (fun v q i wr => ∃ (t j2 d2 : Nat) (p2 : Int), t ≤ 4 ∧ i = .int .i64 t ∧ v = .int .i64 (d2 : Int) ∧ q = .int .i64 p2 ∧ d2 ≤ 4 * k + t ∧ Hid (d2 = (brkL xs (4 * k + t)).length ∧ p2 = lastB (brkL xs (4 * k + t))) ∧ wr = w.drewN j2)
        (fun _ _ i _ => 4 - (intOf i).toNat)
      case atStart => exact ⟨0, j, d, p, by omega, rfl, rfl, rfl, by omega, HD, rfl⟩
      case round =>
        obtain ⟨t, j2, d2, p2, ht, rfl, rfl, rfl, hd2, HD2, rfl⟩ := hrel
        by_cases hlt2 : t < 4
        · have m2 : (t : Int) < 4 := by omega
          have hd2' : decide ((t : Int) < 4) = true := decide_eq_true m2
          have hbk := brokenAt_at xs k t hlt2
          rw [← HX.out, bkn_lo] at hbk
          have hs := brkL_succ xs (4 * k + t)
          rw [hbk] at hs
          obtain ⟨lo, hlo⟩ : ∃ lo, lo = loA x t := ⟨_, rfl⟩
          obtain ⟨hi, hhi⟩ : ∃ hi, hi = x / 4 ^ t / 2 % 2 := ⟨_, rfl⟩
          have c1 := fun u => lobit x t (2 * (t : Int)) u rfl x256 hlt2
          have c2 := fun u => hibit x t (2 * (t : Int) + 1) u rfl x256 hlt2
          rw [← hlo, ← hhi] at hs
          rw [← hlo] at c1
          rw [← hhi] at c2
          by_cases he : lo = hi
          · subst he
            have HS : Hid (brkL xs (4 * k + t + 1) = brkL xs (4 * k + t) ++ [4 * k + t]) := by simpa [Hid] using hs
            have HC1 : Hid _ := c1
            have HC2 : Hid _ := c2
            clear hs hbk hlo hhi c1 c2
            go_wp2
            go_quiet (first
              | (go_at_call 40; with_reducible exact quiet_at (HC1.out _))
              | (go_at_call 40; with_reducible exact quiet_at (HC2.out _)))
            all_goals go_wp2
            all_goals go_roundw
            case rel => exact ⟨t + 1, j2 + nq, d2 + 1, ((4 * k + t : Nat) : Int), by omega, by go_num, by go_num, by go_num, by omega, by unfold Hid; rw [← Nat.add_assoc, HS.out, lastB_snoc, List.length_append, HD2.out.1]; exact ⟨rfl, rfl⟩, rfl⟩
            case measure => simp [intOf]; omega
          · have HS : Hid (brkL xs (4 * k + t + 1) = brkL xs (4 * k + t)) := by simpa [Hid, he] using hs
            have he2 : ((lo : Int) == (hi : Int)) = false := by simp; omega
            have HC1 : Hid _ := c1
            have HC2 : Hid _ := c2
            clear hs hbk hlo hhi c1 c2 he
            go_wp2
            go_quiet (first
              | (go_at_call 40; with_reducible exact quiet_at (HC1.out _))
              | (go_at_call 40; with_reducible exact quiet_at (HC2.out _)))
            all_goals go_wp2
            all_goals go_roundw
            case rel => exact ⟨t + 1, j2 + nq, d2, p2, by omega, by go_num, rfl, rfl, by omega, by unfold Hid; rw [← Nat.add_assoc, HS.out]; exact HD2.out, rfl⟩
            case measure => simp [intOf]; omega
        · have ht4 : t = 4 := by omega
          subst ht4
          go_wp2
          go_roundw
          case rel => exact ⟨k + 1, j2, d2, p2, by omega, by go_num, rfl, rfl, by omega, HD2, rfl⟩
          case measure => simp [intOf]; omega
    · have hkn : k = l := by omega
      subst hkn
      clear h
      go_wp2
      go_ret2
      exact ⟨by rw [← HD.out.1, ← HD.out.2]; rfl, j, rfl⟩
end Go.Proofs.YtgdmagmbkmgdfaaDoor
