/-
  SEAT YtgdmagmbkmgdfaaDoor: the reference's lower.
-/
import Derived.Test.YtgdmagmbkmgdfaaDoorRrA
namespace Go.Proofs.YtgdmagmbkmgdfaaDoor
open Go.RowKit
set_option linter.unusedVariables false

theorem lowP_succ (xs : List Nat) (m k t : Nat) (ht : t < 4) : lowP xs m (4 * k + t + 1) = (lowP xs m (4 * k + t)).set (k / 2) ((lowP xs m (4 * k + t)).getD (k / 2) 0 ||| loA (xs.getD k 0) t * 2 ^ (4 * (k % 2) + t)) := by
  rw [lowP, show (4 * k + t) / 8 = k / 2 by omega, show (4 * k + t) / 4 = k by omega, show (4 * k + t) % 4 = t by omega, show (4 * k + t) % 8 = 4 * (k % 2) + t by omega]

theorem made_zero (w : World) (m : Nat) (hm : m ≤ 4096) (xs : List Nat) : Own (w.alloc (.cells (madeCells #[.int .u8 0] m) 5)) w.heap.size w.heap.size m m (cst (lowP xs m 0)) := by
  unfold Own
  refine ⟨by simp [cst, lowP], Or.inr ⟨w.heap.size, m, madeCells #[.int .u8 0] m, rfl, Nat.le_refl _, heap_alloc_new w _, Nat.le_refl _, by simp [maxLen]; omega, by simp [madeCells], ?_⟩⟩
  have hmc : (madeCells #[.int .u8 0] m).toList = List.replicate m (.int .u8 0) := by
    apply List.ext_getElem
    · simp [madeCells]
    · intro i h1 h2
      simp [madeCells, Nat.mod_one]
  rw [hmc]
  simp [cst, lowP]

set_option maxHeartbeats 1000000 in
theorem lower_any (a : Option Addr) (l cap m : Nat) (xs : List Nat) (w : World) (hl : l = 2 * m) (hm : 1 ≤ m ∧ m ≤ 4096) (hx : ∀ x ∈ xs, x < 256) (h : Reads w a l (cst xs)) :
    Calls Tryd.prog 54 #[.slice a l cap] w fun e w' => e = .returned (.slice (some ⟨w.heap.size, 0, none⟩) m m) ∧ Own w' w.heap.size w.heap.size m m (cst (lowA xs m)) ∧ Below w.heap.size w w' := by
  subst hl
  obtain ⟨i0, hi, hz0, hz1, hz2⟩ := info_parts info5
  have hmk : ∀ u : World, (Instr.makeSlice 22 (.int .i64 (m : Int)) (.int .i64 (m : Int))).run Tryd.prog u =
      .ok (.slice (some ⟨u.heap.size, 0, none⟩) m m) (u.alloc (.cells (madeCells #[.int .u8 0] m) 5)) := fun u => by
    have h := run_make (P := Tryd.prog) u 22 5 i0 (.int .u8 0) Tryd.underlying22 hi hz0 .i64 .i64 (m : Int) (m : Int) (by omega) (by omega) (by rw [hz2]; omega) (by omega)
    simpa [hz1, Value.cells] using h
  have hq : (2 * (m : Int)) / 2 = (m : Int) := by omega
  obtain ⟨b, off, rfl, hb, hcell⟩ := h.pos (by omega)
  have own0 := made_zero w m hm.2 xs
  go_enter Tryd.func54, Tryd.ntmps54
  go_wp2
  go_loopw [4] (fun i wr => ∃ k : Nat, k ≤ 2 * m ∧ i = .int .i64 k ∧ Own wr w.heap.size w.heap.size m m (cst (lowP xs m (4 * k))) ∧ Below w.heap.size w wr)
    (fun i _ => 2 * m - (intOf i).toNat)
  case atStart => exact ⟨0, Nat.zero_le _, rfl, own0, (Below.refl _ _).alloc (Nat.le_refl _) _⟩
  case round =>
    obtain ⟨k, hk, rfl, own1, bel1⟩ := hrel
    by_cases hlt : k < 2 * m
    · obtain ⟨z, hz⟩ : ∃ z, z = xs.getD k 0 := ⟨_, rfl⟩
      have hcx : w.cell? ⟨b, off + k, none⟩ = some (.int .u8 (z : Int)) := by rw [hz, ← cst_getD]; exact hcell k hlt
      have hz256 : z < 256 := by rw [hz]; exact at_lt hx _
      have m1 : (k : Int) < 2 * (m : Int) := by omega
      have hd1 : decide ((k : Int) < 2 * (m : Int)) = true := decide_eq_true m1
      have HZ : Hid (z = xs.getD k 0) := hz
      clear hcell hz
      go_wp2
      go_loopw [5, 6] (fun j v wq => ∃ (t : Nat), t ≤ 4 ∧ j = .int .i64 t ∧ Own wq w.heap.size w.heap.size m m (cst (lowP xs m (4 * k + t))) ∧ Below w.heap.size w wq)
        (fun j _ _ => 4 - (intOf j).toNat)
      case atStart => exact ⟨0, by omega, rfl, own1, bel1⟩
      case round =>
        obtain ⟨t, ht, rfl, own2, bel2⟩ := hrel
        by_cases hlt2 : t < 4
        · have hcx2 := (bel2.cell (p := ⟨b, off + k, none⟩) hb).trans hcx
          obtain ⟨lo, hlo⟩ : ∃ lo, lo = loA z t := ⟨_, rfl⟩
          have hlo1 : lo ≤ 1 := by rw [hlo]; exact loA_le z t
          have c1 := fun u => lobit z t (2 * (t : Int)) u rfl hz256 hlt2
          rw [← hlo] at c1
          obtain ⟨R, hR⟩ : ∃ R, R = k / 2 := ⟨_, rfl⟩
          obtain ⟨e, he⟩ : ∃ e, e = k % 2 := ⟨_, rfl⟩
          have hR2 : (k : Int) / 2 = (R : Int) := by omega
          have he2 : (k : Int) % 2 = (e : Int) := by omega
          have he1 : e ≤ 1 := by omega
          have hRm : R < m := by omega
          have rm : (R : Int) < (m : Int) := by omega
          have lw : (lo : Int) % 256 = (lo : Int) := by omega
          have m2 : (t : Int) < 4 := by omega
          have hd2 : decide ((t : Int) < 4) = true := decide_eq_true m2
          have hs := lowP_succ xs m k t hlt2
          rw [← HZ.out, ← hlo, ← hR, ← he] at hs
          obtain ⟨o, ho⟩ : ∃ o, o = (lowP xs m (4 * k + t)).getD R 0 := ⟨_, rfl⟩
          rw [← ho] at hs
          have ho256 : o < 256 := by rw [ho]; exact at_lt (lowP_lt _ _ _) _
          have hoc := own2.cell R hRm
          rw [cst_getD, ← ho] at hoc
          have hfz : wr.frozen? ⟨w.heap.size, R, none⟩ = false := World.ownsRow.frozenAt own2 R
          have hset := (own2.set R (bits .or .u8 (o : Int) ((lo : Int) * 2 ^ (4 * e + t) % 256))).1
          have hor := or_eq o lo (4 * e + t) ho256 hlo1 (by omega)
          rw [hor, cst_set, ← hs] at hset
          have HSET : Hid (Own _ _ _ _ _ _) := hset
          have HC1 : Hid _ := c1
          clear hset hs ho hlo hR he c1 own2 own1
          go_wp2_with (first | (go_at_call 40; refine (HC1.out _).mono ?_; rintro e u ⟨rfl, rfl⟩))
          go_roundw
          case rel =>
            refine ⟨t + 1, by omega, by go_num, HSET.out, ?_⟩
            exact bel2.setCell (p := ⟨w.heap.size, R, none⟩) (Nat.le_refl _) _
          case measure => simp [intOf]; omega
        · have ht4 : t = 4 := by omega
          subst ht4
          go_wp2
          go_roundw
          case rel => exact ⟨k + 1, by omega, by go_num, own2, bel2⟩
          case measure => simp [intOf]; omega
    · have hkl : k = 2 * m := by omega
      rw [hkl, show 4 * (2 * m) = 8 * m by omega] at own1
      have HO : Hid (Own _ _ _ _ _ _) := own1
      clear own1
      go_wp2
      go_ret
      exact ⟨rfl, HO.out, bel1⟩
end Go.Proofs.YtgdmagmbkmgdfaaDoor
