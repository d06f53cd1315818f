/-
  SEAT YtgdmagmbkmgdfaaDoor: the reference's mend, Read.
-/
import Derived.Test.YtgdmagmbkmgdfaaDoorRrB
namespace Go.Proofs.YtgdmagmbkmgdfaaDoor
open Go.RowKit
set_option linter.unusedVariables false

/-- The rows when the pairs below P have been looked at. -/
def stM (xs : List Nat) (m P : Nat) : List Nat := match brkL xs P with
  | [] => lowA xs m
  | p :: _ => flipC (lowA xs m) p

theorem stM_whole {xs : List Nat} {m P : Nat} (h : brokenAt xs P = false) : stM xs m (P + 1) = stM xs m P := by
  unfold stM
  rw [brkL_succ, h]
  simp

theorem stM_broken {xs : List Nat} {m P N : Nat} (hP : P < N) (hL : (brkL xs N).length ≤ 1) (h : brokenAt xs P = true) : stM xs m P = lowA xs m ∧ stM xs m (P + 1) = flipC (lowA xs m) P := by
  have h1 := brkL_succ xs P
  rw [h] at h1
  have h2 := brkL_mono xs (P + 1) (N - (P + 1))
  rw [show P + 1 + (N - (P + 1)) = N by omega] at h2
  have h3 : brkL xs P = [] := by
    apply List.eq_nil_of_length_eq_zero
    rw [h1] at h2
    simp at h2
    omega
  unfold stM
  rw [h1, h3]
  exact ⟨rfl, rfl⟩

theorem lowA_lt (xs : List Nat) (m : Nat) : ∀ x ∈ lowA xs m, x < 256 := lowP_lt xs m (8 * m)

theorem cbit (s : Nat) (j : Int) (C : Nat) (w : World) (hj : j = (C : Int)) (hs : s < 256) (hC : C < 8) : Calls Tryd.prog 40 #[.int .u8 (s : Int), .int .i64 j] w fun e w' => e = .returned (.int .i64 ((s / 2 ^ C % 2 : Nat) : Int)) ∧ w' = w :=
  (rbit_any' (s : Int) j C w hj (by omega) (by omega) hC).mono fun e u h => ⟨by rw [h.1]; simp, h.2.symm⟩

set_option maxHeartbeats 1000000 in
theorem rmend_any (a : Option Addr) (l cap m : Nat) (xs : List Nat) (w : World) (hl : l = 2 * m) (hm : 1 ≤ m ∧ m ≤ 4096) (hx : ∀ x ∈ xs, x < 256) (h : Reads w a l (cst xs)) (hL : (brkL xs (4 * l)).length ≤ 1) :
    Calls Tryd.prog 45 #[.slice a l cap] w fun e w' => e = .returned (.slice (some ⟨w.heap.size, 0, none⟩) m m) ∧ Own w' w.heap.size w.heap.size m m (cst (stM xs m (4 * l))) ∧ Below w.heap.size w w' := by
  subst hl
  have clow := fun _ : Unit => lower_any a (2 * m) cap m xs w rfl hm hx h
  obtain ⟨b, off, rfl, hb, hcell⟩ := h.pos (by omega)
  have HCL : Hid _ := clow
  have HH : Hid (∀ i, i < 2 * m → w.cell? ⟨b, off + i, none⟩ = some (.int .u8 ((cst xs).getD i 0))) := hcell
  clear clow hcell h
  go_enter Tryd.func45, Tryd.ntmps45
  go_wp2_with (first | (go_at_call 54; refine (HCL.out ()).mono ?_; rintro e u1 ⟨rfl, own0, bel0⟩))
  go_loopw [4] (fun i wr => ∃ k : Nat, k ≤ 2 * m ∧ i = .int .i64 k ∧ Own wr w.heap.size w.heap.size m m (cst (stM xs m (4 * k))) ∧ Below w.heap.size w wr)
    (fun i _ => 2 * m - (intOf i).toNat)
  case atStart => exact ⟨0, Nat.zero_le _, rfl, own0, bel0⟩
  case round =>
    obtain ⟨k, hk, rfl, own1, bel1⟩ := hrel
    clear own0 bel0
    by_cases hlt : k < 2 * m
    · obtain ⟨z, hz⟩ : ∃ z, z = xs.getD k 0 := ⟨_, rfl⟩
      have hcx : w.cell? ⟨b, off + k, none⟩ = some (.int .u8 (z : Int)) := by rw [hz, ← cst_getD]; exact HH.out k hlt
      have hz256 : z < 256 := by rw [hz]; exact at_lt hx _
      have m1 : (k : Int) < 2 * (m : Int) := by omega
      have hd1 : decide ((k : Int) < 2 * (m : Int)) = true := decide_eq_true m1
      have HZ : Hid (z = xs.getD k 0) := hz
      clear hz
      go_wp2
      go_loopw [5, 6] (fun j v wq => ∃ (t : Nat), t ≤ 4 ∧ j = .int .i64 t ∧ Own wq w.heap.size w.heap.size m m (cst (stM xs m (4 * k + t))) ∧ Below w.heap.size w wq)
        (fun j _ _ => 4 - (intOf j).toNat)
      case atStart => exact ⟨0, by omega, rfl, own1, bel1⟩
      case round =>
        obtain ⟨t, ht, rfl, own2, bel2⟩ := hrel
        by_cases hlt2 : t < 4
        · have hcx2 := (bel2.cell (p := ⟨b, off + k, none⟩) hb).trans hcx
          have hbk := brokenAt_at xs k t hlt2
          rw [← HZ.out, bkn_lo] at hbk
          obtain ⟨lo, hlo⟩ : ∃ lo, lo = loA z t := ⟨_, rfl⟩
          obtain ⟨hi, hhi⟩ : ∃ hi, hi = z / 4 ^ t / 2 % 2 := ⟨_, rfl⟩
          have c1 := fun u => lobit z t (2 * (t : Int)) u rfl hz256 hlt2
          have c2 := fun u => hibit z t (2 * (t : Int) + 1) u rfl hz256 hlt2
          rw [← hlo] at c1
          rw [← hhi] at c2
          rw [← hlo, ← hhi] at hbk
          have HC1 : Hid _ := c1
          have HC2 : Hid _ := c2
          have m2 : (t : Int) < 4 := by omega
          have hd2 : decide ((t : Int) < 4) = true := decide_eq_true m2
          clear hlo hhi c1 c2
          by_cases he : lo = hi
          · subst he
            have hb1 : brokenAt xs (4 * k + t) = true := by rw [hbk]; simp
            obtain ⟨s1, s2⟩ := stM_broken (m := m) (show 4 * k + t < 4 * (2 * m) by omega) hL hb1
            rw [s1] at own2
            unfold flipC at s2
            obtain ⟨R, hR⟩ : ∃ R, R = k / 2 := ⟨_, rfl⟩
            obtain ⟨e, he⟩ : ∃ e, e = k % 2 := ⟨_, rfl⟩
            rw [show (4 * k + t) / 8 = R by omega, show (4 * k + t) % 8 = 4 * e + t by omega] at s2
            have hR2 : (k : Int) / 2 = (R : Int) := by omega
            have he2 : (k : Int) % 2 = (e : Int) := by omega
            have he1 : e ≤ 1 := by omega
            have hRm : R < m := by omega
            have rm : (R : Int) < (m : Int) := by omega
            obtain ⟨o, ho⟩ : ∃ o, o = (lowA xs m).getD R 0 := ⟨_, rfl⟩
            rw [← ho] at s2
            have ho256 : o < 256 := by rw [ho]; exact at_lt (lowA_lt _ _) _
            obtain ⟨s, hs⟩ : ∃ s, s = colN (lowA xs m) := ⟨_, rfl⟩
            have hs256 : s < 256 := by rw [hs]; exact col_lt _ (lowA_lt _ _)
            rw [← hs] at s2
            have hrd := own2.all (cst_range _ (lowA_lt xs m))
            have cc := fun q => rcolumn_any (some ⟨w.heap.size, 0, none⟩) m m (cst (lowA xs m)) (wr.drewN q) (by omega) (hrd.drewN q)
            rw [col_cst _ (lowA_lt xs m), ← hs] at cc
            have cb := fun u => cbit s (4 * (e : Int) + (t : Int)) (4 * e + t) u (by omega) hs256 (by omega)
            have hoc := own2.cell R hRm
            rw [cst_getD, ← ho] at hoc
            have hfz : wr.frozen? ⟨w.heap.size, R, none⟩ = false := World.ownsRow.frozenAt own2 R
            have hset := fun q => ((own2.drewN q).set R (bits .xor .u8 (o : Int) (2 ^ (4 * e + t) % 256))).1
            have hxo := turn_eq o (4 * e + t) ho256 (by omega)
            rw [hxo, cst_set] at hset
            have HCC : Hid _ := cc
            by_cases hbit : s / 2 ^ (4 * e + t) % 2 = 1
            · rw [hbit] at cb
              rw [if_pos hbit] at s2
              rw [← s2] at hset
              have HCB : Hid _ := cb
              have HSET : Hid _ := hset
              clear hset s1 s2 hs ho hR he cc cb hbk hb1 hrd own1 hbit hL hx own2
              go_wp2
              go_quiet (first
                | (go_at_call 40; with_reducible exact Calls.quiet_of_same (HC1.out _))
                | (go_at_call 40; with_reducible exact Calls.quiet_of_same (HC2.out _)))
              all_goals go_wp2_with (first
                | (go_at_call 38; refine (HCC.out _).mono ?_; rintro e u ⟨rfl, rfl⟩)
                | (go_at_call 40; refine (HCB.out _).mono ?_; rintro e u ⟨rfl, rfl⟩))
              all_goals go_roundw
              case rel =>
                refine ⟨t + 1, by omega, by go_num, HSET.out _, ?_⟩
                exact (below_drewN bel2 _).setCell (p := ⟨w.heap.size, R, none⟩) (Nat.le_refl _) _
              case measure => simp [intOf]; omega
            · have hbit0 : s / 2 ^ (4 * e + t) % 2 = 0 := by have := Nat.mod_lt (s / 2 ^ (4 * e + t)) (show 2 > 0 by omega); omega
              rw [hbit0] at cb
              rw [if_neg hbit] at s2
              rw [← s2] at own2
              have HCB : Hid _ := cb
              have HOWN : Hid (Own _ _ _ _ _ _) := own2
              clear hset s1 s2 hs ho hR he cc cb hbk hb1 hrd own1 hbit hbit0 hL hx own2
              go_wp2
              go_quiet (first
                | (go_at_call 40; with_reducible exact Calls.quiet_of_same (HC1.out _))
                | (go_at_call 40; with_reducible exact Calls.quiet_of_same (HC2.out _)))
              all_goals go_wp2_with (first
                | (go_at_call 38; refine (HCC.out _).mono ?_; rintro e u ⟨rfl, rfl⟩)
                | (go_at_call 40; refine (HCB.out _).mono ?_; rintro e u ⟨rfl, rfl⟩))
              all_goals go_roundw
              case rel => exact ⟨t + 1, by omega, by go_num, HOWN.out.drewN _, below_drewN bel2 _⟩
              case measure => simp [intOf]; omega
          · have hb1 : brokenAt xs (4 * k + t) = false := by rw [hbk]; simp [he]
            have s1 := stM_whole (m := m) hb1
            rw [← s1] at own2
            have he2 : ((lo : Int) == (hi : Int)) = false := by simp; omega
            have HOWN : Hid (Own _ _ _ _ _ _) := own2
            clear s1 hbk hb1 own1 own2 he hL hx
            go_wp2
            go_quiet (first
              | (go_at_call 40; with_reducible exact Calls.quiet_of_same (HC1.out _))
              | (go_at_call 40; with_reducible exact Calls.quiet_of_same (HC2.out _)))
            all_goals go_wp2
            all_goals go_roundw
            case rel => exact ⟨t + 1, by omega, by go_num, HOWN.out.drewN _, below_drewN bel2 _⟩
            case measure => simp [intOf]; omega
        · have ht4 : t = 4 := by omega
          subst ht4
          go_wp2
          go_roundw
          case rel => exact ⟨k + 1, by omega, by go_num, own2, bel2⟩
          case measure => simp [intOf]; omega
    · have hkl : k = 2 * m := by omega
      rw [hkl] at own1
      have HO : Hid (Own _ _ _ _ _ _) := own1
      clear own1
      go_wp2
      go_ret
      exact ⟨rfl, HO.out, bel1⟩
end Go.Proofs.YtgdmagmbkmgdfaaDoor
