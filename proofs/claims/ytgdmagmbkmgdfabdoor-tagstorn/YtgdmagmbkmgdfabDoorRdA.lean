/-
  SEAT YtgdmagmbkmgdfabDoor: rail.lift.
-/
import Derived.Test.YtgdmagmbkmgdfabDoorHelp
import Derived.Test.YtgdmagmbkmgdfabDoorRdP
namespace Go.Proofs.YtgdmagmbkmgdfabDoor
open Go.RowKit
set_option linter.unusedVariables false

def cst (ns : List Nat) : List Int := ns.map (fun n : Nat => (n : Int))
theorem cst_getD (ns : List Nat) (i : Nat) : (cst ns).getD i 0 = ((ns.getD i 0 : Nat) : Int) := by
  simp only [cst, List.getD_eq_getElem?_getD, List.getElem?_map]
  cases ns[i]? <;> rfl
theorem cst_set (ns : List Nat) (i v : Nat) : (cst ns).set i (v : Int) = cst (ns.set i v) := by simp [cst, List.map_set]

theorem place_any (i : Int) (p R C : Nat) (w : World) (hi : i = (p : Int)) (hR : R = p / 8) (hC : C = p % 8) (hp : p ≤ 100000) : Calls Tryd.prog 38 #[.int .i64 i] w fun e w' => e = .returned (.tuple #[.int .i64 (R : Int), .int .i64 (C : Int)]) ∧ w = w' := by
  subst hi hR hC
  go_enter Tryd.func38, Tryd.ntmps38
  go_wp2
  go_ret2
  exact ⟨by simp, rfl⟩

theorem lo_eq : ∀ t : Nat, t < 4 → ∀ z : Nat, z < 256 → bits .and .u8 ((z : Int) / 2 ^ (2 * t)) 1 = ((z / 4 ^ t % 2 : Nat) : Int) := by decide +kernel
theorem hi_eq : ∀ t : Nat, t < 4 → ∀ z : Nat, z < 256 → bits .and .u8 ((z : Int) / 2 ^ (2 * t + 1)) 1 = ((z / 4 ^ t / 2 % 2 : Nat) : Int) := by decide +kernel

/-- The pair that was found broken, if one was. -/
def BrkAt (w : World) (g : Nat) (v : Value) (L : List Nat) : Prop :=
  (v = .pointer none ∧ L = []) ∨ ∃ gb q, v = .pointer (some ⟨gb, 0, none⟩) ∧ L = [q] ∧ w.cell? ⟨gb, 0, none⟩ = some (.int .i64 (q : Int)) ∧ gb ≠ g

theorem BrkAt.mono {w w' : World} {g : Nat} {v : Value} {L : List Nat} (h : BrkAt w g v L) (hw : ∀ gb x, gb ≠ g → w.cell? ⟨gb, 0, none⟩ = some x → w'.cell? ⟨gb, 0, none⟩ = some x) : BrkAt w' g v L := by
  rcases h with h | ⟨gb, q, h1, h2, h3, h4⟩
  · exact Or.inl h
  · exact Or.inr ⟨gb, q, h1, h2, hw gb _ h4 h3, h4⟩

theorem or_eq (o lo C : Nat) (ho : o < 256) (hl : lo ≤ 1) (hC : C < 8) : bits .or .u8 (o : Int) ((lo : Int) * 2 ^ C % 256) = ((o ||| lo * 2 ^ C : Nat) : Int) := by
  have h2 : 2 ^ C ≤ 2 ^ 7 := Nat.pow_le_pow_right (by omega) (by omega)
  have h3 : lo * 2 ^ C ≤ 1 * 2 ^ C := Nat.mul_le_mul_right _ hl
  have e : (lo : Int) * 2 ^ C % 256 = ((lo * 2 ^ C : Nat) : Int) := by
    have : ((lo : Int) * 2 ^ C) = ((lo * 2 ^ C : Nat) : Int) := by simp
    rw [this]
    omega
  rw [e, u8_or_nat o (lo * 2 ^ C) ho (by omega)]

set_option maxHeartbeats 1000000 in
set_option maxRecDepth 100000 in
theorem lift_any (a : Option Addr) (l cap m : Nat) (xs : List Nat) (w : World) (hl : l = 2 * m) (hm : 1 ≤ m ∧ m ≤ 4096) (hx : ∀ x ∈ xs, x < 256) (h : Reads w a l (cst xs)) :
    Calls Tryd.prog 30 #[.slice a l cap] w fun e w' => Below w.heap.size w w' ∧ ((2 ≤ (brkL xs (4 * l)).length ∧ e = .returned (.tuple #[.slice none 0 0, .pointer none, .bool false])) ∨
      ∃ v, e = .returned (.tuple #[.slice (some ⟨w.heap.size, 0, none⟩) m m, v, .bool true]) ∧ Own w' w.heap.size w.heap.size m m (cst (rowsOf xs)) ∧ BrkAt w' w.heap.size v (brkL xs (4 * l))) := by
  subst hl
  obtain ⟨i0, hi, hz0, hz1, hz2⟩ := info_parts info5
  have hlen : xs.length = 2 * m := by have := h.1; simpa [cst] using this
  have hmk : ∀ u : World, (Instr.makeSlice 25 (.int .i64 (m : Int)) (.int .i64 (m : Int))).run Tryd.prog u =
      .ok (.slice (some ⟨u.heap.size, 0, none⟩) m m) (u.alloc (.cells (madeCells #[.int .u8 0] m) 5)) := fun u => by
    have h := run_make (P := Tryd.prog) u 25 5 i0 (.int .u8 0) Tryd.underlying25 hi hz0 .i64 .i64 (m : Int) (m : Int) (by omega) (by omega) (by rw [hz2]; omega) (by omega)
    simpa [hz1, Value.cells] using h
  have hq : (2 * (m : Int)) / 2 = (m : Int) := by omega
  obtain ⟨b, off, rfl, hb, hcell⟩ := h.pos (by omega)
  have own0 : Own (w.alloc (.cells (madeCells #[.int .u8 0] m) 5)) w.heap.size w.heap.size m m (cst (rowsP xs m 0)) := by
    unfold Own
    refine ⟨by simp [cst, rowsP], Or.inr ⟨w.heap.size, m, madeCells #[.int .u8 0] m, rfl, Nat.le_refl _, heap_alloc_new w _, Nat.le_refl _, by simp [maxLen]; omega, by simp [madeCells], ?_⟩⟩
    have hmc : (madeCells #[.int .u8 0] m).toList = List.replicate m (.int .u8 0) := by
      apply List.ext_getElem
      · simp [madeCells]
      · intro i h1 h2
        simp [madeCells, Nat.mod_one]
    rw [hmc]
    simp [cst, rowsP]
  go_enter Tryd.func30, Tryd.ntmps30
  go_wp2
  go_loopw [6, 21] (fun v i wr => ∃ k : Nat, k ≤ 2 * m ∧ i = .int .i64 k ∧ Own wr w.heap.size w.heap.size m m (cst (rowsP xs m (4 * k))) ∧ BrkAt wr w.heap.size v (brkL xs (4 * k)) ∧ Below w.heap.size w wr)
    (fun _ i _ => 2 * m - (intOf i).toNat)
  case atStart => exact ⟨0, Nat.zero_le _, rfl, own0, Or.inl ⟨rfl, rfl⟩, (Below.refl _ _).alloc (Nat.le_refl _) _⟩
  case round =>
    obtain ⟨k, hk, rfl, own1, brk1, bel1⟩ := hrel
    by_cases hlt : k < 2 * m
    · obtain ⟨z, hz⟩ : ∃ z, z = xs.getD k 0 := ⟨_, rfl⟩
      have hcx : w.cell? ⟨b, off + k, none⟩ = some (.int .u8 (z : Int)) := by rw [hz, ← cst_getD]; exact hcell k hlt
      have hz256 : z < 256 := by rw [hz]; exact (by
        rw [List.getD_eq_getElem?_getD, List.getElem?_eq_getElem (by omega)]
        exact hx _ (List.getElem_mem _))
      have m1 : (k : Int) < 2 * (m : Int) := by omega
      have hd1 : decide ((k : Int) < 2 * (m : Int)) = true := decide_eq_true m1
      have HZ : Hid (z = xs.getD k 0) := hz
      clear hcell hz
      go_wp2
      go_loopw [6, 24] (fun v j wq => ∃ t : Nat, t ≤ 4 ∧ j = .int .i64 t ∧ Own wq w.heap.size w.heap.size m m (cst (rowsP xs m (4 * k + t))) ∧ BrkAt wq w.heap.size v (brkL xs (4 * k + t)) ∧ Below w.heap.size w wq)
        (fun _ j _ => 4 - (intOf j).toNat)
      case atStart => exact ⟨0, by omega, rfl, own1, brk1, bel1⟩
      case round =>
        obtain ⟨t, ht, rfl, own2, brk2, bel2⟩ := hrel
        by_cases hlt2 : t < 4
        · have hcx2 := (bel2.cell (p := ⟨b, off + k, none⟩) hb).trans hcx
          have hlo := lo_eq t hlt2 z hz256
          have hhi := hi_eq t hlt2 z hz256
          have hbk := brokenAt_at xs k t hlt2
          rw [← HZ.out] at hbk
          obtain ⟨lo, hlo'⟩ : ∃ lo, lo = z / 4 ^ t % 2 := ⟨_, rfl⟩
          obtain ⟨hi', hhi'⟩ : ∃ hi', hi' = z / 4 ^ t / 2 % 2 := ⟨_, rfl⟩
          have hlo1 : lo ≤ 1 := by omega
          have hbn : bkn z t = decide (lo = hi') := by rw [hlo', hhi']; unfold bkn; rw [Bool.eq_iff_iff]; simp
          rw [← hlo'] at hlo
          rw [← hhi'] at hhi
          have HLO : Hid (lo = z / 4 ^ t % 2) := hlo'
          clear hlo' hhi'
          by_cases he : lo = hi'
          · have hbk2 : Hid (brokenAt xs (4 * k + t) = true) := by unfold Hid; rw [hbk, hbn]; exact decide_eq_true he
            subst he
            clear hbk hbn
            rcases brk2 with ⟨rfl, hL⟩ | ⟨gb, q, rfl, hL, hc, hne⟩
            · have HL : Hid (brkL xs (4 * k + t) = []) := hL
              clear hL
              have hfr : ∀ q : Nat, ((wr.drewN q).alloc (.cells #[.int .i64 0] 3)).frozen? ⟨wr.heap.size, 0, none⟩ = false := fun q => by
                have := World.frozen?_of_block (w := (wr.drewN q).alloc (.cells #[.int .i64 0] 3)) (w' := (wr.drewN q).alloc (.cells #[.int .i64 0] 3)) (a := ⟨(wr.drewN q).heap.size, 0, none⟩) rfl
                simp [World.frozen?, World.alloc, World.drewN]
              have hcl : ∀ q : Nat, ((wr.drewN q).alloc (.cells #[.int .i64 0] 3)).cell? ⟨wr.heap.size, 0, none⟩ = some (.int .i64 0) := fun q => by
                simp [World.cell?, World.alloc, World.drewN]
              go_wp2
              go_quiet (fail)
              all_goals go_wp2
              all_goals go_roundw
              case rel =>
                have hgl := own2.lt.2
                refine ⟨t + 1, by omega, by go_num, ?_, Or.inr ⟨wr.heap.size, 4 * k + t, rfl, ?_, ?_, ?_⟩, ?_⟩
                · rw [← Nat.add_assoc, rowsP_broken hbk2.out]
                  exact own2.below (((below_drewN (Below.refl _ _) _).alloc (Nat.le_refl _) _).setCell (Nat.le_refl _) _)
                · rw [← Nat.add_assoc, brkL_succ, HL.out, hbk2.out]; rfl
                · rw [World.cell?_setCell_same _ _ _ (hcl _)]; simp
                · omega
                · exact ((below_drewN bel2 _).alloc bel2.size _).setCell bel2.size _
              case measure => simp [intOf]; omega
            · have HL : Hid (brkL xs (4 * k + t) = [q]) := hL
              clear hL
              have hlen2 : 2 ≤ (brkL xs (4 * (2 * m))).length := by
                have h1 := brkL_mono xs (4 * k + t + 1) (4 * (2 * m) - (4 * k + t + 1))
                rw [show 4 * k + t + 1 + (4 * (2 * m) - (4 * k + t + 1)) = 4 * (2 * m) by omega, brkL_succ, HL.out, hbk2.out] at h1
                simpa using h1
              have HL2 : Hid (2 ≤ (brkL xs (4 * (2 * m))).length) := hlen2
              clear hlen2
              go_wp2
              go_quiet (fail)
              all_goals go_wp2
              all_goals refine bodyPost_ret (v := .tuple #[.slice none 0 0, .pointer none, .bool false]) (by simp [results, Tryd.results30, go_sem]) rfl ⟨below_drewN bel2 _, Or.inl ⟨HL2.out, rfl⟩⟩
          · have hbk2 : Hid (brokenAt xs (4 * k + t) = false) := by unfold Hid; rw [hbk, hbn]; exact decide_eq_false he
            have hne : ((lo : Int) != (hi' : Int)) = true := by simp; omega
            obtain ⟨R, hR⟩ : ∃ R, R = (4 * k + t) / 8 := ⟨_, rfl⟩
            obtain ⟨C, hC⟩ : ∃ C, C = (4 * k + t) % 8 := ⟨_, rfl⟩
            have HR : Hid (R = (4 * k + t) / 8) := hR
            have HC : Hid (C = (4 * k + t) % 8) := hC
            have hRm : R < m := by omega
            have hC8 : C < 8 := by omega
            clear hR hC
            have rm : (R : Int) < (m : Int) := by omega
            obtain ⟨o, ho⟩ : ∃ o, o = (rowsP xs m (4 * k + t)).getD R 0 := ⟨_, rfl⟩
            have hoc := own2.cell R hRm
            rw [cst_getD, ← ho] at hoc
            have hfz : wr.frozen? ⟨w.heap.size, R, none⟩ = false := World.ownsRow.frozenAt own2 R
            have HO : Hid (o = (rowsP xs m (4 * k + t)).getD R 0) := ho
            clear ho
            clear hbk hbn
            go_wp2
            go_quiet (fail)
            all_goals go_wp2_with (first | (go_at_call 38; refine (place_any _ (4 * k + t) R C _ (by omega) HR.out HC.out (by omega)).mono ?_; rintro e u ⟨rfl, rfl⟩))
            all_goals go_region
            all_goals go_wp2
            all_goals go_roundw
            case rel =>
              have ho256 : o < 256 := by
                rw [HO.out, List.getD_eq_getElem?_getD, List.getElem?_eq_getElem (by rw [rowsP_length]; exact hRm)]
                exact rowsP_lt xs m _ _ (List.getElem_mem _)
              have hset := ((own2.drewN (nq + 1)).set R (bits .or .u8 (o : Int) ((lo : Int) * 2 ^ C % 256))).1
              rw [or_eq o lo C ho256 hlo1 hC8, cst_set] at hset
              have hrows : rowsP xs m (4 * k + t + 1) = (rowsP xs m (4 * k + t)).set R (o ||| lo * 2 ^ C) := by
                rw [rowsP_whole hbk2.out, ← HR.out, ← HC.out, ← HO.out, show (4 * k + t) / 4 = k by omega, show (4 * k + t) % 4 = t by omega, ← HZ.out, ← HLO.out]
              rw [or_eq o lo C ho256 hlo1 hC8]
              refine ⟨t + 1, by omega, by go_num, ?_, ?_, ?_⟩
              · rw [← Nat.add_assoc, hrows]
                exact hset
              · rw [← Nat.add_assoc, brkL_succ, hbk2.out]
                simp only [Bool.false_eq_true, if_false, List.append_nil]
                refine brk2.mono fun gb x hne hc => ?_
                rw [World.cell?_setCell_other _ _ _ _ (by intro e; exact hne (by injection e with e1; exact e1.symm))]
                exact hc
              · exact (below_drewN bel2 _).setCell (p := ⟨w.heap.size, R, none⟩) (Nat.le_refl _) _
            case measure => simp [intOf]; omega
        · have ht4 : t = 4 := by omega
          subst ht4
          go_wp2
          go_roundw
          case rel => exact ⟨k + 1, by omega, by go_num, own2, brk2, bel2⟩
          case measure => simp [intOf]; omega
    · have hkl : k = 2 * m := by omega
      rw [hkl] at own1 brk1
      have e := rowsP_all xs m (by omega)
      rw [hlen] at e
      rw [e] at own1
      have HO : Hid _ := own1
      have HB : Hid _ := brk1
      clear e own1 brk1
      go_wp2
      refine bodyPost_ret (v := .tuple #[.slice (some ⟨w.heap.size, 0, none⟩) m m, _, .bool true]) (by simp [results, Tryd.results30, go_sem]) rfl ⟨bel1, Or.inr ⟨_, rfl, HO.out, HB.out⟩⟩
end Go.Proofs.YtgdmagmbkmgdfabDoor
