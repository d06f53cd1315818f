/-
  SEAT YtgdmagmbkmgdfaaDoor: the reference's Lay.
-/
import Derived.Test.YtgdmagmbkmgdfaaDoorLayB
namespace Go.Proofs.YtgdmagmbkmgdfaaDoor
open Go.RowKit
set_option linter.unusedVariables false

theorem and1 : ∀ k : Nat, k < 8 → ∀ n : Nat, n < 256 → bits .and .i64 (wrap64 ((n : Int) / 2 ^ k)) 1 = (n : Int) / 2 ^ k % 2 := by decide +kernel

theorem rbit_any (z : Int) (k : Nat) (w : World) (h0 : 0 ≤ z) (h1 : z ≤ 255) (hk : k < 8) : Calls Tryd.prog 40 #[.int .u8 z, .int .i64 k] w fun e w' => e = .returned (.int .i64 (z / 2 ^ k % 2)) ∧ w = w' := by
  go_enter Tryd.func40, Tryd.ntmps40
  go_wp2
  go_ret
  refine ⟨ret_int ?_, rfl⟩
  obtain ⟨n, rfl⟩ := Int.eq_ofNat_of_zero_le h0
  exact and1 k hk n (by omega)

theorem rbit_any' (z j : Int) (k : Nat) (w : World) (hj : j = k) (h0 : 0 ≤ z) (h1 : z ≤ 255) (hk : k < 8) : Calls Tryd.prog 40 #[.int .u8 z, .int .i64 j] w fun e w' => e = .returned (.int .i64 (z / 2 ^ k % 2)) ∧ w = w' := by
  subst hj
  exact rbit_any z k w h0 h1 hk

def prV (v : Int) : Int := if v = 1 then 1 else 2
theorem pair_any (v : Int) (w : World) : Calls Tryd.prog 39 #[.int .i64 v] w fun e w' => e = .returned (.int .u8 (prV v)) ∧ w = w' := by
  by_cases h : v = 1
  · subst h
    go_enter Tryd.func39, Tryd.ntmps39
    go_wp2
    go_ret
    exact ⟨rfl, rfl⟩
  · have h1 : (v == 1) = false := by simpa using h
    have h2 : prV v = 2 := if_neg h
    go_enter Tryd.func39, Tryd.ntmps39
    go_wp2
    go_ret
    exact ⟨by rw [h2]; rfl, rfl⟩

def pacc (z : Int) (half : Nat) : Nat → Int
  | 0 => 0
  | k + 1 => bits .or .u8 (pacc z half k) (prV (z / 2 ^ (4 * half + k) % 2) * 2 ^ (2 * k) % 256)

theorem pacc_eq : ∀ half : Nat, half < 2 → ∀ n : Nat, n < 256 → pacc (n : Int) half 4 = ((layN (n / 16 ^ half) : Nat) : Int) := by decide +kernel

theorem rlay_bad (a : Option Addr) (l cap : Nat) (w : World) (h : 4095 < l) (hl : l ≤ 140737488355000) :
    Calls Tryd.prog 27 #[.slice a l cap] w fun e w' => e = .returned (.tuple #[.slice none 0 0, .int .i64 31]) ∧ w = w' := by
  go_enter Tryd.func27, Tryd.ntmps27
  go_wp2
  go_ret2
  exact ⟨rfl, rfl⟩

theorem made_own (w : World) (n : Nat) (hn : n ≤ 9223372036854775807) : Own (w.alloc (.cells (madeCells #[.int .u8 0] n) 5)) w.heap.size w.heap.size 0 n [] := by
  simpa [Own] using World.ownsRow_made w (madeCells #[.int .u8 0] n) n (Nat.le_refl _) (by simp [maxLen]; omega) (by simp [madeCells])

set_option maxHeartbeats 2000000 in
theorem rlay_ok (a : Option Addr) (l cap : Nat) (zs : List Int) (w : World) (hl : l ≤ 4095) (h : Reads w a l zs) :
    Calls Tryd.prog 27 #[.slice a l cap] w fun e w' => ∃ g c, e = .returned (.tuple #[.slice (some ⟨g, 0, none⟩) (2 * l + 2) c, .int .i64 0]) ∧ Own w' w.heap.size g (2 * l + 2) c (layL (zs ++ [colF zs])) ∧ Below w.heap.size w w' := by
  obtain ⟨i0, hi, hz0, hz1, hz2⟩ := info_parts info5
  have hlen := h.1
  have hmk : ∀ (n : Nat), n ≤ 10000 → ∀ u : World, (Instr.makeSlice 22 (.int .i64 0) (.int .i64 (n : Int))).run Tryd.prog u =
      .ok (.slice (some ⟨u.heap.size, 0, none⟩) 0 n) (u.alloc (.cells (madeCells #[.int .u8 0] n) 5)) := fun n hn u => by
    have h := run_make (P := Tryd.prog) u 22 5 i0 (.int .u8 0) Tryd.underlying22 hi hz0 .i64 .i64 0 (n : Int) (by omega) (by omega) (by rw [hz2]; omega) (by omega)
    simpa [hz1, Value.cells] using h
  have hmk1 := hmk (l + 1) (by omega)
  rw [show ((l + 1 : Nat) : Int) = (l : Int) + 1 by omega] at hmk1
  have hmk2 := hmk (2 * (l + 1)) (by omega)
  rw [show ((2 * (l + 1) : Nat) : Int) = 2 * ((l : Int) + 1) by omega] at hmk2
  clear hmk
  go_enter Tryd.func27, Tryd.ntmps27
  go_wp2
  go_loopw [4, 5] (fun v i wr => ∃ k g c : Nat, k ≤ l ∧ i = .int .i64 k ∧ v = .slice (some ⟨g, 0, none⟩) k c ∧ Own wr w.heap.size g k c (zs.take k) ∧ Below w.heap.size w wr)
    (fun _ i _ => l - (intOf i).toNat)
  case atStart => exact ⟨0, w.heap.size, _, Nat.zero_le _, rfl, rfl, made_own w _ (by omega), (Below.refl w.heap.size w).alloc (Nat.le_refl _) _⟩
  case round =>
    obtain ⟨k, g, c, hk, rfl, rfl, hown, hbel⟩ := hrel
    by_cases hlt : k < l
    · obtain ⟨b, off, rfl, hb, hcell⟩ := h.pos (by omega)
      obtain ⟨z, hz⟩ : ∃ z, z = zs.getD k 0 := ⟨_, rfl⟩
      have hcx : wr.cell? ⟨b, off + k, none⟩ = some (.int .u8 z) := by rw [hz]; exact (hbel.cell (by exact hb)).trans (hcell k hlt)
      have HZ : Hid (z = zs.getD k 0) := hz
      unfold Own at hown
      clear hz hcell
      go_wp2_with (
        (at_builtin; refine wpList_append_own _ rfl _ _ 22 rfl w.heap.size 5 i0 (.int .u8 0) 1 1 Tryd.underlying22 hi hz0 hz1 hz2 rfl (by decide) _ _ _ rfl (hown.alloc _) ⟨wr.heap.size, 0, none⟩ 1 1 [.int .u8 z] rfl rfl (news_one _ _) (by simp [Value.oneCell']) (by simp [maxLen]; omega) (by omega) (by have := hbel.size; simp; omega) ?_; intro v1 w1 hown1 hgrow1 _; obtain ⟨g2, c2, rfl, hc2, hm2, hbg, hgl⟩ := own_shape hown1 (by omega)))
      have hz := HZ.out
      have hown2 : Own w1 w.heap.size g2 (k + 1) c2 (zs.take (k + 1)) := by
        unfold Own
        rw [← take_map_snoc zs k (by omega), ← hz]
        exact hown1
      have hbel2 : Below w.heap.size w w1 := (hbel.alloc hbel.size _).grown hgrow1 (by have := hbel.size; simp; omega) (fun k hk => (hown.lt k hk).1)
      clear hown1 hgrow1 hown hcx
      go_wp2
      go_roundw
      case rel => exact ⟨k + 1, g2, c2, by omega, by go_num, rfl, hown2, hbel2⟩
      case measure => simp [intOf]; omega
    · have hkl : k = l := by omega
      subst hkl
      rw [List.take_of_length_le (by omega)] at hown
      have hcr := colF_range zs h.2.1 zs.length (Nat.le_refl _)
      rw [List.take_length] at hcr
      obtain ⟨s, hs⟩ : ∃ s, s = colF zs := ⟨_, rfl⟩
      rw [← hs] at hcr
      obtain ⟨hs0, hs1⟩ := hcr
      have hrd := h.below hbel
      have hcol := rcolumn_any a k cap zs wr (by omega) hrd
      rw [← hs] at hcol
      have HSS : Hid (colF zs = s) := hs.symm
      have hyl : (zs ++ [s]).length = k + 1 := by simp; omega
      have hyr : ∀ x ∈ zs ++ [s], 0 ≤ x ∧ x ≤ 255 := by
        intro x hx
        rcases List.mem_append.1 hx with h1 | h1
        · exact h.2.1 x h1
        · simp at h1; omega
      unfold Own at hown
      have hsz := hbel.size
      clear hs
      go_wp2_with (first
        | (go_at_call 38; refine hcol.mono ?_; rintro e u ⟨rfl, rfl⟩)
        | (at_builtin; refine wpList_append_own _ rfl (.tmp 31) (.tmp 34) 22 rfl w.heap.size 5 i0 (.int .u8 0) 1 1 Tryd.underlying22 hi hz0 hz1 hz2 rfl (by decide) _ _ _ rfl (hown.alloc _) ⟨wr.heap.size, 0, none⟩ 1 1 [.int .u8 s] rfl rfl (news_one _ _) (by simp [Value.oneCell']) (by simp [maxLen]; omega) (by omega) (by simp; omega) ?_; intro v1 w1 hown1 hgrow1 _; obtain ⟨g2, c2, rfl, hc2, hm2, hbg, hgl⟩ := own_shape hown1 (by omega)))
      obtain ⟨ys, hys⟩ : ∃ ys, ys = zs ++ [s] := ⟨_, rfl⟩
      rw [← hys] at hyl hyr
      have own1 : Own w1 w.heap.size g2 (k + 1) c2 ys := by
        unfold Own
        rw [hys, List.map_append]
        exact hown1
      have bel1 : Below w.heap.size w w1 := (hbel.alloc hbel.size _).grown hgrow1 (by simp; omega) (fun k hk => (hown.lt k hk).1)
      have HYS : Hid (ys = zs ++ [s]) := hys
      clear hys hown1 hgrow1 hown hcol hrd h hmk1 hmk2
      go_loopw [6, 7] (fun v i wr => ∃ m g c : Nat, m ≤ k + 1 ∧ i = .int .i64 m ∧ v = .slice (some ⟨g, 0, none⟩) (2 * m) c ∧ Own wr w1.heap.size g (2 * m) c (layL (ys.take m)) ∧ Below w1.heap.size w1 wr)
        (fun _ i _ => k + 1 - (intOf i).toNat)
      case atStart => exact ⟨0, w1.heap.size, _, Nat.zero_le _, rfl, rfl, made_own w1 _ (by omega), (Below.refl w1.heap.size w1).alloc (Nat.le_refl _) _⟩
      case round =>
        obtain ⟨m, g, c, hm, rfl, rfl, hown, hbel1⟩ := hrel
        by_cases hlt2 : m < k + 1
        · obtain ⟨z, hz⟩ : ∃ z, z = ys.getD m 0 := ⟨_, rfl⟩
          have hzb : 0 ≤ z ∧ z ≤ 255 := by rw [hz]; exact byteAt hyr _
          have HL : Hid (layL (ys.take (m + 1)) = layL (ys.take m) ++ layB z) := by unfold Hid; rw [layL_take ys m (by omega), hz]
          have hcell1 : w1.cell? ⟨g2, m, none⟩ = some (.int .u8 z) := by rw [hz]; exact own1.cell m (by omega)
          have hg2 := own1.lt.2
          obtain ⟨hzb0, hzb1⟩ := hzb
          clear hz
          have m1 : (m : Int) < (k : Int) + 1 := by omega
          have hd1 : decide ((m : Int) < (k : Int) + 1) = true := decide_eq_true m1
          go_wp2
          go_loopw [6, 8] (fun v j wq => ∃ hf g c : Nat, hf ≤ 2 ∧ j = .int .i64 hf ∧ v = .slice (some ⟨g, 0, none⟩) (2 * m + hf) c ∧ Own wq w1.heap.size g (2 * m + hf) c (layL (ys.take m) ++ (layB z).take hf) ∧ Below w1.heap.size w1 wq)
            (fun _ j _ => 2 - (intOf j).toNat)
          case atStart => exact ⟨0, g, c, by omega, rfl, rfl, by simpa using hown, hbel1⟩
          case round =>
            obtain ⟨hf, g3, c3, hhf, rfl, rfl, hown3, hbel3⟩ := hrel
            by_cases hlt3 : hf < 2
            · have hcq := (hbel3.cell (p := ⟨g2, m, none⟩) (by exact hg2)).trans hcell1
              have hsz3 := hbel3.size
              have m2 : (hf : Int) < 2 := by omega
              have hd2 : decide ((hf : Int) < 2) = true := decide_eq_true m2
              have HP : Hid (pacc z hf 4 = ((layN (z.toNat / 16 ^ hf) : Nat) : Int)) := by
                obtain ⟨n, rfl⟩ := Int.eq_ofNat_of_zero_le hzb0
                exact pacc_eq hf hlt3 n (by omega)
              clear hcell1
              go_wp2
              go_loop [9, 10] (fun x kk => ∃ (i : Nat) (q : Int), i ≤ 4 ∧ kk = .int .i64 i ∧ x = .int .u8 q ∧ Hid (q = pacc z hf i))
                (fun _ kk => 4 - (intOf kk).toNat)
              case atStart => exact ⟨0, 0, by omega, rfl, rfl, rfl⟩
              case round =>
                obtain ⟨i, q, hi4, rfl, rfl, HQ⟩ := hrel
                by_cases hlt4 : i < 4
                · have HS : Hid (bits .or .u8 q (prV (z / 2 ^ (4 * hf + i) % 2) * 2 ^ (2 * i) % 256) = pacc z hf (i + 1)) := by unfold Hid; rw [pacc, ← HQ.out]
                  go_wp2_with (first
                    | (go_at_call 40; refine (rbit_any' _ _ (4 * hf + i) _ ?_ ?_ ?_ ?_).mono ?_; omega; omega; omega; omega; rintro e u ⟨rfl, rfl⟩)
                    | (go_at_call 39; refine (pair_any _ _).mono ?_; rintro e u ⟨rfl, rfl⟩))
                  go_round
                  case rel => exact ⟨i + 1, _, by omega, by go_num, rfl, HS⟩
                  case measure => simp [intOf]; omega
                · have hi5 : i = 4 := by omega
                  subst hi5
                  have HR : Hid (q = ((layN (z.toNat / 16 ^ hf) : Nat) : Int)) := by unfold Hid; rw [HQ.out, HP.out]
                  unfold Own at hown3
                  clear HQ HP hown hbel1
                  go_wp2_with (
                    (at_builtin; refine wpList_append_own _ rfl _ _ 22 rfl w1.heap.size 5 i0 (.int .u8 0) 1 1 Tryd.underlying22 hi hz0 hz1 hz2 rfl (by decide) _ _ _ rfl (hown3.alloc _) ⟨_, 0, none⟩ 1 1 [.int .u8 q] rfl rfl (news_one _ _) (by simp [Value.oneCell']) (by simp [maxLen]; omega) (by omega) (by simp; omega) ?_; intro v4 w4 hown4 hgrow4 _; obtain ⟨g4, c4, rfl, hc4, hm4, hbg4, hgl4⟩ := own_shape hown4 (by omega)))
                  have hown5 : Own w4 w1.heap.size g4 (2 * m + (hf + 1)) c4 (layL (ys.take m) ++ (layB z).take (hf + 1)) := by
                    have e : (layB z).take (hf + 1) = (layB z).take hf ++ [q] := by
                      rw [HR.out]
                      rcases (show hf = 0 ∨ hf = 1 by omega) with rfl | rfl
                      · simp [layB]
                      · have e2 : (z / 16).toNat = z.toNat / 16 := by omega
                        simp [layB, e2]
                    unfold Own
                    rw [e, ← List.append_assoc, List.map_append (l₂ := [q])]
                    exact hown4
                  have hbel5 := (hbel3.alloc hbel3.size _).grown hgrow4 (by simp; omega) (fun k hk => (hown3.lt k hk).1)
                  clear hown4 hgrow4 hown3
                  go_wp2
                  go_roundw
                  case rel => exact ⟨hf + 1, g4, c4, by omega, by go_num, rfl, hown5, hbel5⟩
                  case measure => simp [intOf]; omega
            · have hf2 : hf = 2 := by omega
              subst hf2
              have hown5 := hown3
              rw [show (layB z).take 2 = layB z from rfl, ← HL.out] at hown5
              clear hown3 hown
              go_wp2
              go_roundw
              case rel => exact ⟨m + 1, g3, c3, by omega, by go_num, rfl, hown5, hbel3⟩
              case measure => simp [intOf]; omega
        · have hmk : m = k + 1 := by omega
          subst hmk
          rw [List.take_of_length_le (by omega), HYS.out] at hown
          have hownF : Own _ w.heap.size g (2 * (k + 1)) c (layL (zs ++ [s])) := ⟨hown.1, by
            rcases hown.2 with h1 | ⟨g', cap', cur, hv, hg, r⟩
            · exact Or.inl h1
            · exact Or.inr ⟨g', cap', cur, hv, by have := bel1.size; omega, r⟩⟩
          have hbelF := bel1.trans (hbel1.mono bel1.size)
          go_wp2
          go_ret2
          refine ⟨g, c, rfl, ?_, hbelF⟩
          rw [HSS.out]
          exact hownF

end Go.Proofs.YtgdmagmbkmgdfaaDoor
