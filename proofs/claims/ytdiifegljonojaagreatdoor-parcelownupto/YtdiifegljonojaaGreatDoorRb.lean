/-
  SEAT YtdiifegljonojaaGreatDoor: holes; where a leaf may lie.
-/
import Derived.Test.YtdiifegljonojaaGreatDoorMa
import Derived.Laws.IdiomStrings
namespace Go.Proofs.YtdiifegljonojaaGreatDoor
open Go.RowKit
set_option linter.unusedVariables false

set_option maxHeartbeats 1000000 in
set_option maxRecDepth 100000 in
theorem firstHole_any (a : Option Addr) (n c k0 : Nat) (zs : List Int) (w : World) (hn : n ≤ 200000000000000) (h : Reads w a n zs) (hk0 : k0 ≤ n) :
    Calls Tryz.prog 86 #[.slice a n c, .int .i64 (k0 : Int)] w fun e w' => e = .returned (.tuple #[.int .i64 (fhAt zs k0 : Int), .int .i64 ((fhAt zs k0 + zrs (zs.drop (fhAt zs k0)) : Nat) : Int)]) ∧ w' = w := by
  have hlen := h.1
  obtain ⟨G, hG⟩ : ∃ G, G = fhAt zs k0 := ⟨_, rfl⟩
  rw [← hG]
  have HG : Hid (fhAt zs k0 = G) := hG.symm
  have HR : Hid (Reads w a n zs) := h
  have HL : Hid (zs.length = n) := hlen
  clear hG h hlen
  go_enter Tryz.func86, Tryz.ntmps86
  go_wp2
  go_loop [6] (fun i => ∃ k : Nat, k ≤ n + 1 ∧ i = .int .i64 k ∧ Hid (fhAt zs k = G))
    (fun i => n + 1 - (intOf i).toNat)
  case atStart => exact ⟨k0, by omega, rfl, HG⟩
  case round =>
    obtain ⟨k, hk, rfl, HQ⟩ := hrel
    by_cases hlt : k < n
    · obtain ⟨b, off, rfl, hb, hcell⟩ := HR.out.pos (by omega)
      have HC : Hid (∀ i, i < n → w.cell? ⟨b, off + i, none⟩ = some (.int .u8 (zs.getD i 0))) := hcell
      have i1 : (k : Int) < (n : Int) := by omega
      have hd1 : decide ((k : Int) < (n : Int)) = true := decide_eq_true i1
      obtain ⟨Z, hZ⟩ : ∃ Z, zrs (zs.drop k) = Z := ⟨_, rfl⟩
      have HZ : Hid (zrs (zs.drop k) = Z) := hZ
      have hzl : k + Z ≤ n := by have := zrs_le (zs.drop k); rw [List.length_drop, HL.out, hZ] at this; omega
      clear hcell hb hZ
      go_wp2
      go_loop [7] (fun j => ∃ m : Nat, m ≤ Z ∧ j = .int .i64 ((k + m : Nat) : Int) ∧ Hid (zrs (zs.drop (k + m)) = Z - m))
        (fun j => n - (intOf j).toNat)
      case atStart => exact ⟨0, by omega, rfl, by have := HZ.out; simpa [Hid] using this⟩
      case round =>
        obtain ⟨m, hm, rfl, HM⟩ := hrel
        obtain ⟨t, ht⟩ : ∃ t, t = k + m := ⟨_, rfl⟩
        have HT : Hid (t = k + m) := ht
        have htn : t ≤ n := by omega
        rw [← ht] at HM ⊢
        by_cases hm2 : m < Z
        · have htl : t < n := by omega
          have hz0 : zs.getD t 0 = 0 := by
            rcases Classical.em (zs.getD t 0 = 0) with e | e
            · exact e
            · have := zrs_stop (by have := HL.out; omega) e
              have := HM.out
              omega
          have hcx : w.cell? ⟨b, off + t, none⟩ = some (.int .u8 0) := by rw [← hz0]; exact HC.out t htl
          have i2 : (t : Int) < (n : Int) := by omega
          have HM2 : Hid (zrs (zs.drop (t + 1)) = Z - m - 1) := by
            have h1 := zrs_step (by have := HL.out; omega) hz0
            have h2 := HM.out
            unfold Hid
            omega
          clear hz0 ht HM
          go_wp2
          go_round
          case rel => exact ⟨m + 1, by omega, by have := HT.out; go_num, by have h9 := HT.out; have h8 := HM2.out; unfold Hid; rw [show k + (m + 1) = t + 1 by omega, h8]; omega⟩
          case measure => simp [intOf]; omega
        · obtain rfl : m = Z := by omega
          have HM0 : Hid (zrs (zs.drop t) = 0) := by have := HM.out; unfold Hid; omega
          have hsub : (t : Int) - (k : Int) = (m : Int) := by omega
          have HE : Hid (¬ t < n ∨ (t < n ∧ zs.getD t 0 ≠ 0)) := by
            by_cases htl : t < n
            · refine Or.inr ⟨htl, fun e => ?_⟩
              have := zrs_step (by have := HL.out; omega) e
              have := HM0.out
              omega
            · exact Or.inl htl
          clear HM ht hm
          by_cases h16 : 16 ≤ m
          · have HV : Hid (fhAt zs k = k) := fhAt_hole (by rw [HZ.out]; exact h16)
            have hGk : G = k := by rw [← HQ.out]; exact HV.out
            have i16 : (16 : Int) ≤ (m : Int) := by omega
            clear HV
            rcases HE.out with htl | ⟨htl, hne⟩
            · have i2 : ¬ (t : Int) < (n : Int) := by omega
              have d2 : decide ((t : Int) < (n : Int)) = false := decide_eq_false i2
              have HGk : Hid (G = k) := hGk
              clear hGk
              go_wp2
              go_ret2
              rw [HGk.out, HZ.out]
              have := HT.out
              exact ⟨by simp; omega, rfl⟩
            · have hz1 := byteAt HR.out.2.1 t
              obtain ⟨z, hz⟩ : ∃ z, zs.getD t 0 = z := ⟨_, rfl⟩
              have hcx : w.cell? ⟨b, off + t, none⟩ = some (.int .u8 z) := by rw [← hz]; exact HC.out t htl
              rw [hz] at hne
              have hne2 : (z == 0) = false := by simp [hne]
              have i2 : (t : Int) < (n : Int) := by omega
              have HGk : Hid (G = k) := hGk
              clear hGk hz hz1
              go_wp2
              go_ret2
              rw [HGk.out, HZ.out]
              have := HT.out
              exact ⟨by simp; omega, rfl⟩
          · have HV : Hid (fhAt zs (t + 1) = G) := by
              unfold Hid
              rw [← HQ.out, fhAt_skip (k := k) (by have := HL.out; omega) (by rw [HZ.out]; omega), HZ.out, HT.out]
            have d16 : decide ((16 : Int) ≤ (m : Int)) = false := decide_eq_false (by omega)
            rcases HE.out with htl | ⟨htl, hne⟩
            · have i2 : ¬ (t : Int) < (n : Int) := by omega
              have d2 : decide ((t : Int) < (n : Int)) = false := decide_eq_false i2
              go_wp2
              go_round
              case rel => exact ⟨t + 1, by omega, by go_num, HV⟩
              case measure => have := HT.out; simp [intOf]; omega
            · have hz1 := byteAt HR.out.2.1 t
              obtain ⟨z, hz⟩ : ∃ z, zs.getD t 0 = z := ⟨_, rfl⟩
              have hcx : w.cell? ⟨b, off + t, none⟩ = some (.int .u8 z) := by rw [← hz]; exact HC.out t htl
              rw [hz] at hne
              have hne2 : (z == 0) = false := by simp [hne]
              have i2 : (t : Int) < (n : Int) := by omega
              clear hz hz1
              go_wp2
              go_round
              case rel => exact ⟨t + 1, by omega, by go_num, HV⟩
              case measure => have := HT.out; simp [intOf]; omega
    · have HGn : Hid (G = n) := by unfold Hid; rw [← HQ.out, fhAt_end (by have := HL.out; omega)]; exact HL.out
      have i1 : ¬ (k : Int) < (n : Int) := by omega
      have d1 : decide ((k : Int) < (n : Int)) = false := decide_eq_false i1
      go_wp2
      go_ret2
      rw [HGn.out, List.drop_of_length_le (by rw [HL.out]; exact Nat.le_refl _)]
      exact ⟨rfl, rfl⟩

theorem leastOf_any (k : Int) (w : World) : Calls Tryz.prog 106 #[.int .i64 k] w fun e w' => e = .returned (.int .i64 (if k = 0 then 16 else 1)) ∧ w' = w := by
  by_cases h : k = 0
  · subst h
    go_enter Tryz.func106, Tryz.ntmps106
    go_wp2
    go_ret
    exact ⟨rfl, rfl⟩
  · have h1 : (k == 0) = false := by simp [h]
    go_enter Tryz.func106, Tryz.ntmps106
    go_wp2
    go_ret
    exact ⟨rfl, rfl⟩

set_option maxHeartbeats 1000000 in
set_option maxRecDepth 100000 in
theorem isFilled_any (a : Option Addr) (n c : Nat) (zs : List Int) (b1 b2 : Bool) (w : World) (hn : n ≤ 200000000000000) (h0 : 0 < n) (h : Reads w a n zs) :
    Calls Tryz.prog 107 #[.slice a n c, .bool b1, .bool b2] w fun e w' => e = .returned (.bool (filledB zs b1 b2)) ∧ w' = w := by
  have hlen := h.1
  have FH := hide (firstHole_any a n c 0 zs w hn h (Nat.zero_le _))
  obtain ⟨b, off, rfl, hb, hcell⟩ := h.pos h0
  obtain ⟨x, hx⟩ : ∃ x, zs.getD 0 0 = x := ⟨_, rfl⟩
  obtain ⟨y, hy⟩ : ∃ y, zs.getD (n - 1) 0 = y := ⟨_, rfl⟩
  have c0 : w.cell? ⟨b, off, none⟩ = some (.int .u8 x) := by rw [← hx]; exact hcell 0 h0
  have c1 : w.cell? ⟨b, off + (n - 1), none⟩ = some (.int .u8 y) := by rw [← hy]; exact hcell (n - 1) (by omega)
  have HF : Hid (filledB zs b1 b2 = (decide (fhAt zs 0 = n) && !(b1 && (x == 0)) && !(b2 && (y == 0)))) := by
    unfold Hid filledB; rw [fhAt_zero, hlen, hx, hy]
  rw [HF.out]
  obtain ⟨A, hA⟩ : ∃ A, fhAt zs 0 = A := ⟨_, rfl⟩
  obtain ⟨Z, hZ⟩ : ∃ Z, (A + zrs (zs.drop A) : Nat) = Z := ⟨_, rfl⟩
  rw [hA, hZ] at FH
  rw [hA]
  have e1 : ((A : Int) == (n : Int)) = decide (A = n) := by rw [Bool.eq_iff_iff]; simp; omega
  have en : ((n : Int) - 1).toNat = n - 1 := by omega
  clear hx hy hcell hlen h HF hA hZ hb
  cases hAn : decide (A = n) with
  | false =>
    rw [hAn] at e1
    go_enter Tryz.func107, Tryz.ntmps107
    go_wp2_with (go_at_call 86; refine FH.out.mono ?_; rintro e u1 ⟨rfl, hu1⟩; rw [hu1])
    go_ret
    exact ⟨by simp, rfl⟩
  | true =>
    rw [hAn] at e1
    cases hx : (x == 0) <;> cases hy : (y == 0) <;> cases b1 <;> cases b2
    all_goals
      go_enter Tryz.func107, Tryz.ntmps107
      go_wp2_with (go_at_call 86; refine FH.out.mono ?_; rintro e u1 ⟨rfl, hu1⟩; rw [hu1])
      go_ret
      exact ⟨by simp, rfl⟩
end Go.Proofs.YtdiifegljonojaaGreatDoor
