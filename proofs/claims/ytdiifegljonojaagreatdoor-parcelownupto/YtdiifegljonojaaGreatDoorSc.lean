/-
  SEAT YtdiifegljonojaaGreatDoor: the reference: zeros, filled, target, Name.
-/
import Derived.Test.YtdiifegljonojaaGreatDoorSb
namespace Go.Proofs.YtdiifegljonojaaGreatDoor
open Go.RowKit
set_option linter.unusedVariables false

set_option maxHeartbeats 1000000 in
theorem rname_any (s : ByteArray) (w : World) (hs : s.size ≤ 9223372036854775807) : Calls Tryz.prog 48 #[.string s] w fun e w' => e = .returned (.int .i64 (Pt.nameE s)) ∧ w' = w := by
  by_cases h0 : (s.size : Int) < 1
  · go_enter Tryz.func48, Tryz.ntmps48
    go_wp2
    go_ret
    exact ⟨ret_int (by simp [Pt.nameE, Pt.Good, show ¬ (1 ≤ s.size) by omega]), rfl⟩
  replace h0 : 1 ≤ (s.size : Int) := by omega
  by_cases h1 : 63 < (s.size : Int)
  · go_enter Tryz.func48, Tryz.ntmps48
    go_wp2
    go_ret
    exact ⟨ret_int (by simp [Pt.nameE, Pt.Good, show ¬ (s.size ≤ 63) by omega]), rfl⟩
  replace h1 : (s.size : Int) ≤ 63 := by omega
  by_cases h2 : s.toList = [46]
  · go_enter Tryz.func48, Tryz.ntmps48
    go_wp2
    go_ret
    exact ⟨ret_int (by simp [Pt.nameE, Pt.Good, h2]), rfl⟩
  by_cases h3 : s.toList = [46, 46]
  · go_enter Tryz.func48, Tryz.ntmps48
    go_wp2
    go_ret
    exact ⟨ret_int (by simp [Pt.nameE, Pt.Good, h3]), rfl⟩
  have f0 : decide ((s.size : Int) < 1) = false := decide_eq_false (by omega)
  have f1 : decide (63 < (s.size : Int)) = false := decide_eq_false (by omega)
  have f2 : (s.toList == [46]) = false := by simp [h2]
  have f3 : (s.toList == [46, 46]) = false := by simp [h3]
  go_enter Tryz.func48, Tryz.ntmps48
  go_wp2
  go_loopw [3] (fun i wr => ∃ k : Nat, k ≤ s.size ∧ i = .int .i64 k ∧ wr = w ∧ (∀ j, j < k → s[j]! ≠ 0 ∧ s[j]! ≠ 47)) (fun i _ => s.size - (intOf i).toNat)
  case atStart => exact ⟨0, Nat.zero_le _, rfl, rfl, fun j hj => absurd hj (Nat.not_lt_zero _)⟩
  case round =>
    obtain ⟨k, hk, rfl, rfl, hall⟩ := hrel
    have H : Hid (∀ j, j < k → s[j]! ≠ 0 ∧ s[j]! ≠ 47) := hall
    clear hall
    by_cases hlt : k < s.size
    · have d1 : decide ((k : Int) < (s.size : Int)) = true := decide_eq_true (by omega)
      obtain ⟨x, hx⟩ : ∃ x : Nat, s[k].toNat = x := ⟨_, rfl⟩
      have hp : s[k]! = s[k] := getElem!_pos s k hlt
      have hm := Pt.byte_nat s k hlt
      by_cases x0 : x = 0
      · have hb : s[k]! = 0 := UInt8.toNat_inj.1 (by rw [hp, hx, x0]; rfl)
        rw [hb] at hm
        have hv : Pt.nameE s = 81 := by simp [Pt.nameE, Pt.Good, Pt.HasB, hm]
        have HV : Hid (Pt.nameE s = 81) := hv
        subst x0
        clear hv hm hb hp
        go_wp2
        go_ret
        exact ⟨ret_int HV.out.symm, rfl⟩
      by_cases x1 : x = 47
      · have hb : s[k]! = 47 := UInt8.toNat_inj.1 (by rw [hp, hx, x1]; rfl)
        rw [hb] at hm
        have hv : Pt.nameE s = 81 := by simp [Pt.nameE, Pt.Good, Pt.HasB, hm]
        have HV : Hid (Pt.nameE s = 81) := hv
        subst x1
        clear hv hm hb hp
        go_wp2
        go_ret
        exact ⟨ret_int HV.out.symm, rfl⟩
      have e0 : ((x : Int) == 0) = false := by simp [x0]
      have e1 : ((x : Int) == 47) = false := by simp; omega
      have HP : Hid (s[k]! = s[k]) := hp
      clear hm hp
      go_wp2
      go_roundw
      case rel =>
        refine ⟨k + 1, by omega, by go_num, by simp, fun j hj => ?_⟩
        by_cases hjk : j < k
        · exact H.out j hjk
        · obtain rfl : j = k := by omega
          exact ⟨fun h => x0 (by rw [← hx, ← HP.out, h]; rfl), fun h => x1 (by rw [← hx, ← HP.out, h]; rfl)⟩
      case measure => simp [intOf]; omega
    · obtain rfl : k = s.size := by omega
      have hv : Pt.nameE s = 0 := by
        have g : ∀ c : UInt8, c ∈ s.data.toList → c ≠ 0 ∧ c ≠ 47 := by
          intro c hc
          obtain ⟨j, hj, rfl⟩ := List.mem_iff_getElem.1 hc
          have hj' : j < s.size := by rw [Lib.size_eq]; exact hj
          have := H.out j hj'
          rw [getElem!_pos s j hj'] at this
          simpa [ByteArray.getElem_eq_getElem_data] using this
        have g0 : Pt.HasB s 0 = false := by unfold Pt.HasB; exact decide_eq_false (fun h => (g 0 h).1 rfl)
        have g1 : Pt.HasB s 47 = false := by unfold Pt.HasB; exact decide_eq_false (fun h => (g 47 h).2 rfl)
        have q1 : 1 ≤ s.size := by omega
        have q2 : s.size ≤ 63 := by omega
        simp [Pt.nameE, Pt.Good, g0, g1, h2, h3, q1, q2]
      have HV : Hid (Pt.nameE s = 0) := hv
      clear hv
      go_wp2
      go_ret
      exact ⟨ret_int HV.out.symm, rfl⟩

set_option maxHeartbeats 1000000 in
set_option maxRecDepth 100000 in
theorem zeros_any (b off n c i0 : Nat) (zs : List Int) (w : World) (hn : n ≤ 200000000000000) (h : Reads w (some ⟨b, off, none⟩) n zs) (hi : i0 ≤ n) :
    Calls Tryz.prog 95 #[.slice (some ⟨b, off, none⟩) n c, .int .i64 (i0 : Int)] w fun e w' => e = .returned (.int .i64 (zrs (zs.drop i0) : Int)) ∧ w' = w := by
  have HR := hide h
  have HL := hide h.1
  obtain ⟨Z, hZ⟩ : ∃ Z, zrs (zs.drop i0) = Z := ⟨_, rfl⟩
  have hzl : i0 + Z ≤ n := by have := zrs_le (zs.drop i0); rw [List.length_drop, h.1, hZ] at this; omega
  have HZ := hide hZ
  rw [hZ]
  clear h hZ
  go_enter Tryz.func95, Tryz.ntmps95
  go_wp2
  go_loop [5] (fun j => ∃ m : Nat, m ≤ Z ∧ j = .int .i64 (m : Int) ∧ Hid (zrs (zs.drop (i0 + m)) = Z - m)) (fun j => n - (intOf j).toNat)
  case atStart => exact ⟨0, Nat.zero_le _, rfl, by have := HZ.out; simpa [Hid] using this⟩
  case round =>
    obtain ⟨m, hm, rfl, HM⟩ := hrel
    have es : (i0 : Int) + (m : Int) = ((i0 + m : Nat) : Int) := by omega
    by_cases hm2 : m < Z
    · have hz0 : zs.getD (i0 + m) 0 = 0 := by
        rcases Classical.em (zs.getD (i0 + m) 0 = 0) with e | e
        · exact e
        · have := zrs_stop (by have := HL.out; omega) e
          have := HM.out
          omega
      have hcx : w.cell? ⟨b, off + (i0 + m), none⟩ = some (.int .u8 0) := by rw [← hz0, ← plain_add]; exact HR.out.2.2.2 _ rfl _ (by omega)
      have HM2 : Hid (zrs (zs.drop (i0 + (m + 1))) = Z - (m + 1)) := by
        have h1 := zrs_step (by have := HL.out; omega) hz0
        have h2 := HM.out
        unfold Hid
        rw [show i0 + (m + 1) = i0 + m + 1 by omega]
        omega
      obtain ⟨t, ht⟩ : ∃ t, i0 + m = t := ⟨_, rfl⟩
      rw [ht] at hcx es
      have i1 : (t : Int) < (n : Int) := by omega
      clear hz0 HM ht
      go_wp2
      go_round
      case rel => exact ⟨m + 1, by omega, by go_num, HM2⟩
      case measure => simp [intOf]; omega
    · obtain rfl : m = Z := by omega
      have HE : Hid (¬ i0 + m < n ∨ (i0 + m < n ∧ zs.getD (i0 + m) 0 ≠ 0)) := by
        by_cases htl : i0 + m < n
        · refine Or.inr ⟨htl, fun e => ?_⟩
          have := zrs_step (by have := HL.out; omega) e
          have := HM.out
          omega
        · exact Or.inl htl
      obtain ⟨t, ht⟩ : ∃ t, i0 + m = t := ⟨_, rfl⟩
      rw [ht] at HE es
      clear HM
      rcases HE.out with htl | ⟨htl, hne⟩
      · have d2 : decide ((t : Int) < (n : Int)) = false := decide_eq_false (by omega)
        clear ht
        go_wp2
        go_ret
        exact ⟨rfl, rfl⟩
      · obtain ⟨z, hz⟩ : ∃ z, zs.getD t 0 = z := ⟨_, rfl⟩
        have hcx : w.cell? ⟨b, off + t, none⟩ = some (.int .u8 z) := by rw [← hz, ← plain_add]; exact HR.out.2.2.2 _ rfl _ htl
        rw [hz] at hne
        have hne2 : (z == 0) = false := by simp [hne]
        have i2 : (t : Int) < (n : Int) := by omega
        clear ht hz
        go_wp2
        go_ret
        exact ⟨rfl, rfl⟩

theorem fhN_all : ∀ b : List Int, (∀ i, i < b.length → zrs (b.drop i) < 16) → fhN b = b.length
  | [], _ => rfl
  | x :: r, h => by
    have h0 := h 0 (by simp)
    rw [List.drop_zero] at h0
    rw [fhN, if_neg (by omega), fhN_all r (fun i hi => by have := h (i + 1) (by simp; omega); simpa using this)]
    simp
theorem fhN_some : ∀ (b : List Int) (i : Nat), i < b.length → 16 ≤ zrs (b.drop i) → fhN b ≠ b.length
  | [], i, h, _ => by simp at h
  | x :: r, 0, h, hz => by rw [List.drop_zero] at hz; rw [fhN, if_pos hz]; simp
  | x :: r, i + 1, h, hz => by
    have := fhN_some r i (by simpa using h) (by simpa using hz)
    rw [fhN]
    split
    · simp
    · simp; exact this

set_option maxHeartbeats 1000000 in
set_option maxRecDepth 100000 in
theorem filled_any (b off n c : Nat) (zs : List Int) (b1 b2 : Bool) (w : World) (hn : n ≤ 200000000000000) (h0 : 0 < n) (h : Reads w (some ⟨b, off, none⟩) n zs) :
    Calls Tryz.prog 77 #[.slice (some ⟨b, off, none⟩) n c, .bool b1, .bool b2] w fun e w' => e = .returned (.bool (filledB zs b1 b2)) ∧ w' = w := by
  have HR := hide h
  have HL := hide h.1
  obtain ⟨x, hx⟩ : ∃ x, zs.getD 0 0 = x := ⟨_, rfl⟩
  obtain ⟨y, hy⟩ : ∃ y, zs.getD (n - 1) 0 = y := ⟨_, rfl⟩
  have c0 : w.cell? ⟨b, off, none⟩ = some (.int .u8 x) := by have := h.2.2.2 _ rfl 0 h0; rw [plain_add] at this; rw [← hx]; exact this
  have c1 : w.cell? ⟨b, off + (n - 1), none⟩ = some (.int .u8 y) := by have := h.2.2.2 _ rfl (n - 1) (by omega); rw [plain_add] at this; rw [← hy]; exact this
  have HF : Hid (filledB zs b1 b2 = (decide (fhN zs = n) && !(b1 && (x == 0)) && !(b2 && (y == 0)))) := by
    unfold Hid filledB; rw [h.1, hx, hy]
  rw [HF.out]
  obtain ⟨A, hA⟩ : ∃ A, decide (fhN zs = n) = A := ⟨_, rfl⟩
  rw [hA]
  have HA := hide hA
  have en : ((n : Int) - 1).toNat = n - 1 := by omega
  have i0 : (0 : Int) < (n : Int) := by omega
  clear h HF hx hy hA
  go_enter Tryz.func77, Tryz.ntmps77
  go_wp2
  go_loop [7] (fun i => ∃ k : Nat, k ≤ n ∧ i = .int .i64 (k : Int) ∧ Hid (∀ j, j < k → zrs (zs.drop j) < 16)) (fun i => n - (intOf i).toNat)
  case atStart => exact ⟨0, Nat.zero_le _, rfl, fun j hj => absurd hj (Nat.not_lt_zero _)⟩
  case round =>
    obtain ⟨k, hk, rfl, HQ⟩ := hrel
    by_cases hlt : k < n
    · have i1 : (k : Int) < (n : Int) := by omega
      obtain ⟨Z, hZ⟩ : ∃ Z, zrs (zs.drop k) = Z := ⟨_, rfl⟩
      have HC := hide (zeros_any b off n c k zs w hn HR.out (by omega))
      rw [hZ] at HC
      by_cases h16 : 16 ≤ Z
      · have HAF : Hid (A = false) := by unfold Hid; rw [← HA.out]; exact decide_eq_false (by rw [← HL.out]; exact fhN_some zs k (by rw [HL.out]; exact hlt) (by rw [hZ]; exact h16))
        have d1 : (16 : Int) ≤ (Z : Int) := by omega
        clear hZ
        go_wp2_with (go_at_call 95; refine HC.out.mono ?_; rintro e u1 ⟨rfl, hu1⟩; rw [hu1])
        go_ret
        rw [HAF.out]
        exact ⟨rfl, rfl⟩
      · have d1 : decide ((16 : Int) ≤ (Z : Int)) = false := decide_eq_false (by omega)
        have HQ2 : Hid (∀ j, j < k + 1 → zrs (zs.drop j) < 16) := by
          intro j hj
          by_cases hjk : j < k
          · exact HQ.out j hjk
          · obtain rfl : j = k := by omega
            rw [hZ]; omega
        clear hZ
        go_wp2_with (go_at_call 95; refine HC.out.mono ?_; rintro e u1 ⟨rfl, hu1⟩; rw [hu1])
        go_round
        case rel => exact ⟨k + 1, by omega, by go_num, HQ2⟩
        case measure => simp [intOf]; omega
    · obtain rfl : k = n := by omega
      have HAT : Hid (A = true) := by unfold Hid; rw [← HA.out]; exact decide_eq_true (by rw [← HL.out]; exact fhN_all zs (fun i hi => HQ.out i (by rw [← HL.out]; exact hi)))
      have d1 : decide ((k : Int) < (k : Int)) = false := decide_eq_false (by omega)
      have hA := HAT.out
      subst hA
      clear HA HAT HQ
      cases hx : (x == 0) <;> cases hy : (y == 0) <;> cases b1 <;> cases b2
      all_goals
        go_wp2
        go_ret
        exact ⟨by simp, rfl⟩
end Go.Proofs.YtdiifegljonojaaGreatDoor
