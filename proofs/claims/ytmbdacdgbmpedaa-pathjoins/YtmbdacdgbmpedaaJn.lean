/-
  SEAT Ytmbdacdgbmpedaa: the reference's Join.
-/
import Derived.Test.YtmbdacdgbmpedaaF
namespace Go.Proofs.Ytmbdacdgbmpedaa
open Go.RowKit
set_option linter.unusedVariables false

set_option maxHeartbeats 1000000 in
theorem rname_any (s : ByteArray) (w : World) (hs : s.size ≤ 9223372036854775807) : Calls Try.prog 7 #[.string s] w fun e w' => e = .returned (.int .i64 (nameE s)) ∧ w' = w := by
  by_cases h0 : (s.size : Int) < 1
  · go_enter Try.func7, Try.ntmps7
    go_wp2
    go_ret
    exact ⟨ret_int (by simp [nameE, Good, show ¬ (1 ≤ s.size) by omega]), rfl⟩
  replace h0 : 1 ≤ (s.size : Int) := by omega
  by_cases h1 : 63 < (s.size : Int)
  · go_enter Try.func7, Try.ntmps7
    go_wp2
    go_ret
    exact ⟨ret_int (by simp [nameE, Good, show ¬ (s.size ≤ 63) by omega]), rfl⟩
  replace h1 : (s.size : Int) ≤ 63 := by omega
  by_cases h2 : s.toList = [46]
  · go_enter Try.func7, Try.ntmps7
    go_wp2
    go_ret
    exact ⟨ret_int (by simp [nameE, Good, h2]), rfl⟩
  by_cases h3 : s.toList = [46, 46]
  · go_enter Try.func7, Try.ntmps7
    go_wp2
    go_ret
    exact ⟨ret_int (by simp [nameE, Good, h3]), rfl⟩
  have f0 : decide ((s.size : Int) < 1) = false := decide_eq_false (by omega)
  have f1 : decide (63 < (s.size : Int)) = false := decide_eq_false (by omega)
  have f2 : (s.toList == [46]) = false := by simp [h2]
  have f3 : (s.toList == [46, 46]) = false := by simp [h3]
  go_enter Try.func7, Try.ntmps7
  go_wp2
  go_loopw [3] (fun i wr => ∃ k : Nat, k ≤ s.size ∧ i = .int .i64 k ∧ wr = w ∧ (∀ j, j < k → s[j]! ≠ 0 ∧ s[j]! ≠ 47)) (fun i _ => s.size - (intOf i).toNat)
  case atStart => exact ⟨0, Nat.zero_le _, rfl, rfl, fun j hj => absurd hj (Nat.not_lt_zero _)⟩
  case round =>
    obtain ⟨k, hk, rfl, rfl, hall⟩ := hrel
    have H : Hid (∀ j, j < k → s[j]! ≠ 0 ∧ s[j]! ≠ 47) := hall
    clear hall
    by_cases hlt : k < s.size
    · have d1 : decide ((k : Int) < (s.size : Int)) = true := decide_eq_true (by omega)
      obtain ⟨x, hx⟩ : ∃ x : Nat, s[k].toNat = x := ⟨_, rfl⟩
      have hp : s[k]! = s[k] := getElem!_pos s k hlt
      have hm := byte_nat s k hlt
      by_cases x0 : x = 0
      · have hb : s[k]! = 0 := UInt8.toNat_inj.1 (by rw [hp, hx, x0]; rfl)
        rw [hb] at hm
        have hv : nameE s = 81 := by simp [nameE, Good, HasB, hm]
        have HV : Hid (nameE s = 81) := hv
        subst x0
        clear hv hm hb hp
        go_wp2
        go_ret
        exact ⟨ret_int HV.out.symm, rfl⟩
      by_cases x1 : x = 47
      · have hb : s[k]! = 47 := UInt8.toNat_inj.1 (by rw [hp, hx, x1]; rfl)
        rw [hb] at hm
        have hv : nameE s = 81 := by simp [nameE, Good, HasB, hm]
        have HV : Hid (nameE s = 81) := hv
        subst x1
        clear hv hm hb hp
        go_wp2
        go_ret
        exact ⟨ret_int HV.out.symm, rfl⟩
      have e0 : ((x : Int) == 0) = false := by simp [x0]
      have e1 : ((x : Int) == 47) = false := by simp; omega
      have HP : Hid (s[k]! = s[k]) := hp
      clear hm hp
      go_wp2
      go_roundw
      case rel =>
        refine ⟨k + 1, by omega, by go_num, by simp, fun j hj => ?_⟩
        by_cases hjk : j < k
        · exact H.out j hjk
        · obtain rfl : j = k := by omega
          exact ⟨fun h => x0 (by rw [← hx, ← HP.out, h]; rfl), fun h => x1 (by rw [← hx, ← HP.out, h]; rfl)⟩
      case measure => simp [intOf]; omega
    · obtain rfl : k = s.size := by omega
      have hv : nameE s = 0 := by
        have g : ∀ c : UInt8, c ∈ s.data.toList → c ≠ 0 ∧ c ≠ 47 := by
          intro c hc
          obtain ⟨j, hj, rfl⟩ := List.mem_iff_getElem.1 hc
          have hj' : j < s.size := by rw [Lib.size_eq]; exact hj
          have := H.out j hj'
          rw [getElem!_pos s j hj'] at this
          simpa [ByteArray.getElem_eq_getElem_data] using this
        have g0 : HasB s 0 = false := by unfold HasB; exact decide_eq_false (fun h => (g 0 h).1 rfl)
        have g1 : HasB s 47 = false := by unfold HasB; exact decide_eq_false (fun h => (g 47 h).2 rfl)
        have q1 : 1 ≤ s.size := by omega
        have q2 : s.size ≤ 63 := by omega
        simp [nameE, Good, g0, g1, h2, h3, q1, q2]
      have HV : Hid (nameE s = 0) := hv
      clear hv
      go_wp2
      go_ret
      exact ⟨ret_int HV.out.symm, rfl⟩
set_option maxHeartbeats 1000000 in
set_option maxRecDepth 100000 in
theorem same_eq (v v' : Value) (xs : List ByteArray) (w : World) (h : Vw w v xs) (h' : Vw w v' xs) : Calls Try.prog 6 #[v, v'] w fun e w' => e = .returned (.bool true) ∧ Below w.heap.size w w' := by
  obtain ⟨a, c, rfl, h1, h2, rd, hx⟩ := h
  obtain ⟨a', c', rfl, h1', h2', rd', hx'⟩ := h'
  have hm : xs.length ≤ 9223372036854775807 := by unfold maxLen at h2; omega
  have R1 : Hid (RdS w a xs.length xs) := rd
  have R2 : Hid (RdS w a' xs.length xs) := rd'
  clear rd rd' hx hx'
  go_enter Try.func6, Try.ntmps6
  go_wp2
  go_loopw [5] (fun i wr => ∃ k : Nat, k ≤ xs.length ∧ i = .int .i64 k ∧ Below w.heap.size w wr) (fun i _ => xs.length - (intOf i).toNat)
  case atStart => exact ⟨0, Nat.zero_le _, rfl, Below.refl _ _⟩
  case round =>
    obtain ⟨k, hk, rfl, bel⟩ := hrel
    have HB : Hid (Below w.heap.size w wr) := bel
    by_cases hlt : k < xs.length
    · have e1 : decide ((k : Int) < (xs.length : Int)) = true := decide_eq_true (by omega)
      cases a with
      | none => have := R1.out.nil rfl; omega
      | some x =>
        cases a' with
        | none => have := R2.out.nil rfl; omega
        | some x' =>
          have hc := (RdS.below R1.out bel).at hlt
          have hc' := (RdS.below R2.out bel).at hlt
          obtain ⟨y, hy⟩ : ∃ y, xs[k] = y := ⟨_, rfl⟩
          rw [hy] at hc hc'
          clear hy bel
          go_wp2
          go_quiet (fail)
          go_wp2
          go_roundw
          case rel => exact ⟨k + 1, by omega, by go_num, below_drewN HB.out nq⟩
          case measure => simp [intOf]; omega
    · obtain rfl : k = xs.length := by omega
      go_wp2
      go_ret
      exact ⟨rfl, HB.out⟩


theorem any_take (p : ByteArray → Bool) {xs : List ByteArray} {k : Nat} {y : ByteArray} (hlt : k < xs.length) (hy : xs[k] = y) (h : (xs.take k).any p = false) (hp : p y = false) : (xs.take (k + 1)).any p = false := by
  rw [List.take_succ_eq_append_getElem hlt, hy, List.any_append, h]; simp [hp]

set_option maxHeartbeats 2000000 in
set_option maxRecDepth 100000 in
theorem rjoin_any (v : Value) (xs : List ByteArray) (w : World) (h : Vw w v xs) (hb : ∀ x ∈ xs, x.size ≤ 9223372036854775807) :
    Calls Try.prog 4 #[v] w fun e w' => e = .returned (.tuple #[.string (joS xs), .int .i64 (joE xs)]) ∧ w' = w := by
  have HV : Hid (Vw w v xs) := h
  obtain ⟨a, c, rfl, h1, h2, rd, hx⟩ := h
  have hm : xs.length ≤ 9223372036854775807 := by unfold maxLen at h2; omega
  have HR : Hid (RdS w a xs.length xs) := rd
  have HBD : Hid (∀ x ∈ xs, x.size ≤ 9223372036854775807) := hb
  clear rd hx hb
  go_enter Try.func4, Try.ntmps4
  go_wp2
  go_loopw [4] (fun i wr => ∃ k : Nat, k ≤ xs.length ∧ i = .int .i64 k ∧ wr = w ∧ (xs.take k).any badB = false) (fun i _ => xs.length - (intOf i).toNat)
  case atStart => exact ⟨0, Nat.zero_le _, rfl, rfl, rfl⟩
  case round =>
    obtain ⟨k, hk, rfl, rfl, hall⟩ := hrel
    have H : Hid ((xs.take k).any badB = false) := hall
    clear hall
    by_cases hlt : k < xs.length
    · have d1 : decide ((k : Int) < (xs.length : Int)) = true := decide_eq_true (by omega)
      cases a with
      | none => have := HR.out.nil rfl; omega
      | some x =>
        have hc := HR.out.at hlt
        obtain ⟨y, hy⟩ : ∃ y, xs[k] = y := ⟨_, rfl⟩
        have hys : y.size ≤ 9223372036854775807 := by rw [← hy]; exact HBD.out _ (List.getElem_mem hlt)
        have HY : Hid (xs[k] = y) := hy
        rw [hy] at hc
        clear hy
        cases hu : upB y with
        | true =>
          have hl : y.toList = [46, 46] := (up_list y).1 hu
          have HP : Hid (badB y = false) := by show badB y = false; simp [badB, hu]
          clear hu
          go_wp2
          go_roundw
          case rel => exact ⟨k + 1, by omega, by go_num, by simp, any_take badB hlt HY.out H.out HP.out⟩
          case measure => simp [intOf]; omega
        | false =>
          have hl : ¬ y.toList = [46, 46] := fun e => by rw [(up_list y).2 e] at hu; cases hu
          have hl2 : (y.toList == [46, 46]) = false := by simp [hl]
          obtain ⟨n, hn⟩ : ∃ n, nameE y = n := ⟨_, rfl⟩
          have hb : badB y = !decide (n = 0) := by
            rw [← hn]; cases hg : Good y <;> simp [badB, hu, nameE, hg]
          by_cases h0 : n = 0
          · have HP : Hid (badB y = false) := by show badB y = false; rw [hb, h0]; rfl
            have e0 : (n == 0) = true := by simp [h0]
            clear hu hb
            go_wp2_with (go_at_call 7; refine (rname_any _ _ hys).mono ?_; rintro e u ⟨rfl, hu⟩; rw [hu, hn]; clear hu)
            go_roundw
            case rel => exact ⟨k + 1, by omega, by go_num, by simp, any_take badB hlt HY.out H.out HP.out⟩
            case measure => simp [intOf]; omega
          · have e0 : (n == 0) = false := by simp [h0]
            have HP : Hid (xs.any badB = true) := List.any_eq_true.2 ⟨_, List.getElem_mem hlt, by rw [HY.out, hb]; simp [h0]⟩
            clear hu hb
            go_wp2_with (go_at_call 7; refine (rname_any _ _ hys).mono ?_; rintro e u ⟨rfl, hu⟩; rw [hu, hn]; clear hu)
            go_ret2
            have hv : joE xs = 81 := by simp [joE, HP.out]
            have hn' : joS xs = ⟨#[]⟩ := by simp [joS, hv]; rfl
            exact ⟨by rw [hv, hn']; rfl, rfl⟩
    · obtain rfl : k = xs.length := by omega
      have hbad : xs.any badB = false := by have := H.out; rw [List.take_length] at this; exact this
      by_cases hl : 64 < xs.length
      · have HE : Hid (joE xs = 161) := by show joE xs = 161; simp [joE, hbad, hl]
        have d2 : (64 : Int) < (xs.length : Int) := by omega
        clear hbad
        go_wp2
        go_ret2
        have hn' : joS xs = ⟨#[]⟩ := by simp [joS, HE.out]; rfl
        exact ⟨by rw [HE.out, hn']; rfl, rfl⟩
      · have d2 : ¬ (64 : Int) < (xs.length : Int) := by omega
        have hl' : xs.length ≤ 64 := by omega
        have hs := tg_small hbad hl'
        have hsm : (tgA xs).length ≤ 1048576 := by
          by_cases h0 : xs = []
          · subst h0; decide
          · have e : tg xs = byteOf (tgA xs) := tg_cons h0
            rw [e, byteOf_size] at hs; omega
        have hvl : joE xs = if 1023 < (tg xs).size then 161 else 0 := by simp [joE, hbad, hl]
        obtain ⟨Tg, hT⟩ : ∃ Tg, tg xs = Tg := ⟨_, rfl⟩
        rw [hT] at hvl
        by_cases hl2 : 1023 < Tg.size
        · have HE : Hid (joE xs = 161) := by show joE xs = 161; rw [hvl, if_pos hl2]
          have d3 : (1023 : Int) < (Tg.size : Int) := by omega
          clear hvl hbad
          go_wp2_with (go_at_call 8; refine (together_any _ xs _ HV.out hsm).mono ?_; rintro e u ⟨rfl, hu⟩; rw [hu, hT]; clear hu)
          go_ret2
          have hn' : joS xs = ⟨#[]⟩ := by simp [joS, HE.out]; rfl
          exact ⟨by rw [HE.out, hn']; rfl, rfl⟩
        · have HE : Hid (joE xs = 0) := by show joE xs = 0; rw [hvl, if_neg hl2]
          have d3 : ¬ (1023 : Int) < (Tg.size : Int) := by omega
          clear hvl hbad
          go_wp2_with (go_at_call 8; refine (together_any _ xs _ HV.out hsm).mono ?_; rintro e u ⟨rfl, hu⟩; rw [hu, hT]; clear hu)
          go_ret2
          have hn' : joS xs = Tg := by simp [joS, HE.out, hT]
          exact ⟨by rw [HE.out, hn']; rfl, rfl⟩
end Go.Proofs.Ytmbdacdgbmpedaa
