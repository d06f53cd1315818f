/-
  SEAT YtdiifegljonojaaGreatDoor: the reference's Split.
-/
import Derived.Test.YtdiifegljonojaaGreatDoorQA
namespace Go.Proofs.YtdiifegljonojaaGreatDoor.Pt
open Go.RowKit
set_option linter.unusedVariables false

theorem any_long {xs : List ByteArray} : xs.any longB = true ↔ ∃ k, ∃ h : k < xs.length, 63 < (xs[k]).size := by
  constructor
  · intro h
    obtain ⟨x, hx, hl⟩ := List.any_eq_true.1 h
    obtain ⟨k, hk, rfl⟩ := List.mem_iff_getElem.1 hx
    exact ⟨k, hk, of_decide_eq_true hl⟩
  · rintro ⟨k, hk, hl⟩
    exact List.any_eq_true.2 ⟨_, List.getElem_mem hk, decide_eq_true hl⟩

set_option maxHeartbeats 2000000 in
set_option maxRecDepth 100000 in
theorem names_any (s : ByteArray) (w : World) (hs : s.size ≤ 9223372036854775807) : Calls Tryz.prog 94 #[.string s] w fun e w' => ∃ v, e = .returned (.tuple #[v, .int .i64 (nmE s)]) ∧ Ow w' w.heap.size v (nmN s) ∧ Below w.heap.size w w' := by
  cases hz : zeroB s with
  | true =>
    have hv : nmE s = 160 := by simp [nmE, hz]
    have hn : nmN s = [] := by simp [nmN, hv]
    rw [hv, hn]
    go_enter Tryz.func94, Tryz.ntmps94
    go_wp2_with (go_at_call 108; refine (zero_any _ _ hs).mono ?_; rintro e u ⟨rfl, hu⟩; rw [hz, hu]; clear hu)
    go_ret2
    exact ⟨_, rfl, ow_nil _ _, Below.refl _ _⟩
  | false =>
    by_cases h1 : 1023 < s.size
    · have hv : nmE s = 161 := by simp [nmE, hz, h1]
      have hn : nmN s = [] := by simp [nmN, hv]
      have d1 : (1023 : Int) < (s.size : Int) := by omega
      rw [hv, hn]
      go_enter Tryz.func94, Tryz.ntmps94
      go_wp2_with (go_at_call 108; refine (zero_any _ _ hs).mono ?_; rintro e u ⟨rfl, hu⟩; rw [hz, hu]; clear hu)
      go_ret2
      exact ⟨_, rfl, ow_nil _ _, Below.refl _ _⟩
    · have d1 : ¬ (1023 : Int) < (s.size : Int) := by omega
      obtain ⟨N, hN⟩ : ∃ N, nm s = N := ⟨_, rfl⟩
      have hlen := nm_len s
      have hs3 : s.size ≤ 1023 := by omega
      rw [hN] at hlen
      by_cases h2 : 64 < N.length
      · have d20 : (64 : Int) < (N.length : Int) := by omega
        have hv : nmE s = 161 := by simp [nmE, hz, h1, hN, h2]
        have hn : nmN s = [] := by simp [nmN, hv]
        rw [hv, hn]
        go_enter Tryz.func94, Tryz.ntmps94
        go_wp2_with (first
          | (go_at_call 108; refine (zero_any _ _ hs).mono ?_; rintro e u ⟨rfl, hu⟩; rw [hz, hu]; clear hu)
          | (go_at_call 109; refine (parts_any _ _ hs3).mono ?_; rintro e u ⟨v, rfl, ow, bel⟩; rw [hN] at ow; obtain ⟨a, c, rfl, hc, hm, rd⟩ := ow.rd; have HB : Hid (Below w.heap.size w u) := bel; clear bel ow rd))
        go_ret2
        exact ⟨_, rfl, ow_nil _ _, HB.out⟩
      · have d20 : ¬ (64 : Int) < (N.length : Int) := by omega
        have hvl : nmE s = if N.any longB then 161 else 0 := by simp [nmE, hz, h1, hN, h2]
        go_enter Tryz.func94, Tryz.ntmps94
        go_wp2_with (first
          | (go_at_call 108; refine (zero_any _ _ hs).mono ?_; rintro e u ⟨rfl, hu⟩; rw [hz, hu]; clear hu)
          | (go_at_call 109; refine (parts_any _ _ hs3).mono ?_; rintro e u ⟨v, rfl, ow, bel⟩; rw [hN] at ow; obtain ⟨a, c, rfl, hc, hm, rd⟩ := ow.rd; have HB : Hid (Below w.heap.size w u) := bel; have HO : Hid (Ow u w.heap.size (.slice a N.length c) N) := ow; have HR : Hid (RdS u a N.length N) := rd; clear bel ow rd))
        go_loopw [5] (fun i wr => ∃ k : Nat, k ≤ N.length ∧ i = .int .i64 k ∧ wr = u ∧ (∀ j (h : j < N.length), j < k → ¬ 63 < (N[j]).size)) (fun i _ => N.length - (intOf i).toNat)
        case atStart => exact ⟨0, Nat.zero_le _, rfl, rfl, fun j _ hj => absurd hj (Nat.not_lt_zero _)⟩
        case round =>
          obtain ⟨k, hk, rfl, rfl, hall⟩ := hrel
          have H : Hid (∀ j (h : j < N.length), j < k → ¬ 63 < (N[j]).size) := hall
          clear hall
          by_cases hlt : k < N.length
          · have e1 : decide ((k : Int) < (N.length : Int)) = true := decide_eq_true (by omega)
            cases a with
            | none => have := HR.out.nil rfl; omega
            | some x =>
              have hc := HR.out.at hlt
              obtain ⟨y, hy⟩ : ∃ y, N[k] = y := ⟨_, rfl⟩
              have HY : Hid (N[k] = y) := hy
              rw [hy] at hc
              clear hy
              by_cases hl : 63 < y.size
              · have e2 : (63 : Int) < (y.size : Int) := by omega
                have HV : Hid (nmE s = 161) := by
                  show nmE s = 161
                  rw [hvl, if_pos (any_long.2 ⟨k, hlt, by rw [HY.out]; exact hl⟩)]
                clear hvl
                go_wp2
                go_ret2
                exact ⟨_, by rw [HV.out]; rfl, by simp only [nmN, HV.out]; exact ow_nil _ _, HB.out⟩
              · have e2 : ¬ (63 : Int) < (y.size : Int) := by omega
                have HV : Hid (nmE s = if N.any longB then 161 else 0) := hvl
                clear hvl
                go_wp2
                go_roundw
                case rel =>
                  refine ⟨k + 1, by omega, by go_num, by simp, fun j hj hjk => ?_⟩
                  by_cases hjk' : j < k
                  · exact H.out j hj hjk'
                  · obtain rfl : j = k := by omega
                    rw [HY.out]; exact hl
                case measure => simp [intOf]; omega
          · obtain rfl : k = N.length := by omega
            have hno : N.any longB = false := by
              rw [Bool.eq_false_iff]
              intro h
              obtain ⟨k, hk, hl⟩ := any_long.1 h
              exact H.out k hk hk hl
            have HV : Hid (nmE s = 0) := by show nmE s = 0; rw [hvl, hno]; rfl
            clear hvl hno
            go_wp2
            go_ret2
            refine ⟨_, by rw [HV.out]; rfl, ?_, HB.out⟩
            simp only [nmN, HV.out, if_true, hN]
            exact HO.out

/-- How a text begins. -/
theorem beg_ways (s : ByteArray) : (begB s = false ∧ s.toList = []) ∨ (∃ h : 0 < s.size, begB s = false ∧ ¬ s.toList = [] ∧ (s[0].toNat : Int) ≠ 47) ∨ (∃ h : 0 < s.size, begB s = true ∧ ¬ s.toList = [] ∧ s[0].toNat = 47) := by
  rw [toList_data]
  unfold begB
  by_cases h : 0 < s.size
  · have hb := byte_data s 0 h
    have hh : s.data.toList.head? = some s[0] := by rw [List.head?_eq_getElem?, hb]
    have hne : ¬ s.data.toList = [] := fun e => by rw [e] at hb; cases hb
    by_cases h47 : s[0] = 47
    · right; right
      exact ⟨h, by rw [hh, h47]; rfl, hne, by rw [h47]; rfl⟩
    · right; left
      refine ⟨h, by rw [hh]; simpa using h47, hne, fun e => h47 (UInt8.toNat_inj.1 ?_)⟩
      have : s[0].toNat = 47 := by omega
      rw [this]; rfl
  · left
    have : s.data.toList = [] := List.eq_nil_of_length_eq_zero (by rw [← Lib.size_eq]; omega)
    exact ⟨by rw [this]; rfl, this⟩

set_option maxHeartbeats 1000000 in
set_option maxRecDepth 100000 in
theorem rsplit_any (s : ByteArray) (w : World) (hs : s.size ≤ 9223372036854775807) : Calls Tryz.prog 76 #[.string s] w fun e w' => ∃ v, e = .returned (.tuple #[v, .int .i64 (spE s)]) ∧ Ow w' w.heap.size v (spN s) ∧ Below w.heap.size w w' := by
  rcases beg_ways s with ⟨hb, h0⟩ | ⟨h1, hb, h0, h47⟩ | ⟨h1, hb, h0, h47⟩
  · have hv : spE s = 160 := by simp [spE, hb]
    have hn : spN s = [] := by simp [spN, hv]
    rw [hv, hn]
    go_enter Tryz.func76, Tryz.ntmps76
    go_wp2
    go_ret2
    exact ⟨_, rfl, ow_nil _ _, Below.refl _ _⟩
  · have hv : spE s = 160 := by simp [spE, hb]
    have hn : spN s = [] := by simp [spN, hv]
    rw [hv, hn]
    have f1 : (s.toList == []) = false := by simp [h0]
    have f2 : ((s[0].toNat : Int) != 47) = true := by simp; omega
    go_enter Tryz.func76, Tryz.ntmps76
    go_wp2
    go_ret2
    exact ⟨_, rfl, ow_nil _ _, Below.refl _ _⟩
  · have hv : spE s = nmE s := by simp [spE, hb]
    have hn : spN s = nmN s := by simp [spN, nmN, hv]
    rw [hv, hn]
    have f1 : (s.toList == []) = false := by simp [h0]
    have f3 : s.toList.isEmpty = false := by simp [h0]
    go_enter Tryz.func76, Tryz.ntmps76
    go_wp2_with (go_at_call 94; refine (names_any _ _ hs).mono ?_; rintro e u ⟨v, rfl, ow, bel⟩; have HB : Hid (Below w.heap.size w u) := bel; have HO : Hid (Ow u w.heap.size v (nmN s)) := ow; clear bel ow)
    go_ret2
    exact ⟨_, rfl, HO.out, HB.out⟩
end Go.Proofs.YtdiifegljonojaaGreatDoor.Pt
