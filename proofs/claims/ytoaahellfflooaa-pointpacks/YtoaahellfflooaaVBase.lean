/-
  SEAT Ytoaahellfflooaa.
-/
import Derived.WalkKit
import Derived.WalkSpells
import Derived.WalkSmall
import Derived.ProofKit
import Derived.OpenShut
import Derived.ChangeOld
import Derived.Below
import Derived.BigQuiet
import Derived.Deep.RegionHeld3
import Derived.Lib.SmallJoins
import Derived.Lib.Bytealg
import Derived.Lib.Strings
import Derived.Test.YtoaahellfflooaaRows
namespace Go.Proofs.Ytoaahellfflooaa
open Go.RowKit
set_option linter.unusedVariables false

theorem ret_bool {a b : Bool} (h : a = b) : Ending.returned (.bool a) = .returned (.bool b) := by rw [h]
theorem ret_int {k : IntKind} {a b : Int} (h : a = b) : Ending.returned (.int k a) = .returned (.int k b) := by rw [h]

set_option maxHeartbeats 1000000 in
set_option maxRecDepth 100000 in
theorem lite_any (s : ByteArray) (c : Int) (w : World) :
    Calls Try.prog 83 #[.string s, .int .u8 c] w fun e w' => e = .returned (.int .i64 (Lib.indexByte s.data.toList c.toNat.toUInt8)) ∧ w' = w := by
  go_enter Try.func83, Try.ntmps83
  go_wp2
  rw [run_callFunc_extern Try.func84 (by kernel_rfl) (by kernel_rfl) (by kernel_rfl) (e := Extern.BytealgIndexByte.indexByte) (by kernel_rfl), Lib.run_indexByteString]
  simp only [Result.andThen]
  rw [Oper.upon_value]
  go_wp2
  go_ret
  exact ⟨rfl, rfl⟩

theorem index_any (s : ByteArray) (c : Int) (w : World) :
    Calls Try.prog 82 #[.string s, .int .u8 c] w fun e w' => e = .returned (.int .i64 (Lib.indexByte s.data.toList c.toNat.toUInt8)) ∧ w' = w := by
  go_enter Try.func82, Try.ntmps82
  go_wp2_with (go_at_call 83; refine (lite_any _ _ _).mono ?_; rintro e w' ⟨rfl, rfl⟩)
  go_ret
  exact ⟨rfl, rfl⟩

theorem index_mem (c : UInt8) (l : List UInt8) : 0 ≤ Lib.indexByte l c ↔ c ∈ l := by
  induction l with
  | nil => simp [Lib.indexByte]
  | cons b l ih =>
    have hge := Lib.indexByte_ge l c
    unfold Lib.indexByte
    by_cases hb : b = c
    · simp [hb]
    · have hb' : ¬ c = b := fun h => hb h.symm
      simp only [beq_iff_eq, hb, if_false, List.mem_cons, hb', false_or]
      rw [← ih]
      split <;> omega

def HasB (s : ByteArray) (c : UInt8) : Bool := decide (c ∈ s.data.toList)

theorem has_any (s : ByteArray) (c : Int) (w : World) : Calls Try.prog 80 #[.string s, .int .u8 c] w fun e w' => e = .returned (.bool (HasB s c.toNat.toUInt8)) ∧ w' = w := by
  go_enter Try.func80, Try.ntmps80
  go_wp2_with (go_at_call 82; refine (index_any _ _ _).mono ?_; rintro e w' ⟨rfl, rfl⟩)
  go_ret
  exact ⟨ret_bool (by unfold HasB; rw [decide_eq_decide]; exact index_mem _ _), rfl⟩

def Good (s : ByteArray) : Bool := decide (1 ≤ s.size) && decide (s.size ≤ 63) && !decide (s.toList = [46]) && !decide (s.toList = [46, 46]) && !HasB s 0 && !HasB s 47
def nameE (s : ByteArray) : Int := if Good s then 0 else 81

theorem has_any0 (s : ByteArray) (c : Int) (w : World) (b0 b47 : Bool) (h0 : HasB s 0 = b0) (h1 : HasB s 47 = b47) (hc : c = 0 ∨ c = 47) :
    Calls Try.prog 80 #[.string s, .int .u8 c] w fun e w' => e = .returned (.bool (if c = 0 then b0 else b47)) ∧ w' = w := by
  refine (has_any s c w).mono ?_
  rintro e w' ⟨rfl, rfl⟩
  rcases hc with rfl | rfl
  · exact ⟨by rw [← h0]; rfl, rfl⟩
  · exact ⟨by rw [← h1]; rfl, rfl⟩

set_option maxHeartbeats 1000000 in
theorem name_any (s : ByteArray) (w : World) (hs : s.size ≤ 9223372036854775807) : Calls Try.prog 73 #[.string s] w fun e w' => e = .returned (.int .i64 (nameE s)) ∧ w' = w := by
  by_cases h0 : (s.size : Int) < 1
  · go_enter Try.func73, Try.ntmps73
    go_wp2
    go_ret
    exact ⟨ret_int (by simp [nameE, Good, show ¬ (1 ≤ s.size) by omega]), rfl⟩
  replace h0 : 1 ≤ (s.size : Int) := by omega
  by_cases h1 : 63 < (s.size : Int)
  · go_enter Try.func73, Try.ntmps73
    go_wp2
    go_ret
    exact ⟨ret_int (by simp [nameE, Good, show ¬ (s.size ≤ 63) by omega]), rfl⟩
  replace h1 : (s.size : Int) ≤ 63 := by omega
  by_cases h2 : s.toList = [46]
  · go_enter Try.func73, Try.ntmps73
    go_wp2
    go_ret
    exact ⟨ret_int (by simp [nameE, Good, h2]), rfl⟩
  by_cases h3 : s.toList = [46, 46]
  · go_enter Try.func73, Try.ntmps73
    go_wp2
    go_ret
    exact ⟨ret_int (by simp [nameE, Good, h3]), rfl⟩
  have e1 : decide (1 ≤ s.size) = true := decide_eq_true (by omega)
  have e2 : decide (s.size ≤ 63) = true := decide_eq_true (by omega)
  cases h4 : HasB s 0 with
  | true =>
    have hv : nameE s = 81 := by simp [nameE, Good, h4]
    rw [hv]
    clear hv e1 e2
    go_enter Try.func73, Try.ntmps73
    go_wp2_with (go_at_call 80; refine (has_any0 _ _ _ _ _ h4 rfl (by simp)).mono ?_; rintro e w' ⟨rfl, rfl⟩; simp only [if_true])
    go_ret
    exact ⟨rfl, rfl⟩
  | false =>
    cases h5 : HasB s 47 with
    | true =>
      have hv : nameE s = 81 := by simp [nameE, Good, h5]
      rw [hv]
      clear hv e1 e2
      go_enter Try.func73, Try.ntmps73
      go_wp2_with (go_at_call 80; refine (has_any0 _ _ _ _ _ h4 h5 (by simp)).mono ?_; rintro e w' ⟨rfl, rfl⟩; (try simp only [if_true]); (try rw [if_neg (by decide)]))
      go_ret
      exact ⟨rfl, rfl⟩
    | false =>
      have hv : nameE s = 0 := by simp [nameE, Good, h2, h3, h4, h5, e1, e2]
      rw [hv]
      clear hv e1 e2
      have f0 : decide ((s.size : Int) < 1) = false := decide_eq_false (by omega)
      have f1 : decide (63 < (s.size : Int)) = false := decide_eq_false (by omega)
      have f2 : (s.toList == [46]) = false := by simp [h2]
      have f3 : (s.toList == [46, 46]) = false := by simp [h3]
      go_enter Try.func73, Try.ntmps73
      go_wp2_with (go_at_call 80; refine (has_any0 _ _ _ _ _ h4 h5 (by simp)).mono ?_; rintro e w' ⟨rfl, rfl⟩; (try simp only [if_true]); (try rw [if_neg (by decide)]))
      go_ret
      exact ⟨rfl, rfl⟩

theorem byte_nat (s : ByteArray) (i : Nat) (h : i < s.size) : s[i]! ∈ s.data.toList := by
  rw [getElem!_pos s i h]
  simp [ByteArray.getElem_eq_getElem_data]

set_option maxHeartbeats 1000000 in
theorem rname_any (s : ByteArray) (w : World) (hs : s.size ≤ 9223372036854775807) : Calls Try.prog 60 #[.string s] w fun e w' => e = .returned (.int .i64 (nameE s)) ∧ w' = w := by
  by_cases h0 : (s.size : Int) < 1
  · go_enter Try.func60, Try.ntmps60
    go_wp2
    go_ret
    exact ⟨ret_int (by simp [nameE, Good, show ¬ (1 ≤ s.size) by omega]), rfl⟩
  replace h0 : 1 ≤ (s.size : Int) := by omega
  by_cases h1 : 63 < (s.size : Int)
  · go_enter Try.func60, Try.ntmps60
    go_wp2
    go_ret
    exact ⟨ret_int (by simp [nameE, Good, show ¬ (s.size ≤ 63) by omega]), rfl⟩
  replace h1 : (s.size : Int) ≤ 63 := by omega
  by_cases h2 : s.toList = [46]
  · go_enter Try.func60, Try.ntmps60
    go_wp2
    go_ret
    exact ⟨ret_int (by simp [nameE, Good, h2]), rfl⟩
  by_cases h3 : s.toList = [46, 46]
  · go_enter Try.func60, Try.ntmps60
    go_wp2
    go_ret
    exact ⟨ret_int (by simp [nameE, Good, h3]), rfl⟩
  have f0 : decide ((s.size : Int) < 1) = false := decide_eq_false (by omega)
  have f1 : decide (63 < (s.size : Int)) = false := decide_eq_false (by omega)
  have f2 : (s.toList == [46]) = false := by simp [h2]
  have f3 : (s.toList == [46, 46]) = false := by simp [h3]
  go_enter Try.func60, Try.ntmps60
  go_wp2
  go_loopw [3] (fun i wr => ∃ k : Nat, k ≤ s.size ∧ i = .int .i64 k ∧ wr = w ∧ (∀ j, j < k → s[j]! ≠ 0 ∧ s[j]! ≠ 47)) (fun i _ => s.size - (intOf i).toNat)
  case atStart => exact ⟨0, Nat.zero_le _, rfl, rfl, fun j hj => absurd hj (Nat.not_lt_zero _)⟩
  case round =>
    obtain ⟨k, hk, rfl, rfl, hall⟩ := hrel
    have H : Hid (∀ j, j < k → s[j]! ≠ 0 ∧ s[j]! ≠ 47) := hall
    clear hall
    by_cases hlt : k < s.size
    · have d1 : decide ((k : Int) < (s.size : Int)) = true := decide_eq_true (by omega)
      obtain ⟨x, hx⟩ : ∃ x : Nat, s[k].toNat = x := ⟨_, rfl⟩
      have hp : s[k]! = s[k] := getElem!_pos s k hlt
      have hm := byte_nat s k hlt
      by_cases x0 : x = 0
      · have hb : s[k]! = 0 := UInt8.toNat_inj.1 (by rw [hp, hx, x0]; rfl)
        rw [hb] at hm
        have hv : nameE s = 81 := by simp [nameE, Good, HasB, hm]
        have HV : Hid (nameE s = 81) := hv
        subst x0
        clear hv hm hb hp
        go_wp2
        go_ret
        exact ⟨ret_int HV.out.symm, rfl⟩
      by_cases x1 : x = 47
      · have hb : s[k]! = 47 := UInt8.toNat_inj.1 (by rw [hp, hx, x1]; rfl)
        rw [hb] at hm
        have hv : nameE s = 81 := by simp [nameE, Good, HasB, hm]
        have HV : Hid (nameE s = 81) := hv
        subst x1
        clear hv hm hb hp
        go_wp2
        go_ret
        exact ⟨ret_int HV.out.symm, rfl⟩
      have e0 : ((x : Int) == 0) = false := by simp [x0]
      have e1 : ((x : Int) == 47) = false := by simp; omega
      have HP : Hid (s[k]! = s[k]) := hp
      clear hm hp
      go_wp2
      go_roundw
      case rel =>
        refine ⟨k + 1, by omega, by go_num, by simp, fun j hj => ?_⟩
        by_cases hjk : j < k
        · exact H.out j hjk
        · obtain rfl : j = k := by omega
          exact ⟨fun h => x0 (by rw [← hx, ← HP.out, h]; rfl), fun h => x1 (by rw [← hx, ← HP.out, h]; rfl)⟩
      case measure => simp [intOf]; omega
    · obtain rfl : k = s.size := by omega
      have hv : nameE s = 0 := by
        have g : ∀ c : UInt8, c ∈ s.data.toList → c ≠ 0 ∧ c ≠ 47 := by
          intro c hc
          obtain ⟨j, hj, rfl⟩ := List.mem_iff_getElem.1 hc
          have hj' : j < s.size := by rw [Lib.size_eq]; exact hj
          have := H.out j hj'
          rw [getElem!_pos s j hj'] at this
          simpa [ByteArray.getElem_eq_getElem_data] using this
        have g0 : HasB s 0 = false := by unfold HasB; exact decide_eq_false (fun h => (g 0 h).1 rfl)
        have g1 : HasB s 47 = false := by unfold HasB; exact decide_eq_false (fun h => (g 47 h).2 rfl)
        have q1 : 1 ≤ s.size := by omega
        have q2 : s.size ≤ 63 := by omega
        simp [nameE, Good, g0, g1, h2, h3, q1, q2]
      have HV : Hid (nameE s = 0) := hv
      clear hv
      go_wp2
      go_ret
      exact ⟨ret_int HV.out.symm, rfl⟩
end Go.Proofs.Ytoaahellfflooaa
