/-
  SEAT YtdiifegljonojaaGreatDoor: names.
-/
import Derived.Test.YtdiifegljonojaaGreatDoorRows
import Derived.Test.YtdiifegljonojaaGreatDoorQPp
import Derived.WalkKit
import Derived.WalkSpells
import Derived.WalkSmall
import Derived.ProofKit
import Derived.OpenShut
import Derived.ChangeOld
import Derived.Below
import Derived.BigQuiet
import Derived.Deep.RegionHeld3
import Derived.Lib.SmallJoins
import Derived.Lib.Bytealg
import Derived.Lib.Strings
namespace Go.Proofs.YtdiifegljonojaaGreatDoor.Pt
open Go.RowKit
set_option linter.unusedVariables false

theorem ret_bool {a b : Bool} (h : a = b) : Ending.returned (.bool a) = .returned (.bool b) := by rw [h]
theorem ret_int {k : IntKind} {a b : Int} (h : a = b) : Ending.returned (.int k a) = .returned (.int k b) := by rw [h]

set_option maxHeartbeats 1000000 in
set_option maxRecDepth 100000 in
theorem lite_any (s : ByteArray) (c : Int) (w : World) :
    Calls Tryz.prog 82 #[.string s, .int .u8 c] w fun e w' => e = .returned (.int .i64 (Lib.indexByte s.data.toList c.toNat.toUInt8)) ∧ w' = w := by
  go_enter Tryz.func82, Tryz.ntmps82
  go_wp2
  rw [run_callFunc_extern Tryz.func101 (by kernel_rfl) (by kernel_rfl) (by kernel_rfl) (e := Extern.BytealgIndexByte.indexByte) (by kernel_rfl), Lib.run_indexByteString]
  simp only [Result.andThen]
  rw [Oper.upon_value]
  go_wp2
  go_ret
  exact ⟨rfl, rfl⟩

theorem index_any (s : ByteArray) (c : Int) (w : World) :
    Calls Tryz.prog 60 #[.string s, .int .u8 c] w fun e w' => e = .returned (.int .i64 (Lib.indexByte s.data.toList c.toNat.toUInt8)) ∧ w' = w := by
  go_enter Tryz.func60, Tryz.ntmps60
  go_wp2_with (go_at_call 82; refine (lite_any _ _ _).mono ?_; rintro e w' ⟨rfl, rfl⟩)
  go_ret
  exact ⟨rfl, rfl⟩

theorem index_mem (c : UInt8) (l : List UInt8) : 0 ≤ Lib.indexByte l c ↔ c ∈ l := by
  induction l with
  | nil => simp [Lib.indexByte]
  | cons b l ih =>
    have hge := Lib.indexByte_ge l c
    unfold Lib.indexByte
    by_cases hb : b = c
    · simp [hb]
    · have hb' : ¬ c = b := fun h => hb h.symm
      simp only [beq_iff_eq, hb, if_false, List.mem_cons, hb', false_or]
      rw [← ih]
      split <;> omega

def HasB (s : ByteArray) (c : UInt8) : Bool := decide (c ∈ s.data.toList)

theorem has_any (s : ByteArray) (c : Int) (w : World) : Calls Tryz.prog 110 #[.string s, .int .u8 c] w fun e w' => e = .returned (.bool (HasB s c.toNat.toUInt8)) ∧ w' = w := by
  go_enter Tryz.func110, Tryz.ntmps110
  go_wp2_with (go_at_call 60; refine (index_any _ _ _).mono ?_; rintro e w' ⟨rfl, rfl⟩)
  go_ret
  exact ⟨ret_bool (by unfold HasB; rw [decide_eq_decide]; exact index_mem _ _), rfl⟩

def Good (s : ByteArray) : Bool := decide (1 ≤ s.size) && decide (s.size ≤ 63) && !decide (s.toList = [46]) && !decide (s.toList = [46, 46]) && !HasB s 0 && !HasB s 47
def nameE (s : ByteArray) : Int := if Good s then 0 else 81

theorem has_any0 (s : ByteArray) (c : Int) (w : World) (b0 b47 : Bool) (h0 : HasB s 0 = b0) (h1 : HasB s 47 = b47) (hc : c = 0 ∨ c = 47) :
    Calls Tryz.prog 110 #[.string s, .int .u8 c] w fun e w' => e = .returned (.bool (if c = 0 then b0 else b47)) ∧ w' = w := by
  refine (has_any s c w).mono ?_
  rintro e w' ⟨rfl, rfl⟩
  rcases hc with rfl | rfl
  · exact ⟨by rw [← h0]; rfl, rfl⟩
  · exact ⟨by rw [← h1]; rfl, rfl⟩

set_option maxHeartbeats 1000000 in
theorem name_any (s : ByteArray) (w : World) (hs : s.size ≤ 9223372036854775807) : Calls Tryz.prog 97 #[.string s] w fun e w' => e = .returned (.int .i64 (nameE s)) ∧ w' = w := by
  by_cases h0 : (s.size : Int) < 1
  · go_enter Tryz.func97, Tryz.ntmps97
    go_wp2
    go_ret
    exact ⟨ret_int (by simp [nameE, Good, show ¬ (1 ≤ s.size) by omega]), rfl⟩
  replace h0 : 1 ≤ (s.size : Int) := by omega
  by_cases h1 : 63 < (s.size : Int)
  · go_enter Tryz.func97, Tryz.ntmps97
    go_wp2
    go_ret
    exact ⟨ret_int (by simp [nameE, Good, show ¬ (s.size ≤ 63) by omega]), rfl⟩
  replace h1 : (s.size : Int) ≤ 63 := by omega
  by_cases h2 : s.toList = [46]
  · go_enter Tryz.func97, Tryz.ntmps97
    go_wp2
    go_ret
    exact ⟨ret_int (by simp [nameE, Good, h2]), rfl⟩
  by_cases h3 : s.toList = [46, 46]
  · go_enter Tryz.func97, Tryz.ntmps97
    go_wp2
    go_ret
    exact ⟨ret_int (by simp [nameE, Good, h3]), rfl⟩
  have e1 : decide (1 ≤ s.size) = true := decide_eq_true (by omega)
  have e2 : decide (s.size ≤ 63) = true := decide_eq_true (by omega)
  cases h4 : HasB s 0 with
  | true =>
    have hv : nameE s = 81 := by simp [nameE, Good, h4]
    rw [hv]
    clear hv e1 e2
    go_enter Tryz.func97, Tryz.ntmps97
    go_wp2_with (go_at_call 110; refine (has_any0 _ _ _ _ _ h4 rfl (by simp)).mono ?_; rintro e w' ⟨rfl, rfl⟩; simp only [if_true])
    go_ret
    exact ⟨rfl, rfl⟩
  | false =>
    cases h5 : HasB s 47 with
    | true =>
      have hv : nameE s = 81 := by simp [nameE, Good, h5]
      rw [hv]
      clear hv e1 e2
      go_enter Tryz.func97, Tryz.ntmps97
      go_wp2_with (go_at_call 110; refine (has_any0 _ _ _ _ _ h4 h5 (by simp)).mono ?_; rintro e w' ⟨rfl, rfl⟩; (try simp only [if_true]); (try rw [if_neg (by decide)]))
      go_ret
      exact ⟨rfl, rfl⟩
    | false =>
      have hv : nameE s = 0 := by simp [nameE, Good, h2, h3, h4, h5, e1, e2]
      rw [hv]
      clear hv e1 e2
      have f0 : decide ((s.size : Int) < 1) = false := decide_eq_false (by omega)
      have f1 : decide (63 < (s.size : Int)) = false := decide_eq_false (by omega)
      have f2 : (s.toList == [46]) = false := by simp [h2]
      have f3 : (s.toList == [46, 46]) = false := by simp [h3]
      go_enter Tryz.func97, Tryz.ntmps97
      go_wp2_with (go_at_call 110; refine (has_any0 _ _ _ _ _ h4 h5 (by simp)).mono ?_; rintro e w' ⟨rfl, rfl⟩; (try simp only [if_true]); (try rw [if_neg (by decide)]))
      go_ret
      exact ⟨rfl, rfl⟩

theorem byte_nat (s : ByteArray) (i : Nat) (h : i < s.size) : s[i]! ∈ s.data.toList := by
  rw [getElem!_pos s i h]
  simp [ByteArray.getElem_eq_getElem_data]

end Go.Proofs.YtdiifegljonojaaGreatDoor.Pt
