/-
  SEAT YtnjcjaaciphcgaaDoor: the reference's reader: digits.
-/
import Derived.Test.YtnjcjaaciphcgaaDoorWa
namespace Go.Proofs.YtnjcjaaciphcgaaDoor
open Go.RowKit Go.Sort
set_option linter.unusedVariables false

/-- The digits' number. -/
def un (l : List UInt8) : Option Nat := match Lib.parseMag l with
  | .ok u => some u
  | _ => none
theorem un_end {l : List UInt8} {acc : Nat} (h : Lib.parseUint10 0 l = Lib.parseUint10 acc []) : un l = if l = [] then none else some acc := by
  unfold un Lib.parseMag
  by_cases hl : l = []
  · rw [if_pos hl, if_pos hl]
  · rw [if_neg hl, if_neg hl, h]
    rfl
theorem un_bad {l : List UInt8} {acc : Nat} {c : UInt8} {r : List UInt8} (h : Lib.parseUint10 0 l = Lib.parseUint10 acc (c :: r)) (hc : ¬ (48 ≤ c.toNat ∧ c.toNat ≤ 57) ∨ 18446744073709551616 ≤ acc * 10 + (c.toNat - 48)) : un l = none := by
  unfold un Lib.parseMag
  split
  · rename_i u hu
    split at hu
    · cases hu
    · rw [h] at hu
      simp only [Lib.parseUint10] at hu
      split at hu
      · rename_i hd
        split at hu
        · cases hu
        · split at hu
          · cases hu
          · rename_i h1 h2
            rcases hc with hc | hc
            · exact absurd hd hc
            · exact absurd hc h2
      · cases hu
  · rfl
theorem un_next {l : List UInt8} {acc : Nat} {c : UInt8} {r : List UInt8} (h : Lib.parseUint10 0 l = Lib.parseUint10 acc (c :: r)) (hc : 48 ≤ c.toNat ∧ c.toNat ≤ 57) (hb : acc * 10 + (c.toNat - 48) < 18446744073709551616) : Lib.parseUint10 0 l = Lib.parseUint10 (acc * 10 + (c.toNat - 48)) r := by
  rw [h]
  simp only [Lib.parseUint10]
  rw [if_pos hc, if_neg (by omega), if_neg (by omega)]

set_option maxHeartbeats 4000000 in
set_option maxRecDepth 100000 in
theorem runs_any (l : List UInt8) (w : World) (hl : l.length < 4294967281) :
    Calls Tryd.prog 26 #[.string ⟨l.toArray⟩] w fun e w' => e = .returned (.tuple #[.int .u64 (((un l).getD 0 : Nat) : Int), .bool (un l).isSome]) ∧ w' = w := by
  go_enter Tryd.func26, Tryd.ntmps26
  go_wp2_with fail
  go_loopw [4, 5] (fun s4 s5 wr => ∃ i acc : Nat, i ≤ l.length ∧ s5 = .int .i64 (i : Int) ∧ s4 = .int .u64 (acc : Int) ∧ acc < 18446744073709551616 ∧ Hid (Lib.parseUint10 0 l = Lib.parseUint10 acc (l.drop i)) ∧ wr = w) (fun _ i _ => l.length - (RowKit.intOf i).toNat)
  case atStart => exact ⟨0, 0, Nat.zero_le _, rfl, rfl, by decide, rfl, rfl⟩
  case round =>
    obtain ⟨i, acc, hi, rfl, rfl, hacc, HP, rfl⟩ := hrel
    by_cases hlt : i < l.length
    · have di : (i : Int) < (l.length : Int) := by omega
      obtain ⟨x, hx⟩ : ∃ x, l.getD i 0 = x := ⟨_, rfl⟩
      have hx2 : (⟨l.toArray⟩ : ByteArray)[i]'(by simpa [ByteArray.size] using hlt) = x := by rw [← hx, List.getD_eq_getElem?_getD, List.getElem?_eq_getElem hlt]; rfl
      have hd : l.drop i = x :: l.drop (i + 1) := by
        rw [List.drop_eq_getElem_cons hlt]
        congr 1
      have HP2 : Hid (Lib.parseUint10 0 l = Lib.parseUint10 acc (x :: l.drop (i + 1))) := by unfold Hid; rw [← hd]; exact HP.out
      have hxb : x.toNat < 256 := x.toNat_lt
      clear HP hd hx
      obtain ⟨c, hc⟩ : ∃ c, x.toNat = c := ⟨_, rfl⟩
      rw [hc] at hxb
      by_cases h48 : c < 48
      · have HE : Hid (un l = none) := un_bad HP2.out (Or.inl (by omega))
        have d48 : (c : Int) < 48 := by omega
        clear HP2
        go_wp2_with fail
        go_ret2
        exact ⟨by rw [HE.out]; rfl, rfl⟩
      · have d48 : ¬ (c : Int) < 48 := by omega
        by_cases h57 : 57 < c
        · have HE : Hid (un l = none) := un_bad HP2.out (Or.inl (by omega))
          have d57 : (57 : Int) < (c : Int) := by omega
          clear HP2
          go_wp2_with fail
          go_ret2
          exact ⟨by rw [HE.out]; rfl, rfl⟩
        · have d57 : ¬ (57 : Int) < (c : Int) := by omega
          obtain ⟨d, hdd⟩ : ∃ d : Nat, c - 48 = d := ⟨_, rfl⟩
          have e1 : (c : Int) - 48 = (d : Int) := by omega
          have hd10 : d < 10 := by omega
          by_cases hov : 18446744073709551616 ≤ acc * 10 + d
          · have HE : Hid (un l = none) := un_bad HP2.out (Or.inr (by rw [hc, hdd]; exact hov))
            have dov : (18446744073709551615 - (d : Int)) / 10 < (acc : Int) := by omega
            clear HP2
            go_wp2_with fail
            go_ret2
            exact ⟨by rw [HE.out]; rfl, rfl⟩
          · have HE : Hid (Lib.parseUint10 0 l = Lib.parseUint10 (acc * 10 + d) (l.drop (i + 1))) := by
              have h8 := un_next HP2.out (by omega) (by rw [hc, hdd]; omega)
              rw [hc, hdd] at h8
              exact h8
            have dov : ¬ (18446744073709551615 - (d : Int)) / 10 < (acc : Int) := by omega
            obtain ⟨A2, hA2⟩ : ∃ A2, acc * 10 + d = A2 := ⟨_, rfl⟩
            rw [hA2] at HE
            have e2 : (acc : Int) * 10 + (d : Int) = (A2 : Int) := by omega
            have hA3 : A2 < 18446744073709551616 := by omega
            clear HP2 hA2 hov
            go_wp2_with fail
            go_roundw
            case rel => exact ⟨i + 1, A2, by omega, by go_num, rfl, hA3, HE.out, by trivial⟩
            case measure => simp [RowKit.intOf]; omega
    · have di : ¬ (i : Int) < (l.length : Int) := by omega
      have HE : Hid (un l = if l = [] then none else some acc) := by
        have h9 := HP.out
        rw [List.drop_of_length_le (by omega)] at h9
        exact un_end h9
      have ha0 : l = [] → acc = 0 := fun h9 => by
        have h8 := HP.out
        rw [h9] at h8
        simp [Lib.parseUint10] at h8
        exact h8.symm
      clear HP
      by_cases hl0 : l = []
      · have ha1 := ha0 hl0
        subst ha1
        subst hl0
        rw [if_pos rfl] at HE
        obtain rfl : i = 0 := by simpa using hi
        have HE0 : Hid (un ([] : List UInt8) = none) := HE.out
        clear ha0
        go_wp2_with fail
        go_ret2
        exact ⟨by rw [HE0.out]; rfl, rfl⟩
      · rw [if_neg hl0] at HE
        clear ha0
        have hle := emp_ne hl0
        go_wp2_with fail
        go_ret2
        exact ⟨by rw [HE.out]; rfl, rfl⟩

end Go.Proofs.YtnjcjaaciphcgaaDoor
