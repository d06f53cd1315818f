/-
  SEAT YtnjcjaaciphcgaaDoor: the reference's reader: a line.
-/
import Derived.Test.YtnjcjaaciphcgaaDoorVk
namespace Go.Proofs.YtnjcjaaciphcgaaDoor
open Go.RowKit Go.Sort
set_option linter.unusedVariables false

/-- The first line with its end, and the rest. -/
def ln (l : List UInt8) : List UInt8 × List UInt8 := if (cutN l).2.2 = true then ((cutN l).1 ++ [10], nx l) else (l, [])
theorem ln_hit {l : List UInt8} {i : Nat} (hi : i < l.length) (hno : (10 : UInt8) ∉ l.take i) (h : l.getD i 0 = 10) : ln l = (l.take (i + 1), l.drop (i + 1)) := by
  have e : l = l.take i ++ 10 :: l.drop (i + 1) := by
    have h1 : l.drop i = 10 :: l.drop (i + 1) := by
      rw [List.drop_eq_getElem_cons hi]
      congr 1
      rw [List.getD_eq_getElem?_getD, List.getElem?_eq_getElem hi] at h
      exact h
    rw [← h1, List.take_append_drop]
  have hc := cut_line (l.take i) (l.drop (i + 1)) hno
  rw [← e] at hc
  unfold ln nx
  rw [hc]
  simp only [if_true]
  congr 1
  rw [List.take_succ_eq_append_getElem hi]
  rw [List.getD_eq_getElem?_getD, List.getElem?_eq_getElem hi] at h
  congr 2
  exact h.symm
theorem ln_none {l : List UInt8} (h : (10 : UInt8) ∉ l) : ln l = (l, []) := by
  have hc : (cutN l).2.2 = false := by
    cases hx : (cutN l).2.2 with
    | false => rfl
    | true =>
      have e := cut_join l hx
      exact absurd (by rw [e]; simp) h
  unfold ln
  rw [hc]
  rfl
theorem take_no {l : List UInt8} {i : Nat} (hi : i < l.length) (hno : (10 : UInt8) ∉ l.take i) (h : l.getD i 0 ≠ 10) : (10 : UInt8) ∉ l.take (i + 1) := by
  rw [List.take_succ_eq_append_getElem hi]
  rw [List.getD_eq_getElem?_getD, List.getElem?_eq_getElem hi] at h
  intro hm
  rcases List.mem_append.1 hm with h1 | h1
  · exact hno h1
  · rw [List.mem_singleton] at h1
    exact h h1.symm

set_option maxHeartbeats 2000000 in
set_option maxRecDepth 100000 in
theorem rline_any (l : List UInt8) (w : World) (hl : l.length < 4294967281) :
    Calls Tryd.prog 24 #[.string ⟨l.toArray⟩] w fun e w' => e = .returned (.tuple #[.string ⟨(ln l).1.toArray⟩, .string ⟨(ln l).2.toArray⟩]) ∧ Below w.heap.size w w' := by
  go_enter Tryd.func24, Tryd.ntmps24
  go_wp2_with fail
  go_loopw [4] (fun s4 wr => ∃ i : Nat, i ≤ l.length ∧ s4 = .int .i64 (i : Int) ∧ Hid ((10 : UInt8) ∉ l.take i) ∧ wr = w) (fun i _ => l.length - (RowKit.intOf i).toNat)
  case atStart => exact ⟨0, Nat.zero_le _, rfl, by simp [Hid], rfl⟩
  case round =>
    obtain ⟨i, hi, rfl, HN, rfl⟩ := hrel
    by_cases hlt : i < l.length
    · have di : (i : Int) < (l.length : Int) := by omega
      obtain ⟨x, hx⟩ : ∃ x, l.getD i 0 = x := ⟨_, rfl⟩
      have hx2 : (⟨l.toArray⟩ : ByteArray)[i]'(by simpa [ByteArray.size] using hlt) = x := by rw [← hx, List.getD_eq_getElem?_getD, List.getElem?_eq_getElem hlt]; rfl
      by_cases h10 : x = 10
      · have HC : Hid (ln l = (l.take (i + 1), l.drop (i + 1))) := ln_hit hlt HN.out (hx.trans h10)
        subst h10
        clear HN hx
        have d2 : (i : Int) + 1 ≤ (l.length : Int) := by omega
        have t10 : (((10 : UInt8).toNat : Int) == 10) = true := rfl
        go_upto_region 5 with fail
        have d1 : (0 : Int) ≤ (i : Int) + 1 := by omega
        go_quiet (fail)
        go_wp2
        refine bodyPost_ret (v := .tuple #[.string ((⟨l.toArray⟩ : ByteArray).extract 0 (i + 1)), .string ((⟨l.toArray⟩ : ByteArray).extract (i + 1) l.length)]) (by simp [results, Tryd.results24, go_sem]) rfl ⟨?_, below_drewN (Below.refl _ _) _⟩
        rw [HC.out, ext_list, ext_list, Nat.sub_zero, List.drop_zero, List.take_of_length_le (l := l.drop (i + 1)) (by rw [List.length_drop]; omega)]
      · have HC : Hid ((10 : UInt8) ∉ l.take (i + 1)) := take_no hlt HN.out (fun e => h10 (hx.symm.trans e))
        have hn10 : (x.toNat : Int) ≠ 10 := fun e => h10 (by
          have h8 : x.toNat = (10 : UInt8).toNat := by have : (10 : UInt8).toNat = 10 := rfl
                                                       omega
          exact UInt8.toNat_inj.1 h8)
        have hb10 : ((x.toNat : Int) == 10) = false := by rw [beq_eq_false_iff_ne]; exact hn10
        clear HN hx
        go_wp2_with fail
        go_roundw
        case rel => exact ⟨i + 1, by omega, by go_num, HC.out, by trivial⟩
        case measure => simp [RowKit.intOf]; omega
    · have di : ¬ (i : Int) < (l.length : Int) := by omega
      have HC : Hid (ln l = (l, [])) := by
        have h9 := HN.out
        rw [List.take_of_length_le (by omega)] at h9
        exact ln_none h9
      clear HN
      go_wp2_with fail
      go_ret2
      exact ⟨by rw [HC.out]; rfl, Below.refl _ _⟩

end Go.Proofs.YtnjcjaaciphcgaaDoor
