/-
  SEAT YtmbdacdgbmpedabDoor: what PathThere asks.
-/
import Derived.Test.YtmbdacdgbmpedabDoorPa
namespace Go.Proofs.YtmbdacdgbmpedabDoor
open Go.RowKit
set_option linter.unusedVariables false

theorem ok_mem {x : ByteArray} (h : badB x = false) : noB x = false ∧ x.size ≤ 63 ∧ (47 : UInt8) ∉ x.data.toList ∧ (0 : UInt8) ∉ x.data.toList := by
  have hs := notBad_size h
  unfold badB at h
  cases hu : upB x with
  | true =>
    have e := of_decide_eq_true hu
    refine ⟨?_, hs, ?_, ?_⟩
    · unfold noB; rw [e]; decide
    · rw [e]; decide
    · rw [e]; decide
  | false =>
    rw [hu] at h
    have hg : Good x = true := by simpa using h
    unfold Good HasB at hg
    rw [toList_data] at hg
    simp only [Bool.and_eq_true, decide_eq_true_eq, Bool.not_eq_true', decide_eq_false_iff_not] at hg
    obtain ⟨⟨⟨⟨⟨h1, h2⟩, h3⟩, h4⟩, h5⟩, h6⟩ := hg
    refine ⟨?_, hs, h6, h5⟩
    unfold noB
    simp only [Bool.or_eq_false_iff, decide_eq_false_iff_not]
    refine ⟨fun e => ?_, h3⟩
    rw [Lib.size_eq, e] at h1
    simp at h1
theorem not_any {p : ByteArray → Bool} {xs : List ByteArray} (h : xs.any p = false) : ∀ x ∈ xs, p x = false := fun x hx => by
  cases hc : p x with
  | false => rfl
  | true => rw [List.any_eq_true.2 ⟨x, hx, hc⟩] at h; cases h
theorem tg_beg (xs : List ByteArray) : begB (tg xs) = true := by unfold begB; rw [tg_join]; rfl
theorem tgL_zero : ∀ (xs : List (List UInt8)), (∀ x ∈ xs, (0 : UInt8) ∉ x) → (0 : UInt8) ∉ tgL xs
  | [], _ => by simp [tgL]
  | x :: r, h => by
    rw [tgL_cons]
    simp only [List.mem_append, List.mem_cons, not_or]
    exact ⟨⟨by decide, h x (List.mem_cons_self ..)⟩, tgL_zero r (fun y hy => h y (List.mem_cons_of_mem _ hy))⟩
theorem split_tg {xs : List ByteArray} (hb : xs.any badB = false) (hl : xs.length ≤ 64) (hs : (tg xs).size ≤ 1023) : spE (tg xs) = 0 ∧ spN (tg xs) = xs := by
  have hm : ∀ x ∈ xs, noB x = false ∧ x.size ≤ 63 ∧ (47 : UInt8) ∉ x.data.toList ∧ (0 : UInt8) ∉ x.data.toList := fun x hx => ok_mem (not_any hb x hx)
  have hn : nm (tg xs) = xs := nm_tg xs (fun x hx => (hm x hx).2.2.1) (fun x hx => (hm x hx).1)
  have hz : zeroB (tg xs) = false := by
    refine decide_eq_false fun h => ?_
    by_cases h0 : xs = []
    · subst h0; revert h; decide
    · rw [tg_cons h0, data_byteOf] at h
      refine tgL_zero _ (fun y hy => ?_) h
      obtain ⟨z, hz, rfl⟩ := List.mem_map.1 hy
      exact (hm z hz).2.2.2
  have hlong : xs.any longB = false := by
    rw [Bool.eq_false_iff]
    intro h
    obtain ⟨x, hx, hc⟩ := List.any_eq_true.1 h
    have := of_decide_eq_true hc
    have := (hm x hx).2.1
    omega
  have e : spE (tg xs) = 0 := by
    unfold spE
    rw [tg_beg]
    simp only [if_true]
    unfold nmE
    rw [hz, hn, hlong]
    simp only [Bool.false_eq_true, if_false]
    rw [if_neg (by omega), if_neg (by omega)]
  exact ⟨e, by simp only [spN, e, if_true]; exact hn⟩
theorem join_back {xs : List ByteArray} (h : joE xs = 0) : joS xs = tg xs ∧ spE (tg xs) = 0 ∧ spN (tg xs) = xs := by
  have hS : joS xs = tg xs := by simp [joS, h]
  unfold joE at h
  cases hb : xs.any badB with
  | true => rw [hb] at h; simp at h
  | false =>
    rw [hb] at h
    simp only [Bool.false_eq_true, if_false] at h
    by_cases h1 : 64 < xs.length
    · rw [if_pos h1] at h; cases h
    · rw [if_neg h1] at h
      by_cases h2 : 1023 < (tg xs).size
      · rw [if_pos h2] at h; cases h
      · exact ⟨hS, split_tg hb (by omega) (by omega)⟩
theorem trim_idem : ∀ xs : List ByteArray, trim (trim xs) = trim xs
  | [] => rfl
  | x :: r => by
    cases h : upB x with
    | true => rw [trim_up h]; exact trim_idem r
    | false => rw [trim_no h, trim_no h]
/-- What a cleaned path is. -/
theorem clean_back {s : ByteArray} (h : spE s = 0) : clS s = tg (clN s) ∧ spE (tg (clN s)) = 0 ∧ spN (tg (clN s)) = clN s ∧ clS (tg (clN s)) = tg (clN s) := by
  obtain ⟨e1, e2⟩ := split_tg (cl_bad h) (cl_len h) (cl_size h)
  refine ⟨by simp [clS, h], e1, e2, ?_⟩
  have e3 : clN (tg (clN s)) = clN s := by
    show trim (spN (tg (clN s))) = clN s
    rw [e2]; exact trim_idem _
  simp only [clS, e1, if_true]
  rw [e3]
theorem beg_byte {s : ByteArray} (h : begB s = true) : ∃ h0 : 0 < s.size, s[0].toNat = 47 := by
  rcases beg_ways s with ⟨hb, _⟩ | ⟨_, hb, _⟩ | ⟨h1, _, _, h47⟩
  · rw [h] at hb; cases hb
  · rw [h] at hb; cases hb
  · exact ⟨h1, h47⟩
end Go.Proofs.YtmbdacdgbmpedabDoor
