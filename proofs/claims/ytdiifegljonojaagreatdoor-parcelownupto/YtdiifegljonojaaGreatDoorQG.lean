/-
  SEAT YtdiifegljonojaaGreatDoor: Clean; what PathOrder asks.
-/
import Derived.Test.YtdiifegljonojaaGreatDoorQF
namespace Go.Proofs.YtdiifegljonojaaGreatDoor.Pt
open Go.RowKit
set_option linter.unusedVariables false

/-- What a path that may be has. -/
theorem sp_facts {s : ByteArray} (h : spE s = 0) : begB s = true ∧ zeroB s = false ∧ s.size ≤ 1023 ∧ (nm s).length ≤ 64 ∧ (nm s).any longB = false ∧ spN s = nm s := by
  have hn : spN s = nm s := by simp [spN, h]
  unfold spE at h
  cases hb : begB s with
  | false => rw [hb] at h; simp at h
  | true =>
    rw [hb] at h
    simp only [if_true] at h
    unfold nmE at h
    cases hz : zeroB s with
    | true => rw [hz] at h; simp at h
    | false =>
      rw [hz] at h
      simp only [Bool.false_eq_true, if_false] at h
      by_cases h1 : 1023 < s.size
      · rw [if_pos h1] at h; cases h
      · rw [if_neg h1] at h
        by_cases h2 : 64 < (nm s).length
        · rw [if_pos h2] at h; cases h
        · rw [if_neg h2] at h
          cases h3 : (nm s).any longB with
          | true => rw [h3] at h; simp at h
          | false => exact ⟨rfl, rfl, by omega, by omega, rfl, hn⟩
theorem sp_zero {s : ByteArray} (h : spE s = 0) : (0 : UInt8) ∉ s.data.toList := of_decide_eq_false (sp_facts h).2.1
theorem sp_mem {s x : ByteArray} (h : spE s = 0) (hx : x ∈ spN s) : noB x = false ∧ x.size ≤ 63 ∧ (47 : UInt8) ∉ x.data.toList ∧ (0 : UInt8) ∉ x.data.toList := by
  obtain ⟨_, hz, _, _, hl, hn⟩ := sp_facts h
  rw [hn] at hx
  refine ⟨nm_mem_no hx, ?_, nm_slash hx, nm_zero hx (sp_zero h)⟩
  have : longB x = false := by
    cases hc : longB x with
    | false => rfl
    | true => rw [List.any_eq_true.2 ⟨x, hx, hc⟩] at hl; cases hl
  have := of_decide_eq_false this
  omega
theorem mem_bad {x : ByteArray} (h : noB x = false ∧ x.size ≤ 63 ∧ (47 : UInt8) ∉ x.data.toList ∧ (0 : UInt8) ∉ x.data.toList) : badB x = false := by
  obtain ⟨h1, h2, h3, h4⟩ := h
  unfold badB
  cases hu : upB x with
  | true => rfl
  | false =>
    have hup := of_decide_eq_false hu
    unfold noB at h1
    simp only [Bool.or_eq_false_iff, decide_eq_false_iff_not] at h1
    have hsz : 1 ≤ x.size := by
      rcases Nat.eq_zero_or_pos x.size with h0 | h0
      · exfalso; apply h1.1
        exact List.eq_nil_of_length_eq_zero (by rw [← Lib.size_eq]; exact h0)
      · exact h0
    have hg : Good x = true := by
      unfold Good HasB
      rw [toList_data]
      simp only [hsz, h2, h1.2, hup, h3, h4, decide_true, decide_false, Bool.and_self, Bool.not_false]
    simp [hg]
theorem trim_mem {xs : List ByteArray} {x : ByteArray} (h : x ∈ trim xs) : x ∈ xs := (List.dropWhile_sublist upB).mem h
theorem trim_len (xs : List ByteArray) : (trim xs).length ≤ xs.length := (List.dropWhile_sublist upB).length_le
theorem trim_sum (xs : List ByteArray) : ((trim xs).map fun x => x.size + 1).sum ≤ (xs.map fun x => x.size + 1).sum := by
  induction xs with
  | nil => exact Nat.le_refl _
  | cons x r ih =>
    cases h : upB x with
    | true => rw [trim_up h]; simp only [List.map_cons, List.sum_cons]; omega
    | false => rw [trim_no h]; exact Nat.le_refl _
/-- The names that Clean puts together. -/
def clN (s : ByteArray) : List ByteArray := trim (spN s)
def clS (s : ByteArray) : ByteArray := if spE s = 0 then tg (clN s) else ⟨#[]⟩
theorem cl_mem {s x : ByteArray} (h : spE s = 0) (hx : x ∈ clN s) : noB x = false ∧ x.size ≤ 63 ∧ (47 : UInt8) ∉ x.data.toList ∧ (0 : UInt8) ∉ x.data.toList := sp_mem h (trim_mem hx)
theorem cl_bad {s : ByteArray} (h : spE s = 0) : (clN s).any badB = false := by
  rw [Bool.eq_false_iff]
  intro hc
  obtain ⟨x, hx, hb⟩ := List.any_eq_true.1 hc
  rw [mem_bad (cl_mem h hx)] at hb; cases hb
theorem cl_len {s : ByteArray} (h : spE s = 0) : (clN s).length ≤ 64 := by
  have := trim_len (spN s)
  have h2 := (sp_facts h).2.2.2.1
  rw [← (sp_facts h).2.2.2.2.2] at h2
  unfold clN; omega
theorem cl_size {s : ByteArray} (h : spE s = 0) : (tg (clN s)).size ≤ 1023 := by
  obtain ⟨hb, _, hs, _, _, hn⟩ := sp_facts h
  have h1 := trim_sum (spN s)
  have h2 := nm_sum s hb
  rw [hn] at h1
  rw [tg_size]
  unfold clN
  split
  · omega
  · rw [hn]; omega
theorem cl_join {s : ByteArray} (h : spE s = 0) : joE (clN s) = 0 ∧ joS (clN s) = tg (clN s) := by
  have h1 := cl_bad h; have h2 := cl_len h; have h3 := cl_size h
  have e : joE (clN s) = 0 := by
    unfold joE
    rw [h1]
    simp only [Bool.false_eq_true, if_false]
    rw [if_neg (by omega), if_neg (by omega)]
  exact ⟨e, by simp [joS, e]⟩

set_option maxHeartbeats 1000000 in
set_option maxRecDepth 100000 in
theorem clean_any (s : ByteArray) (w : World) (hs : s.size ≤ 9223372036854775807) : Calls Tryz.prog 34 #[.string s] w fun e w' => e = .returned (.tuple #[.string (clS s), .int .i64 (spE s)]) ∧ Below w.heap.size w w' := by
  by_cases h1 : spE s = 0
  · obtain ⟨hj1, hj2⟩ := cl_join h1
    have hS : clS s = tg (clN s) := by simp [clS, h1]
    have hbd : ∀ x ∈ clN s, x.size ≤ 9223372036854775807 := fun x hx => by have := (cl_mem h1 hx).2.1; omega
    obtain ⟨N, hN⟩ : ∃ N, clN s = N := ⟨_, rfl⟩
    have hN' : trim (spN s) = N := hN
    rw [h1, hS]
    rw [hN] at hj1 hj2 hbd ⊢
    obtain ⟨Tg, hT⟩ : ∃ Tg, tg N = Tg := ⟨_, rfl⟩
    rw [hT] at hj2 ⊢
    go_enter Tryz.func34, Tryz.ntmps34
    go_wp2_with (first
      | (go_at_call 57; refine (cleaned_any s _ hs).mono ?_; rintro e u ⟨v, rfl, vw, bel⟩; rw [h1]; rw [hN'] at vw; have V1 : Hid (Vw u v N) := vw; have HB1 : Hid (Below w.heap.size w u) := bel; clear vw bel)
      | (go_at_call 58; refine (join_any _ N _ V1.out hbd).mono ?_; rintro e u2 ⟨rfl, bel⟩; rw [hj1, hj2]; have HB2 : Hid (Below u.heap.size u u2) := bel; clear bel))
    go_ret2
    exact ⟨rfl, HB1.out.trans (HB2.out.mono HB1.out.size)⟩
  · have hS : clS s = ⟨#[]⟩ := by simp [clS, h1]
    obtain ⟨E, hE⟩ : ∃ E, spE s = E := ⟨_, rfl⟩
    rw [hE] at h1
    have he : (E == 0) = false := by simpa using h1
    rw [hS, hE]
    go_enter Tryz.func34, Tryz.ntmps34
    go_wp2_with (go_at_call 57; refine (cleaned_any s _ hs).mono ?_; rintro e u ⟨v, rfl, vw, bel⟩; rw [hE]; have HB1 : Hid (Below w.heap.size w u) := bel; clear vw bel)
    go_ret2
    exact ⟨rfl, HB1.out⟩

theorem tgA_len (xs : List ByteArray) : (tgA xs).length = (xs.map fun x => x.size + 1).sum := by
  unfold tgA
  rw [tgL_len, List.map_map]; rfl
set_option maxHeartbeats 1000000 in
set_option maxRecDepth 100000 in
theorem rclean_any (s : ByteArray) (w : World) (hs : s.size ≤ 9223372036854775807) : Calls Tryz.prog 75 #[.string s] w fun e w' => e = .returned (.tuple #[.string (clS s), .int .i64 (spE s)]) ∧ Below w.heap.size w w' := by
  by_cases h1 : spE s = 0
  · have hS : clS s = tg (clN s) := by simp [clS, h1]
    have hsm : (tgA (clN s)).length ≤ 1048576 := by
      rw [tgA_len]
      obtain ⟨hb, _, hsz, _, _, hn⟩ := sp_facts h1
      have h1 := trim_sum (spN s)
      have h2 := nm_sum s hb
      rw [hn] at h1
      unfold clN
      rw [hn]; omega
    obtain ⟨N, hN⟩ : ∃ N, clN s = N := ⟨_, rfl⟩
    have hN' : trim (spN s) = N := hN
    rw [h1, hS]
    rw [hN] at hsm ⊢
    obtain ⟨Tg, hT⟩ : ∃ Tg, tg N = Tg := ⟨_, rfl⟩
    rw [hT]
    go_enter Tryz.func75, Tryz.ntmps75
    go_wp2_with (first
      | (go_at_call 76; refine (rsplit_any s _ hs).mono ?_; rintro e u ⟨v, rfl, ow, bel⟩; rw [h1]; have V1 : Hid (Vw u v (spN s)) := ow.vw; have HB1 : Hid (Below w.heap.size w u) := bel; clear ow bel)
      | (go_at_call 93; refine (trimmed_any _ _ _ V1.out).mono ?_; rintro e u2 ⟨v2, rfl, vw, hu⟩; rw [hu]; clear hu; rw [hN'] at vw; have V2 : Hid (Vw u v2 N) := vw; clear vw)
      | (go_at_call 92; refine (together_any _ N _ V2.out hsm).mono ?_; rintro e u3 ⟨rfl, hu⟩; rw [hu, hT]; clear hu))
    go_ret2
    exact ⟨rfl, HB1.out⟩
  · have hS : clS s = ⟨#[]⟩ := by simp [clS, h1]
    obtain ⟨E, hE⟩ : ∃ E, spE s = E := ⟨_, rfl⟩
    rw [hE] at h1
    have he : (E == 0) = false := by simpa using h1
    rw [hS, hE]
    go_enter Tryz.func75, Tryz.ntmps75
    go_wp2_with (go_at_call 76; refine (rsplit_any s _ hs).mono ?_; rintro e u ⟨v, rfl, vw, bel⟩; rw [hE]; have HB1 : Hid (Below w.heap.size w u) := bel; clear vw bel)
    go_ret2
    exact ⟨rfl, HB1.out⟩
end Go.Proofs.YtdiifegljonojaaGreatDoor.Pt
