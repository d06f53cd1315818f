/-
  SEAT YtnjcjaaciphcgaaDoor: a line as the reference holds it against what would be shown (plain lists).
-/
import Derived.Test.YtnjcjaaciphcgaaDoorWd
namespace Go.Proofs.YtnjcjaaciphcgaaDoor
open Go.RowKit Go.Sort
set_option linter.unusedVariables false

theorem ln_cut (l : List UInt8) : (cutN (ln l).1).1 = (cutN l).1 := by
  unfold ln
  split
  · rename_i h
    simp only
    rw [show (cutN l).1 ++ [10] = (cutN l).1 ++ 10 :: [] from rfl, cut_line _ _ (cut_free l)]
  · rfl
theorem ln_th (l : List UInt8) : thL (ln l).1 = thL l := by
  unfold thL
  rw [ln_cut]
theorem ln_rest {l : List UInt8} (h : (cutN l).2.2 = true) : (ln l).2 = nx l := by
  unfold ln
  rw [if_pos h]
theorem ln_of {l a r : List UInt8} (ha : (10 : UInt8) ∉ a) (h : l = a ++ 10 :: r) : (ln l).1 = a ++ [10] ∧ (ln l).2 = r ∧ (cutN l).2.2 = true := by
  have hc := cut_line a r ha
  rw [← h] at hc
  unfold ln nx
  rw [hc]
  exact ⟨rfl, rfl, rfl⟩
/-- A line that ends as a line does was found whole. -/
theorem ln_end {l a : List UInt8} (h : (ln l).1 = a ++ [10]) : (cutN l).2.2 = true := by
  cases hc : (cutN l).2.2 with
  | true => rfl
  | false =>
    have h1 : (ln l).1 = l := by unfold ln; rw [hc]; rfl
    have h2 : (cutN l).1 = l := by
      rcases cut_index l with ⟨_, h3⟩ | ⟨i, _, _, h3⟩
      · rw [h3]
      · rw [h3] at hc; cases hc
    have h4 := cut_free l
    rw [h2, ← h1, h] at h4
    exact absurd (by simp) h4
theorem line2_end (a b : List UInt8) : lineB [a, b] = (a ++ 32 :: b) ++ [10] := by rw [line2]; simp
theorem bh_ln {l word : List UInt8} (hw : Fr word) {x : List UInt8} (hx : Fr x) : (ln l).1 = lineB [word, x] ↔ bh l word = some x := by
  constructor
  · intro h
    have hf := ln_end (h.trans (line2_end word x))
    have ht := ln_th l
    have h2 := (line2_th hw hx []).2
    rw [List.append_nil] at h2
    rw [h, h2] at ht
    unfold bh thOk
    rw [← ht, hf]
    simp
  · intro h
    have h1 := bh_sound h
    have h2 : l = (word ++ 32 :: x) ++ 10 :: nx l := by
      conv => lhs; rw [h1, line2_end]
      simp
    rw [(ln_of (not10 hw.2 hx.2) h2).1, line2_end]
theorem nb_ln {l word : List UInt8} (hw : Fr word) : nb l word = if (ln l).1 = lineB [word, Lib.itoa (rn ((thL l).getD 1 []))] then some (rn ((thL l).getD 1 [])) else none := by
  split
  · rename_i h
    have h1 := (bh_ln hw (fr_itoa _)).1 h
    unfold nb
    rw [h1]
    exact numOf_itoa _ (rn_in _)
  · rename_i h
    cases hn : nb l word with
    | none => rfl
    | some n =>
      obtain ⟨h1, h2⟩ := nb_sound hn
      have e : l = (word ++ 32 :: Lib.itoa n) ++ 10 :: nx l := by
        conv => lhs; rw [h1, line2_end]
        simp
      have ht : thL l = [word, Lib.itoa n] := by rw [h1]; exact (line2_th hw (fr_itoa n) _).2
      exfalso
      apply h
      rw [ht]
      show (ln l).1 = lineB [word, Lib.itoa (rn (Lib.itoa n))]
      rw [rn_itoa n h2, (ln_of (not10 hw.2 (fr_itoa n).2) e).1, line2_end]

theorem sv_ln (l : List UInt8) : sv l = if (ln l).1 = lineB [[115, 97, 118, 101, 100], savedB (decide ((thL l).getD 1 [] = [121, 101, 115]))] then some (decide ((thL l).getD 1 [] = [121, 101, 115])) else none := by
  have hw : Fr [115, 97, 118, 101, 100] := ⟨by decide, by decide⟩
  split
  · rename_i h
    have h1 := (bh_ln hw (fr_saved _)).1 h
    unfold sv
    rw [h1]
    cases decide ((thL l).getD 1 [] = [121, 101, 115]) <;> rfl
  · rename_i h
    cases hn : sv l with
    | none => rfl
    | some b =>
      have h1 := sv_sound hn
      have e : l = ([115, 97, 118, 101, 100] ++ 32 :: savedB b) ++ 10 :: nx l := by
        conv => lhs; rw [h1, line2_end]
        simp
      have ht : thL l = [[115, 97, 118, 101, 100], savedB b] := by rw [h1]; exact (line2_th hw (fr_saved b) _).2
      exfalso
      apply h
      rw [ht]
      have hb : decide (([[115, 97, 118, 101, 100], savedB b] : List (List UInt8)).getD 1 [] = [121, 101, 115]) = b := by cases b <;> rfl
      rw [hb, (ln_of (not10 hw.2 (fr_saved b).2) e).1, line2_end]
theorem flr_ln (l : List UInt8) : flr l = if (ln l).1 = lineB [fw, Lib.decDigits ((un ((thL l).getD 1 [])).getD 0)] ∧ (un ((thL l).getD 1 [])).isSome = true then some ((un ((thL l).getD 1 [])).getD 0) else none := by
  have hw : Fr fw := ⟨by decide, by decide⟩
  split
  · rename_i h
    have h1 := (bh_ln hw (fr_dec _)).1 h.1
    have hlt : (un ((thL l).getD 1 [])).getD 0 < 18446744073709551616 := by
      cases hu : un ((thL l).getD 1 []) with
      | none => simp
      | some u =>
        unfold un at hu
        split at hu
        · rename_i v hv
          obtain rfl := Option.some.inj hu
          exact Lib.parseMag_lt hv
        · cases hu
    unfold flr
    rw [h1]
    exact uOf_dec _ hlt
  · rename_i h
    cases hn : flr l with
    | none => rfl
    | some n =>
      obtain ⟨h1, h2⟩ := flr_sound hn
      have e : l = (fw ++ 32 :: Lib.decDigits n) ++ 10 :: nx l := by
        conv => lhs; rw [h1, line2_end]
        simp
      have ht : thL l = [fw, Lib.decDigits n] := by rw [h1]; exact (line2_th hw (fr_dec n) _).2
      exfalso
      apply h
      rw [ht]
      show (ln l).1 = lineB [fw, Lib.decDigits ((un (Lib.decDigits n)).getD 0)] ∧ (un (Lib.decDigits n)).isSome = true
      rw [un_dec n h2]
      exact ⟨by rw [(ln_of (not10 hw.2 (fr_dec n).2) e).1, line2_end]; rfl, rfl⟩
theorem row_end (f : Fd) : rowB f = (kindB f.k ++ 32 :: (Lib.itoa f.b ++ 32 :: (Lib.itoa f.p ++ 32 :: Lib.itoa f.o))) ++ [10] := by unfold rowB; rw [line4]; simp
theorem row_no (f : Fd) : (10 : UInt8) ∉ kindB f.k ++ 32 :: (Lib.itoa f.b ++ 32 :: (Lib.itoa f.p ++ 32 :: Lib.itoa f.o)) := not10 (fr_kind _).2 (not10 (fr_itoa _).2 (not10 (fr_itoa _).2 (fr_itoa _).2))
/-- The finding that the reference makes of a line's words. -/
def rf (l : List UInt8) : Fd := ⟨rk ((thL l).getD 0 []), rn ((thL l).getD 1 []), rn ((thL l).getD 2 []), rn ((thL l).getD 3 [])⟩
theorem rf_ok (l : List UInt8) : (rf l).Ok := ⟨rk_in _, rn_in _, rn_in _, rn_in _⟩
theorem rk_kind (k : Int) (h : In k) : rk (kindB k) = k := by
  have h1 := kd_kind k h
  rw [kd_rk] at h1
  split at h1
  · exact Option.some.inj h1
  · cases h1
theorem fd_ln (l : List UInt8) : fdOf l = if (ln l).1 = rowB (rf l) then some (rf l) else none := by
  split
  · rename_i h
    have hf := ln_end (h.trans (row_end _))
    have hl : l = rowB (rf l) ++ nx l := by
      have h2 : (ln l).1 = (cutN l).1 ++ [10] := by unfold ln; rw [if_pos hf]
      have h3 := cut_join l hf
      rw [← h, h2]
      conv => lhs; rw [h3]
      unfold nx
      simp
    have h4 := (fd_row (rf l) (rf_ok l) (nx l)).1
    rw [← hl] at h4
    exact h4
  · rename_i h
    cases hn : fdOf l with
    | none => rfl
    | some f =>
      obtain ⟨h1, h2⟩ := fd_sound hn
      have e : l = (kindB f.k ++ 32 :: (Lib.itoa f.b ++ 32 :: (Lib.itoa f.p ++ 32 :: Lib.itoa f.o))) ++ 10 :: nx l := by
        conv => lhs; rw [h1, row_end]
        simp
      have ht : thL l = [kindB f.k, Lib.itoa f.b, Lib.itoa f.p, Lib.itoa f.o] := by
        rw [h1]
        exact (line4_th (fr_kind _) (fr_itoa _) (fr_itoa _) (fr_itoa _) _).2
      have hr : rf l = f := by
        unfold rf
        rw [ht]
        show (⟨rk (kindB f.k), rn (Lib.itoa f.b), rn (Lib.itoa f.p), rn (Lib.itoa f.o)⟩ : Fd) = f
        rw [rk_kind _ h2.1, rn_itoa _ h2.2.1, rn_itoa _ h2.2.2.1, rn_itoa _ h2.2.2.2]
      exfalso
      apply h
      rw [hr, (ln_of (row_no f) e).1, row_end]

end Go.Proofs.YtnjcjaaciphcgaaDoor
