/-
  SEAT YtnjcjaaciphcgaaDoor: the reference's Read: its lines, one by one (plain), and a line's words.
-/
import Derived.Test.YtnjcjaaciphcgaaDoorWf
namespace Go.Proofs.YtnjcjaaciphcgaaDoor
open Go.RowKit Go.Sort
set_option linter.unusedVariables false

/-- What a head that is read up to a line comes to. -/
def cont6 (r : Rp) (L : List UInt8) : Option Rp × Nat := ((rowsE L).1.map (fun fs => ⟨r.fl, r.c, r.l, r.u, r.b, r.s, fs⟩), 6 + (rowsE L).2)
def cont5 (r : Rp) (L : List UInt8) : Option Rp × Nat := match sv L with
  | none => (none, 6)
  | some x => cont6 ⟨r.fl, r.c, r.l, r.u, r.b, x, r.fs⟩ (nx L)
def cont4 (r : Rp) (L : List UInt8) : Option Rp × Nat := match nb L wB with
  | none => (none, 5)
  | some x => cont5 ⟨r.fl, r.c, r.l, r.u, x, r.s, r.fs⟩ (nx L)
def cont3 (r : Rp) (L : List UInt8) : Option Rp × Nat := match nb L wU with
  | none => (none, 4)
  | some x => cont4 ⟨r.fl, r.c, r.l, x, r.b, r.s, r.fs⟩ (nx L)
def cont2 (r : Rp) (L : List UInt8) : Option Rp × Nat := match nb L wL with
  | none => (none, 3)
  | some x => cont3 ⟨r.fl, r.c, x, r.u, r.b, r.s, r.fs⟩ (nx L)
def cont1 (r : Rp) (L : List UInt8) : Option Rp × Nat := match nb L wC with
  | none => (none, 2)
  | some x => cont2 ⟨r.fl, x, r.l, r.u, r.b, r.s, r.fs⟩ (nx L)
def cont0 (r : Rp) (L : List UInt8) : Option Rp × Nat := match flr L with
  | none => (none, 1)
  | some x => cont1 ⟨x, r.c, r.l, r.u, r.b, r.s, r.fs⟩ (nx L)
def cont : Nat → Rp → List UInt8 → Option Rp × Nat
  | 0 => cont0
  | 1 => cont1
  | 2 => cont2
  | 3 => cont3
  | 4 => cont4
  | 5 => cont5
  | _ => cont6
theorem rp_cont (l : List UInt8) : rp l = cont 0 ⟨0, 0, 0, 0, 0, false, []⟩ l := by
  show rp l = cont0 _ l
  unfold rp cont0
  cases flr l with
  | none => rfl
  | some y0 =>
    simp only
    unfold cont1
    cases nb (nx l) wC with
    | none => rfl
    | some y1 =>
      simp only
      unfold cont2
      cases nb (nx (nx l)) wL with
      | none => rfl
      | some y2 =>
        simp only
        unfold cont3
        cases nb (nx (nx (nx l))) wU with
        | none => rfl
        | some y3 =>
          simp only
          unfold cont4
          cases nb (nx (nx (nx (nx l)))) wB with
          | none => rfl
          | some y4 =>
            simp only
            unfold cont5
            cases sv (nx (nx (nx (nx (nx l))))) with
            | none => rfl
            | some y5 => rfl

theorem ln_len (l : List UInt8) : (ln l).1.length ≤ l.length ∧ (ln l).2.length ≤ l.length := by
  unfold ln
  split
  · rename_i h
    have e := congrArg List.length (cut_join l h)
    simp at e
    refine ⟨by simp; omega, nx_le l⟩
  · exact ⟨Nat.le_refl _, by simp⟩
theorem thOk_not {l : List UInt8} {m : Nat} (h : (thL l).length ≠ m) : thOk l m = false := by
  unfold thOk
  simp [h]
theorem bh_short {l : List UInt8} (h : (thL l).length ≠ 2) (word : List UInt8) : bh l word = none := by
  unfold bh
  rw [thOk_not h, if_neg (fun h => by cases h.1)]
theorem flr_short {l : List UInt8} (h : (thL l).length ≠ 2) : flr l = none := by unfold flr; rw [bh_short h]; rfl
theorem nb_short {l : List UInt8} (h : (thL l).length ≠ 2) (word : List UInt8) : nb l word = none := by unfold nb; rw [bh_short h]; rfl
theorem sv_short {l : List UInt8} (h : (thL l).length ≠ 2) : sv l = none := by unfold sv; rw [bh_short h]; rfl
theorem fd_short {l : List UInt8} (h : (thL l).length ≠ 4) : fdOf l = none := by
  unfold fdOf
  rw [thOk_not h, if_neg (fun h => by cases h)]
theorem rest_of {L a x : List UInt8} (h : lineB [a, x] = (ln L).1) : (ln L).2 = nx L := ln_rest (ln_end (h.symm.trans (line2_end a x)))
theorem rest_row {L : List UInt8} {f : Fd} (h : rowB f = (ln L).1) : (ln L).2 = nx L := ln_rest (ln_end (h.symm.trans (row_end f)))
theorem flr_none {L t0 t1 : List UInt8} (hT : thL L = [t0, t1]) (hu : un t1 = none) : flr L = none := by
  rw [flr_ln, hT]
  refine if_neg (fun h => ?_)
  have h2 : (un t1).isSome = true := h.2
  rw [hu] at h2
  cases h2
theorem flr_yes {L t0 t1 : List UInt8} {v : Nat} (hT : thL L = [t0, t1]) (hu : un t1 = some v) (h : lineB [fw, Lib.decDigits v] = (ln L).1) : flr L = some v := by
  rw [flr_ln, hT]
  show (if (ln L).1 = lineB [fw, Lib.decDigits ((un t1).getD 0)] ∧ (un t1).isSome = true then some ((un t1).getD 0) else _) = _
  rw [hu, if_pos ⟨h.symm, rfl⟩]
  rfl
theorem flr_no {L t0 t1 : List UInt8} {v : Nat} (hT : thL L = [t0, t1]) (hu : un t1 = some v) (h : lineB [fw, Lib.decDigits v] ≠ (ln L).1) : flr L = none := by
  rw [flr_ln, hT]
  show (if (ln L).1 = lineB [fw, Lib.decDigits ((un t1).getD 0)] ∧ (un t1).isSome = true then some ((un t1).getD 0) else _) = _
  rw [hu, if_neg (fun k => h k.1.symm)]
theorem nb_yes {L t0 t1 word : List UInt8} (hw : Fr word) (hT : thL L = [t0, t1]) (h : lineB [word, Lib.itoa (rn t1)] = (ln L).1) : nb L word = some (rn t1) := by
  rw [nb_ln hw, hT]
  exact if_pos h.symm
theorem nb_no {L t0 t1 word : List UInt8} (hw : Fr word) (hT : thL L = [t0, t1]) (h : lineB [word, Lib.itoa (rn t1)] ≠ (ln L).1) : nb L word = none := by
  rw [nb_ln hw, hT]
  exact if_neg (fun k => h k.symm)
theorem sv_yes {L t0 t1 : List UInt8} {y : Bool} (hT : thL L = [t0, t1]) (hy : (t1 == [121, 101, 115]) = y) (h : lineB [[115, 97, 118, 101, 100], savedB y] = (ln L).1) : sv L = some y := by
  have e : decide (t1 = [121, 101, 115]) = y := by rw [← hy]; by_cases h9 : t1 = [121, 101, 115] <;> simp [h9]
  rw [sv_ln, hT]
  show (if (ln L).1 = lineB [[115, 97, 118, 101, 100], savedB (decide (t1 = [121, 101, 115]))] then some (decide (t1 = [121, 101, 115])) else none) = _
  rw [e, if_pos h.symm]
theorem sv_no {L t0 t1 : List UInt8} {y : Bool} (hT : thL L = [t0, t1]) (hy : (t1 == [121, 101, 115]) = y) (h : lineB [[115, 97, 118, 101, 100], savedB y] ≠ (ln L).1) : sv L = none := by
  have e : decide (t1 = [121, 101, 115]) = y := by rw [← hy]; by_cases h9 : t1 = [121, 101, 115] <;> simp [h9]
  rw [sv_ln, hT]
  show (if (ln L).1 = lineB [[115, 97, 118, 101, 100], savedB (decide (t1 = [121, 101, 115]))] then some (decide (t1 = [121, 101, 115])) else none) = _
  rw [e, if_neg (fun k => h k.symm)]
theorem un_lt {x : List UInt8} {v : Nat} (hu : un x = some v) : v < 18446744073709551616 := by
  unfold un at hu
  split at hu
  · rename_i z hz
    obtain rfl := Option.some.inj hu
    exact Lib.parseMag_lt hz
  · cases hu
theorem wFr : Fr wC ∧ Fr wL ∧ Fr wU ∧ Fr wB := ⟨⟨by decide, by decide⟩, ⟨by decide, by decide⟩, ⟨by decide, by decide⟩, ⟨by decide, by decide⟩⟩

theorem own9 {w : World} {B n : Nat} {v : Value} {xs : List Value} (h : w.ownsRow B 9 1 v n xs) : ∃ a c, v = .slice a n c := by
  rcases h.2 with ⟨hv, h0⟩ | ⟨g, cap, cur, hv, _⟩
  · exact ⟨none, 0, by rw [hv, h0]⟩
  · exact ⟨_, _, hv⟩
theorem own9_pos {w : World} {B n : Nat} {v : Value} {xs : List Value} (h : w.ownsRow B 9 1 v n xs) (hn : 0 < n) : ∃ g c, v = .slice (some ⟨g, 0, none⟩) n c := by
  rcases h.2 with ⟨hv, h0⟩ | ⟨g, cap, cur, hv, _⟩
  · omega
  · exact ⟨_, _, hv⟩
theorem words_len (S : List UInt8) (m : Nat) (hm : (thL S).length = m) (u : World) (hl : S.length < 4294967281) :
    Calls Tryd.prog 25 #[.string ⟨S.toArray⟩] u fun e w' => ∃ a c, e = .returned (.slice a m c) ∧ Below u.heap.size u w' := by
  refine (words_any S u hl).mono ?_
  rintro e w' ⟨v, he, ho, hb⟩
  rw [hm] at ho
  obtain ⟨a, c, rfl⟩ := own9 ho
  exact ⟨a, c, he, hb⟩
theorem words_two (S t0 t1 : List UInt8) (hT : thL S = [t0, t1]) (u : World) (hl : S.length < 4294967281) :
    Calls Tryd.prog 25 #[.string ⟨S.toArray⟩] u fun e w' => ∃ g c, e = .returned (.slice (some ⟨g, 0, none⟩) 2 c) ∧ w'.cell? ⟨g, 0, none⟩ = some (.string ⟨t0.toArray⟩) ∧ w'.cell? ⟨g, 1, none⟩ = some (.string ⟨t1.toArray⟩) ∧ Below u.heap.size u w' := by
  refine (words_any S u hl).mono ?_
  rintro e w' ⟨v, he, ho, hb⟩
  rw [hT] at ho
  have ho2 : w'.ownsRow u.heap.size 9 1 v 2 (strV [t0, t1]) := ho
  obtain ⟨g, c, rfl⟩ := own9_pos ho2 (by omega)
  exact ⟨g, c, he, ho2.cellAt 0 (by omega), ho2.cellAt 1 (by omega), hb⟩
theorem words_four (S t0 t1 t2 t3 : List UInt8) (hT : thL S = [t0, t1, t2, t3]) (u : World) (hl : S.length < 4294967281) :
    Calls Tryd.prog 25 #[.string ⟨S.toArray⟩] u fun e w' => ∃ g c, e = .returned (.slice (some ⟨g, 0, none⟩) 4 c) ∧ w'.cell? ⟨g, 0, none⟩ = some (.string ⟨t0.toArray⟩) ∧ w'.cell? ⟨g, 1, none⟩ = some (.string ⟨t1.toArray⟩) ∧ w'.cell? ⟨g, 2, none⟩ = some (.string ⟨t2.toArray⟩) ∧ w'.cell? ⟨g, 3, none⟩ = some (.string ⟨t3.toArray⟩) ∧ u.heap.size ≤ g ∧ Below u.heap.size u w' := by
  refine (words_any S u hl).mono ?_
  rintro e w' ⟨v, he, ho, hb⟩
  rw [hT] at ho
  have ho2 : w'.ownsRow u.heap.size 9 1 v 4 (strV [t0, t1, t2, t3]) := ho
  obtain ⟨g, c, rfl⟩ := own9_pos ho2 (by omega)
  exact ⟨g, c, he, ho2.cellAt 0 (by omega), ho2.cellAt 1 (by omega), ho2.cellAt 2 (by omega), ho2.cellAt 3 (by omega), (ho2.lt g rfl).1, hb⟩
/-- The words of a line are not longer than the line. -/
theorem pp_mem_len (s : List UInt8) : ∀ w x, x ∈ pp w s → x.length ≤ w.length + s.length := by
  induction s with
  | nil =>
    intro w x h
    simp [pp] at h
    rw [h]
    simp
  | cons b r ih =>
    intro w x h
    unfold pp at h
    split at h
    · rcases List.mem_cons.1 h with h | h
      · rw [h]; omega
      · have := ih [] x h
        simp at this ⊢
        omega
    · have := ih _ x h
      simp at this ⊢
      omega
theorem word_len {L x : List UInt8} (h : x ∈ thL L) : x.length ≤ L.length := by
  have h1 := pp_mem_len _ _ _ h
  have h2 := (cut_len L).1
  simp at h1
  omega

end Go.Proofs.YtnjcjaaciphcgaaDoor
