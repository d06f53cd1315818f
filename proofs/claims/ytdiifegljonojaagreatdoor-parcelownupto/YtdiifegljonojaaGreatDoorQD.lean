/-
  SEAT YtdiifegljonojaaGreatDoor: names without those ahead that lead above the root.
-/
import Derived.Test.YtdiifegljonojaaGreatDoorQC
namespace Go.Proofs.YtdiifegljonojaaGreatDoor.Pt
open Go.RowKit
set_option linter.unusedVariables false

def trim (xs : List ByteArray) : List ByteArray := xs.dropWhile upB
theorem trim_up {x : ByteArray} {xs : List ByteArray} (h : upB x = true) : trim (x :: xs) = trim xs := by simp [trim, h]
theorem trim_no {x : ByteArray} {xs : List ByteArray} (h : upB x = false) : trim (x :: xs) = x :: xs := by simp [trim, h]
theorem up_list (x : ByteArray) : upB x = true ↔ x.toList = [46, 46] := by rw [toList_data]; unfold upB; simp

/-- A slice of texts that is read. -/
def Vw (w : World) (v : Value) (xs : List ByteArray) : Prop :=
  ∃ a c, v = .slice a xs.length c ∧ xs.length ≤ c ∧ c ≤ maxLen ∧ RdS w a xs.length xs ∧ ∀ x, a = some x → ∃ b o, x = ⟨b, o, none⟩
theorem Ow.vw {w : World} {B : Nat} {v : Value} {xs : List ByteArray} (h : Ow w B v xs) : Vw w v xs := by
  obtain ⟨a, c, hv, h1, h2, rd⟩ := h.rd
  refine ⟨a, c, hv, h1, h2, rd, fun x hx => ?_⟩
  rcases h.2 with ⟨e, _⟩ | ⟨g, cap, cur, e, _⟩
  · rw [hv] at e; injection e with e; rw [hx] at e; cases e
  · rw [hv] at e; injection e with e; rw [hx] at e; injection e with e; exact ⟨g, 0, e⟩
theorem Vw.below {w w' : World} {v : Value} {xs : List ByteArray} (h : Vw w v xs) (hb : Below w.heap.size w w') : Vw w' v xs := by
  obtain ⟨a, c, hv, h1, h2, rd, hx⟩ := h
  exact ⟨a, c, hv, h1, h2, rd.below hb, hx⟩
def lenV : Value → Nat
  | .slice _ n _ => n
  | _ => 0

theorem vw_tail {w : World} {b o c : Nat} {y : ByteArray} {r : List ByteArray} (rd : RdS w (some ⟨b, o, none⟩) (r.length + 1) (y :: r)) (h1 : r.length + 1 ≤ c) (h2 : c ≤ maxLen) :
    Vw w (.slice (if c = 1 then some ⟨b, o, none⟩ else some ⟨b, o + 1, none⟩) r.length (c - 1)) r := by
  refine ⟨_, _, rfl, by omega, by omega, ?_, ?_⟩
  · by_cases hc : c = 1
    · have hr : r = [] := List.eq_nil_of_length_eq_zero (by omega)
      subst hr
      exact ⟨rfl, fun _ => rfl, fun x _ j u hj => by cases hj⟩
    · rw [if_neg hc]; exact rd.tail
  · intro x hx
    split at hx <;> (injection hx with hx; exact ⟨_, _, hx.symm⟩)

set_option maxHeartbeats 1000000 in
set_option maxRecDepth 100000 in
theorem trimmed_any (v : Value) (xs : List ByteArray) (w : World) (h : Vw w v xs) : Calls Tryz.prog 93 #[v] w fun e w' => ∃ v', e = .returned v' ∧ Vw w v' (trim xs) ∧ w' = w := by
  go_enter Tryz.func93, Tryz.ntmps93
  go_wp2
  go_loopw [0] (fun l wr => ∃ ys, Vw w l ys ∧ trim ys = trim xs ∧ wr = w) (fun l _ => lenV l)
  case atStart => exact ⟨xs, h, rfl, rfl⟩
  case round =>
    obtain ⟨ys, hv, ht, rfl⟩ := hrel
    obtain ⟨a, c, rfl, h1, h2, rd, hx⟩ := hv
    clear h
    cases ys with
    | nil =>
      have HT : Hid (trim [] = trim xs) := ht
      clear ht
      have HV : Hid (Vw wr (.slice a 0 c) []) := ⟨a, c, rfl, h1, h2, rd, hx⟩
      simp only [List.length_nil]
      clear rd hx
      go_wp2
      go_ret
      refine ⟨_, rfl, ?_, rfl⟩
      rw [← HT.out]; exact HV.out
    | cons y r =>
      cases a with
      | none => have := rd.nil rfl; simp at this
      | some x =>
        obtain ⟨b, o, rfl⟩ := hx x rfl
        have hc := rd.cell _ rfl 0 y rfl
        rw [add_zero, Nat.add_zero] at hc
        have HR : Hid (RdS wr (some ⟨b, o, none⟩) (r.length + 1) (y :: r)) := rd
        have HT : Hid (trim (y :: r) = trim xs) := ht
        simp only [List.length_cons] at *
        clear rd ht hx
        cases hu : upB y with
        | true =>
          have hl : y.toList = [46, 46] := (up_list y).1 hu
          go_wp2
          refine ⟨⟨r, vw_tail HR.out h1 h2, by rw [← HT.out, trim_up hu], by simp⟩, by simp [lenV]⟩
        | false =>
          have hl : ¬ y.toList = [46, 46] := fun e => by rw [(up_list y).2 e] at hu; cases hu
          have hl2 : (y.toList == [46, 46]) = false := by simp [hl]
          have HU : Hid (upB y = false) := hu
          clear hu
          go_wp2
          go_ret
          refine ⟨_, rfl, ?_, rfl⟩
          rw [← HT.out, trim_no HU.out]
          exact ⟨_, _, rfl, h1, h2, HR.out, fun x hx => by cases hx; exact ⟨_, _, rfl⟩⟩

set_option maxHeartbeats 1000000 in
set_option maxRecDepth 100000 in
theorem cleaned_any (s : ByteArray) (w : World) (hs : s.size ≤ 9223372036854775807) : Calls Tryz.prog 57 #[.string s] w fun e w' => ∃ v, e = .returned (.tuple #[v, .int .i64 (spE s)]) ∧ Vw w' v (trim (spN s)) ∧ Below w.heap.size w w' := by
  obtain ⟨E, hE⟩ : ∃ E, spE s = E := ⟨_, rfl⟩
  obtain ⟨xs, hxs⟩ : ∃ xs, spN s = xs := ⟨_, rfl⟩
  rw [hE, hxs]
  go_enter Tryz.func57, Tryz.ntmps57
  go_wp2_with (go_at_call 35; refine (psplit_any _ _ hs).mono ?_; rintro e u ⟨v, rfl, ow, bel⟩; rw [hE]; rw [hxs] at ow; have HW : Hid (Vw u v xs) := ow.vw; have HB : Hid (Below w.heap.size w u) := bel; clear ow bel)
  go_loopw [4] (fun l wr => ∃ ys, Vw u l ys ∧ trim ys = trim xs ∧ wr = u) (fun l _ => lenV l)
  case atStart => exact ⟨xs, HW.out, rfl, rfl⟩
  case round =>
    obtain ⟨ys, hv, ht, rfl⟩ := hrel
    obtain ⟨a, c, rfl, h1, h2, rd, hx⟩ := hv
    clear HW hE hxs
    cases ys with
    | nil =>
      have HT : Hid (trim [] = trim xs) := ht
      clear ht
      have HV : Hid (Vw wr (.slice a 0 c) []) := ⟨a, c, rfl, h1, h2, rd, hx⟩
      simp only [List.length_nil]
      clear rd hx
      go_wp2
      go_ret2
      refine ⟨_, rfl, ?_, HB.out⟩
      rw [← HT.out]; exact HV.out
    | cons y r =>
      cases a with
      | none => have := rd.nil rfl; simp at this
      | some x =>
        obtain ⟨b, o, rfl⟩ := hx x rfl
        have hc := rd.cell _ rfl 0 y rfl
        rw [add_zero, Nat.add_zero] at hc
        have HR : Hid (RdS wr (some ⟨b, o, none⟩) (r.length + 1) (y :: r)) := rd
        have HT : Hid (trim (y :: r) = trim xs) := ht
        simp only [List.length_cons] at *
        clear rd ht hx
        cases hu : upB y with
        | true =>
          have hl : y.toList = [46, 46] := (up_list y).1 hu
          go_wp2
          refine ⟨⟨r, vw_tail HR.out h1 h2, by rw [← HT.out, trim_up hu], by simp⟩, by simp [lenV]⟩
        | false =>
          have hl : ¬ y.toList = [46, 46] := fun e => by rw [(up_list y).2 e] at hu; cases hu
          have hl2 : (y.toList == [46, 46]) = false := by simp [hl]
          have HU : Hid (upB y = false) := hu
          clear hu
          go_wp2
          go_ret2
          refine ⟨_, rfl, ?_, HB.out⟩
          rw [← HT.out, trim_no HU.out]
          exact ⟨_, _, rfl, h1, h2, HR.out, fun x hx => by cases hx; exact ⟨_, _, rfl⟩⟩

theorem containsS_up (xs : List ByteArray) : Lib.containsS xs ⟨#[46, 46]⟩ = xs.any upB := by
  rw [Bool.eq_iff_iff, Lib.containsS_iff, List.any_eq_true]
  constructor
  · intro h; exact ⟨_, h, rfl⟩
  · rintro ⟨x, hx, hu⟩
    have : x = ⟨#[46, 46]⟩ := by
      have := of_decide_eq_true hu
      rw [← byteOf_data x, this]; rfl
    rw [this] at hx; exact hx
theorem has_up (v : Value) (xs : List ByteArray) (w : World) (h : Vw w v xs) : Calls Tryz.prog 36 #[v, .string ⟨#[46, 46]⟩] w fun e w' => e = .returned (.bool (xs.any upB)) ∧ w' = w := by
  obtain ⟨a, c, rfl, h1, h2, rd, hx⟩ := h
  have hm : xs.length ≤ 9223372036854775807 := by unfold maxLen at h2; omega
  cases a with
  | none =>
    have h0 := rd.nil rfl
    have : xs = [] := List.eq_nil_of_length_eq_zero h0
    subst this
    exact (Tryz.slices_Contains_string_empty none c _ w).mono fun e w' ⟨he, hw⟩ => ⟨he, hw⟩
  | some x =>
    obtain ⟨b, o, rfl⟩ := hx x rfl
    have h := Tryz.slices_Contains_string b o xs.length c xs ⟨#[46, 46]⟩ w (Nat.le_refl _) hm (fun j hj => by
      rw [← add_zero, rd.cell _ rfl j xs[j] (List.getElem?_eq_getElem hj)]
      simp [List.getD_eq_getElem?_getD, hj])
    rw [List.take_length, containsS_up] at h
    exact h

theorem same_slices (v v' : Value) (xs ys : List ByteArray) (w : World) (h : Vw w v xs) (h' : Vw w v' ys) (hl : xs.length = ys.length) : Calls Tryz.prog 38 #[v, v'] w fun e w' => e = .returned (.bool (decide (xs = ys))) ∧ ∃ q, w' = w.drewN q := by
  obtain ⟨a, c, rfl, h1, h2, rd, hx⟩ := h
  obtain ⟨a', c', rfl, h1', h2', rd', hx'⟩ := h'
  have hm : xs.length ≤ 9223372036854775807 := by unfold maxLen at h2; omega
  have hm' : ys.length ≤ 9223372036854775807 := by unfold maxLen at h2'; omega
  by_cases h0 : xs.length = 0
  · have hxs : xs = [] := List.eq_nil_of_length_eq_zero h0
    have hys : ys = [] := List.eq_nil_of_length_eq_zero (by omega)
    subst hxs; subst hys
    exact (Tryz.slices_Equal_string_empty a a' c 0 c' w (by omega)).mono fun e w' ⟨he, hw⟩ => ⟨by rw [he]; rfl, 0, by rw [hw]; rfl⟩
  · cases a with
    | none => exact absurd (rd.nil rfl) h0
    | some x =>
      cases a' with
      | none => exact absurd (rd'.nil rfl) (by omega)
      | some x' =>
        obtain ⟨b, o, rfl⟩ := hx x rfl
        obtain ⟨b', o', rfl⟩ := hx' x' rfl
        have h := Tryz.slices_Equal_string b o xs.length c b' o' ys.length c' xs ys w (Nat.le_refl _) (Nat.le_refl _) hm hm'
          (fun j hj => by rw [← add_zero, rd.cell _ rfl j xs[j] (List.getElem?_eq_getElem hj)]; simp [List.getD_eq_getElem?_getD, hj])
          (fun j hj => by rw [← add_zero, rd'.cell _ rfl j ys[j] (List.getElem?_eq_getElem hj)]; simp [List.getD_eq_getElem?_getD, hj])
        rw [List.take_length, List.take_length] at h
        exact h
end Go.Proofs.YtdiifegljonojaaGreatDoor.Pt
