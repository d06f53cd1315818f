/-
  SEAT YtmbdacdgbmpedabDoor: names without those ahead that lead above the root.
-/
import Derived.Test.YtmbdacdgbmpedabDoorC
namespace Go.Proofs.YtmbdacdgbmpedabDoor
open Go.RowKit
set_option linter.unusedVariables false

def trim (xs : List ByteArray) : List ByteArray := xs.dropWhile upB
theorem trim_up {x : ByteArray} {xs : List ByteArray} (h : upB x = true) : trim (x :: xs) = trim xs := by simp [trim, h]
theorem trim_no {x : ByteArray} {xs : List ByteArray} (h : upB x = false) : trim (x :: xs) = x :: xs := by simp [trim, h]
theorem up_list (x : ByteArray) : upB x = true ↔ x.toList = [46, 46] := by rw [toList_data]; unfold upB; simp

/-- A slice of texts that is read. -/
def Vw (w : World) (v : Value) (xs : List ByteArray) : Prop :=
  ∃ a c, v = .slice a xs.length c ∧ xs.length ≤ c ∧ c ≤ maxLen ∧ RdS w a xs.length xs ∧ ∀ x, a = some x → xs ≠ [] → ∃ b o, x = ⟨b, o, none⟩
theorem Ow.vw {w : World} {B : Nat} {v : Value} {xs : List ByteArray} (h : Ow w B v xs) : Vw w v xs := by
  obtain ⟨a, c, hv, h1, h2, rd⟩ := h.rd
  refine ⟨a, c, hv, h1, h2, rd, fun x hx _ => ?_⟩
  rcases h.2 with ⟨e, _⟩ | ⟨g, cap, cur, e, _⟩
  · rw [hv] at e; injection e with e; rw [hx] at e; cases e
  · rw [hv] at e; injection e with e; rw [hx] at e; injection e with e; exact ⟨g, 0, e⟩
theorem Vw.below {w w' : World} {v : Value} {xs : List ByteArray} (h : Vw w v xs) (hb : Below w.heap.size w w') : Vw w' v xs := by
  obtain ⟨a, c, hv, h1, h2, rd, hx⟩ := h
  exact ⟨a, c, hv, h1, h2, rd.below hb, hx⟩
def lenV : Value → Nat
  | .slice _ n _ => n
  | _ => 0

theorem vw_tail {w : World} {b o c : Nat} {y : ByteArray} {r : List ByteArray} (rd : RdS w (some ⟨b, o, none⟩) (r.length + 1) (y :: r)) (h1 : r.length + 1 ≤ c) (h2 : c ≤ maxLen) :
    Vw w (.slice (if c = 1 then some ⟨b, o, none⟩ else some ⟨b, o + 1, none⟩) r.length (c - 1)) r := by
  refine ⟨_, _, rfl, by omega, by omega, ?_, ?_⟩
  · by_cases hc : c = 1
    · have hr : r = [] := List.eq_nil_of_length_eq_zero (by omega)
      subst hr
      exact ⟨rfl, fun _ => rfl, fun x _ j u hj => by cases hj⟩
    · rw [if_neg hc]; exact rd.tail
  · intro x hx _
    split at hx <;> (injection hx with hx; exact ⟨_, _, hx.symm⟩)

set_option maxHeartbeats 1000000 in
set_option maxRecDepth 100000 in
theorem cleaned_any (s : ByteArray) (w : World) (hs : s.size ≤ 9223372036854775807) : Calls Tryd.prog 18 #[.string s] w fun e w' => ∃ v, e = .returned (.tuple #[v, .int .i64 (spE s)]) ∧ Vw w' v (trim (spN s)) ∧ Below w.heap.size w w' := by
  obtain ⟨E, hE⟩ : ∃ E, spE s = E := ⟨_, rfl⟩
  obtain ⟨xs, hxs⟩ : ∃ xs, spN s = xs := ⟨_, rfl⟩
  rw [hE, hxs]
  go_enter Tryd.func18, Tryd.ntmps18
  go_wp2_with (go_at_call 5; refine (psplit_any _ _ hs).mono ?_; rintro e u ⟨v, rfl, ow, bel⟩; rw [hE]; rw [hxs] at ow; have HW : Hid (Vw u v xs) := ow.vw; have HB : Hid (Below w.heap.size w u) := bel; clear ow bel)
  go_loopw [4] (fun l wr => ∃ ys, Vw u l ys ∧ trim ys = trim xs ∧ wr = u) (fun l _ => lenV l)
  case atStart => exact ⟨xs, HW.out, rfl, rfl⟩
  case round =>
    obtain ⟨ys, hv, ht, rfl⟩ := hrel
    obtain ⟨a, c, rfl, h1, h2, rd, hx⟩ := hv
    clear HW hE hxs
    cases ys with
    | nil =>
      have HT : Hid (trim [] = trim xs) := ht
      clear ht
      have HV : Hid (Vw wr (.slice a 0 c) []) := ⟨a, c, rfl, h1, h2, rd, hx⟩
      simp only [List.length_nil]
      clear rd hx
      go_wp2
      go_ret2
      refine ⟨_, rfl, ?_, HB.out⟩
      rw [← HT.out]; exact HV.out
    | cons y r =>
      cases a with
      | none => have := rd.nil rfl; simp at this
      | some x =>
        obtain ⟨b, o, rfl⟩ := hx x rfl (by simp)
        have hc := rd.cell _ rfl 0 y rfl
        rw [add_zero, Nat.add_zero] at hc
        have HR : Hid (RdS wr (some ⟨b, o, none⟩) (r.length + 1) (y :: r)) := rd
        have HT : Hid (trim (y :: r) = trim xs) := ht
        simp only [List.length_cons] at *
        clear rd ht hx
        cases hu : upB y with
        | true =>
          have hl : y.toList = [46, 46] := (up_list y).1 hu
          go_wp2
          refine ⟨⟨r, vw_tail HR.out h1 h2, by rw [← HT.out, trim_up hu], by simp⟩, by simp [lenV]⟩
        | false =>
          have hl : ¬ y.toList = [46, 46] := fun e => by rw [(up_list y).2 e] at hu; cases hu
          have hl2 : (y.toList == [46, 46]) = false := by simp [hl]
          have HU : Hid (upB y = false) := hu
          clear hu
          go_wp2
          go_ret2
          refine ⟨_, rfl, ?_, HB.out⟩
          rw [← HT.out, trim_no HU.out]
          exact ⟨_, _, rfl, h1, h2, HR.out, fun x hx _ => by cases hx; exact ⟨_, _, rfl⟩⟩

end Go.Proofs.YtmbdacdgbmpedabDoor
