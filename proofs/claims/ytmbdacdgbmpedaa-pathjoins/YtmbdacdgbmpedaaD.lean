/-
  SEAT Ytmbdacdgbmpedaa: names without those ahead that lead above the root.
-/
import Derived.Test.YtmbdacdgbmpedaaC
namespace Go.Proofs.Ytmbdacdgbmpedaa
open Go.RowKit
set_option linter.unusedVariables false

def trim (xs : List ByteArray) : List ByteArray := xs.dropWhile upB
theorem trim_up {x : ByteArray} {xs : List ByteArray} (h : upB x = true) : trim (x :: xs) = trim xs := by simp [trim, h]
theorem trim_no {x : ByteArray} {xs : List ByteArray} (h : upB x = false) : trim (x :: xs) = x :: xs := by simp [trim, h]
theorem up_list (x : ByteArray) : upB x = true ↔ x.toList = [46, 46] := by rw [toList_data]; unfold upB; simp

/-- A slice of texts that is read. -/
def Vw (w : World) (v : Value) (xs : List ByteArray) : Prop :=
  ∃ a c, v = .slice a xs.length c ∧ xs.length ≤ c ∧ c ≤ maxLen ∧ RdS w a xs.length xs ∧ ∀ x, a = some x → xs ≠ [] → ∃ b o, x = ⟨b, o, none⟩
theorem Ow.vw {w : World} {B : Nat} {v : Value} {xs : List ByteArray} (h : Ow w B v xs) : Vw w v xs := by
  obtain ⟨a, c, hv, h1, h2, rd⟩ := h.rd
  refine ⟨a, c, hv, h1, h2, rd, fun x hx _ => ?_⟩
  rcases h.2 with ⟨e, _⟩ | ⟨g, cap, cur, e, _⟩
  · rw [hv] at e; injection e with e; rw [hx] at e; cases e
  · rw [hv] at e; injection e with e; rw [hx] at e; injection e with e; exact ⟨g, 0, e⟩
theorem Vw.below {w w' : World} {v : Value} {xs : List ByteArray} (h : Vw w v xs) (hb : Below w.heap.size w w') : Vw w' v xs := by
  obtain ⟨a, c, hv, h1, h2, rd, hx⟩ := h
  exact ⟨a, c, hv, h1, h2, rd.below hb, hx⟩
def lenV : Value → Nat
  | .slice _ n _ => n
  | _ => 0

theorem vw_tail {w : World} {b o c : Nat} {y : ByteArray} {r : List ByteArray} (rd : RdS w (some ⟨b, o, none⟩) (r.length + 1) (y :: r)) (h1 : r.length + 1 ≤ c) (h2 : c ≤ maxLen) :
    Vw w (.slice (if c = 1 then some ⟨b, o, none⟩ else some ⟨b, o + 1, none⟩) r.length (c - 1)) r := by
  refine ⟨_, _, rfl, by omega, by omega, ?_, ?_⟩
  · by_cases hc : c = 1
    · have hr : r = [] := List.eq_nil_of_length_eq_zero (by omega)
      subst hr
      exact ⟨rfl, fun _ => rfl, fun x _ j u hj => by cases hj⟩
    · rw [if_neg hc]; exact rd.tail
  · intro x hx _
    split at hx <;> (injection hx with hx; exact ⟨_, _, hx.symm⟩)

end Go.Proofs.Ytmbdacdgbmpedaa
