/-
  SEAT Ytjginocbbnmgaaa: above.
-/
import Derived.Test.YtjginocbbnmgaaaTnD
namespace Go.Proofs.Ytjginocbbnmgaaa
open Go.RowKit
set_option linter.unusedVariables false

/-- The first s numbers alone. -/
def firsts (M : Mp) (s : Nat) : Mp := fun k => if k < s then M k else none
abbrev A96 (p : Value) : Array Value := #[p, .pointer none, .pointer none, .pointer none, .pointer none, .pointer none, .pointer none, .pointer none, .pointer none, .pointer none, .pointer none, .pointer none, .pointer none, .pointer none, .pointer none, .pointer none, .pointer none, .pointer none, .pointer none, .pointer none, .pointer none, .pointer none, .pointer none, .pointer none, .pointer none, .pointer none, .pointer none, .pointer none, .pointer none, .pointer none, .pointer none, .pointer none]
set_option maxRecDepth 100000 in
theorem above_run (g : Nat) (w : World) : Calls Try.prog 56 #[.pointer (some ⟨g, 0, none⟩)] w fun e w' => e = .returned (.pointer (some ⟨w.heap.size, 0, none⟩)) ∧ w' = w.alloc (.cells (A96 (.pointer (some ⟨g, 0, none⟩))) 96) := by
  go_enter Try.func56, Try.ntmps56
  go_wp2
  go_ret
  exact ⟨rfl, rfl⟩
theorem a96_is (g : Nat) : A96 (.pointer (some ⟨g, 0, none⟩)) = ((((List.replicate 16 (none : Option Nat)).set 0 (some g)).map ptr) ++ List.replicate 16 (Value.pointer none)).toArray := rfl
/-- A node one level higher, whose keys stay as they are. -/
theorem above_any (l g : Nat) (M : Mp) (w : World) (E : Nat → Prop) [DecidablePred E] (hE : ∀ i, E i → i < w.heap.size) (h : NodeOn (seenH w E) l (some g) M) (hv : ¬ Void M (spn (l + 1))) :
    Calls Try.prog 56 #[.pointer (some ⟨g, 0, none⟩)] w fun e w' => ∃ g', e = .returned (.pointer (some ⟨g', 0, none⟩)) ∧ NodeOn (seenH w' E) (l + 1) (some g') (firsts M (spn (l + 1))) ∧ Below w.heap.size w w' := by
  refine (above_run g w).mono ?_
  rintro e w' ⟨rfl, rfl⟩
  have hb : Below w.heap.size w (w.alloc (.cells (A96 (.pointer (some ⟨g, 0, none⟩))) 96)) := (Below.refl _ _).alloc (Nat.le_refl _) _
  have hpos := spn_pos (l + 1)
  refine ⟨_, rfl, ⟨(List.replicate 16 none).set 0 (some g), by simp, seen_of (fresh hE (Nat.le_refl _)) (by rw [heap_alloc_last, a96_is]), fun i hi => ?_, fun q => hv (fun k hk => ?_)⟩, hb⟩
  · rw [getD_set _ _ _ _ (by simp)]
    by_cases e : i = 0
    · rw [if_pos e, e]
      refine NodeOn.congr (fun j hj => ?_) (h.mono (shows_below (E := E) (E' := E) hb (fun _ _ q => q)))
      unfold sub firsts
      rw [Nat.zero_mul, Nat.zero_add, if_pos hj]
    · rw [if_neg e, repD]
      refine NodeOn.void (fun j hj => ?_)
      unfold sub firsts
      have : spn (l + 1) ≤ i * spn (l + 1) := Nat.le_mul_of_pos_left _ (by omega)
      rw [if_neg (by omega)]
  · have h9 := q k (by rw [spn_succ (l + 1)]; omega)
    unfold firsts at h9
    rw [if_pos hk] at h9
    exact h9
end Go.Proofs.Ytjginocbbnmgaaa
