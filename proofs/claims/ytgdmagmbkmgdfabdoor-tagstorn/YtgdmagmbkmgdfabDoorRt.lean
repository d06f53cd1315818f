/-
  SEAT YtgdmagmbkmgdfabDoor: the reference's Read.
-/
import Derived.Test.YtgdmagmbkmgdfabDoorRs
namespace Go.Proofs.YtgdmagmbkmgdfabDoor
open Go.RowKit
set_option linter.unusedVariables false

set_option maxHeartbeats 400000 in
theorem read8_bad (a : Option Addr) (l cap : Nat) (w : World) (hl : l ≤ 140737488355000) (h : l ≠ 26) :
    Calls Tryd.prog 11 #[.slice a l cap] w fun e w' => e = .returned (.tuple #[T8 0 0 0 0 0 0 0 0, .int .i64 60]) ∧ Below w.heap.size w w' := by
  have h1 : ((l : Int) == 26) = false := by simp; omega
  go_enter Tryd.func11, Tryd.ntmps11
  go_wp2
  refine bodyPost_ret (v := .tuple #[T8 0 0 0 0 0 0 0 0, .int .i64 60]) (by simp [results, Tryd.results11, go_sem]) rfl ?_
  exact ⟨rfl, (Below.refl _ _).alloc (Nat.le_refl _) _⟩

theorem sub_reads {w : World} {b off n : Nat} {zs : List Int} (h : Reads w (some ⟨b, off, none⟩) n zs) (t m : Nat) (ht : t + m ≤ n) : Reads w (some ⟨b, off + t, none⟩) m ((zs.drop t).take m) := by
  obtain ⟨h1, h2, _, h4⟩ := h
  refine ⟨by simp; omega, fun x hx => h2 x (List.mem_of_mem_drop (List.mem_of_mem_take hx)), (fun h => by cases h), fun x hx i hi => ?_⟩
  cases hx
  have := h4 _ rfl (t + i) (by omega)
  rw [plain_add] at this ⊢
  rw [Nat.add_assoc, this]
  congr 2
  rw [List.getD_eq_getElem?_getD, List.getD_eq_getElem?_getD, List.getElem?_take_of_lt hi, List.getElem?_drop]

theorem getL_sub (zs : List Int) (t m : Nat) : getL ((zs.drop t).take m) 0 m = getL zs t m := by
  have key : ∀ k, k ≤ m → getL ((zs.drop t).take m) 0 k = getL zs t k := by
    intro k
    induction k with
    | zero => intro _; rfl
    | succ k ih =>
      intro hk
      rw [getL, getL, ih (by omega), Nat.zero_add]
      congr 2
      rw [List.getD_eq_getElem?_getD, List.getD_eq_getElem?_getD, List.getElem?_take_of_lt (by omega), List.getElem?_drop]
  exact key m (Nat.le_refl _)

def tagsOf (zs : List Int) : Value := T8 (getL zs 0 1) (getL zs 1 1) (getL zs 2 6) (getL zs 8 6) (getL zs 14 4) (getL zs 18 4) (getL zs 22 2) (getL zs 24 2)

theorem getL_one (zs : List Int) (t : Nat) : getL zs t 1 = zs.getD t 0 := by simp [getL]

end Go.Proofs.YtgdmagmbkmgdfabDoor
