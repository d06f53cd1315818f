/-
  SEAT Ytoaahellfflooaa.
-/
import Derived.Test.YtoaahellfflooaaVKE
namespace Go.Proofs.Ytoaahellfflooaa
open Go.RowKit
set_option linter.unusedVariables false

/-- A number's bytes, the lowest first. -/
def dg (v : Int) (n : Nat) : List Int := putL (List.replicate n 0) 0 v n
theorem dg_length (v : Int) (n : Nat) : (dg v n).length = n := by simp [dg, putL_length]
theorem dg_range (v : Int) (n : Nat) : ∀ x ∈ dg v n, 0 ≤ x ∧ x ≤ 255 := putL_range _ _ _ _ (by intro x hx; have := List.eq_of_mem_replicate hx; omega)

set_option maxHeartbeats 400000 in
theorem asBytes_ok (n : Nat) (v : Int) (w : World) (h1 : 1 ≤ n) (h2 : n ≤ 8) (hf : (v / 2 ^ (8 * (n : Int)).toNat == 0) = true) (hv : 0 ≤ v) :
    Calls Try.prog 67 #[.int .i64 n, .int .u64 v] w fun e w' => e = .returned (.slice (some ⟨w.heap.size, 0, none⟩) n n) ∧ Own w' w.heap.size w.heap.size n n (dg v n) ∧ Below w.heap.size w w' := by
  obtain ⟨i0, hi, hz0, hz1, hz2⟩ := info_parts info5
  have hmk : ∀ u : World, (Instr.makeSlice 22 (.int .i64 (n : Int)) (.int .i64 (n : Int))).run Try.prog u = .ok (.slice (some ⟨u.heap.size, 0, none⟩) n n) (u.alloc (.cells (madeCells #[.int .u8 0] n) 5)) := fun u => by
    have h := run_make (P := Try.prog) u 22 5 i0 (.int .u8 0) Try.underlying22 hi hz0 .i64 .i64 (n : Int) (n : Int) (by omega) (by omega) (by rw [hz2]; omega) (by omega)
    simpa [hz1, Value.cells] using h
  have HO : Hid (Own (w.alloc (.cells (madeCells #[.int .u8 0] n) 5)) w.heap.size w.heap.size n n (List.replicate n 0)) := made_full w n (by omega)
  go_enter Try.func67, Try.ntmps67
  go_wp2_with (go_at_call 45; refine (put_ok w.heap.size w.heap.size n n n 0 n v (List.replicate n 0) _ ?_ ?_ ?_ ?_ ?_ ?_ ?_ ?_).mono ?_; omega; omega; omega; exact hf; omega; omega; exact hv; exact HO.out; rintro e u ⟨rfl, o1, g1⟩)
  go_ret
  exact ⟨rfl, o1, ((Below.refl w.heap.size w).alloc (Nat.le_refl _) _).grown g1 (by simp) (fun q hq => by cases hq; omega)⟩

end Go.Proofs.Ytoaahellfflooaa
