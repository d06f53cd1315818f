/-
  SEAT Ytoaahellfflooaa: giver.
-/
import Derived.Test.YtoaahellfflooaaRD
namespace Go.Proofs.Ytoaahellfflooaa
open Go.RowKit
set_option linter.unusedVariables false

set_option maxHeartbeats 400000 in
theorem giver_any (a : Option Addr) (len cap : Nat) (w : World) (hl : len ≤ 140737488351300) :
    Calls Try.prog 77 #[.slice a len cap] w fun e w' => e = .returned (.func (.func 81) #[] #[.pointer (some ⟨w.heap.size, 0, none⟩), .pointer (some ⟨w.heap.size + 1, 0, none⟩)]) ∧ Giv w' w.heap.size (w.heap.size + 1) a len cap len ∧ w'.heap.size = w.heap.size + 2 ∧ Below w.heap.size w w' := by
  have hmf : ∀ (fn : Fn) (first cap : Array Value) (w : World), (Instr.makeFunc fn first cap).run Try.prog w = .ok (.func fn first cap) w := fun _ _ _ _ => rfl
  go_enter Try.func77, Try.ntmps77
  go_wp2
  go_ret
  refine ⟨by simp, ⟨?_, ?_⟩, by simp, ((Below.refl w.heap.size w).alloc (Nat.le_refl _) _).alloc (by simp) _⟩
  · exact (((Below.refl (w.heap.size + 1) (w.alloc (.cells #[.slice a len cap] 22))).alloc (by simp) (.cells #[.int .i64 (len : Int)] 3)).block w.heap.size (by omega)).trans (heap_alloc_new w _)
  · have h := heap_alloc_new (w.alloc (.cells #[.slice a len cap] 22)) (.cells #[.int .i64 (len : Int)] 3)
    have e : (w.alloc (.cells #[.slice a len cap] 22)).heap.size = w.heap.size + 1 := by simp
    rw [e] at h
    exact h
end Go.Proofs.Ytoaahellfflooaa
