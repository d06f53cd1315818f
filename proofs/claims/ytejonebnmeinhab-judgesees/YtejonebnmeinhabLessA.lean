/-
  SEAT Ytejonebnmeinhab: JudgeLess: its first Check, rows that are cut, a Mark's place.
-/
import Derived.Test.YtejonebnmeinhabTurnsW
import Derived.Test.YtejonebnmeinhabLessP
import Derived.Laws.MakeOwn
namespace Go.Proofs.Ytejonebnmeinhab
open Go.RowKit
set_option linter.unusedVariables false

def F8 : List Bool := [false, false, false, false, false, false, false, false]
def T2 : List Cmd := [⟨1, 0, 0, 0⟩, ⟨1, 0, 0, 0⟩]

theorem twice_is : chkI (chk 4 (start true 4 F8) T2) = 1 := by decide
theorem new8 : newE 8 4 1 8 = 0 := by decide

theorem made8 : madeCells (Value.bool false).cells (Int.toNat 8 * 1) = #[.bool false, .bool false, .bool false, .bool false, .bool false, .bool false, .bool false, .bool false] := by kernel_rfl

theorem make8 (u : World) : (Instr.makeSlice 25 (.int .i64 8) (.int .i64 8)).run Try.prog u = .ok (.slice (some ⟨u.heap.size, 0, none⟩) 8 8) (u.alloc (.cells #[.bool false, .bool false, .bool false, .bool false, .bool false, .bool false, .bool false, .bool false] 4)) := by
  obtain ⟨i0, hi, hz0, hz1, hz2⟩ := info_parts info4
  have h := run_makeSlice u 25 4 i0 (.bool false) Try.underlying25 hi hz0 .i64 .i64 8 8 (by decide) (by decide) (by rw [hz1]; decide) (by rw [hz2]; decide) (by decide)
  rw [h, hz1, made8]
  rfl

theorem reads8 {w u : World} (h : (w.alloc (.cells #[.bool false, .bool false, .bool false, .bool false, .bool false, .bool false, .bool false, .bool false] 4)).grownBy u none) : ReadsB u (some ⟨w.heap.size, 0, none⟩) 8 F8 := by
  refine ⟨rfl, (fun h => by cases h), fun x hx i hi => ?_⟩
  cases hx
  rw [plain_add, Nat.zero_add]
  refine h.cell ?_ (by simp)
  rcases (by omega : i = 0 ∨ i = 1 ∨ i = 2 ∨ i = 3 ∨ i = 4 ∨ i = 5 ∨ i = 6 ∨ i = 7) with rfl | rfl | rfl | rfl | rfl | rfl | rfl | rfl <;> simp [F8]

theorem readsT2 (w : World) : ReadsC (w.alloc (.cells #[.int .i64 1, .int .i64 0, .int .i64 0, .int .i64 0, .int .i64 1, .int .i64 0, .int .i64 0, .int .i64 0] 73)) (some ⟨w.heap.size, 0, none⟩) 2 T2 := by
  refine ⟨rfl, ?_, (fun h => by cases h), fun x hx i hi j hj => ?_⟩
  · intro c hc
    simp [T2] at hc
    subst hc
    exact ⟨⟨by decide, by decide⟩, ⟨by decide, by decide⟩, ⟨by decide, by decide⟩, ⟨by decide, by decide⟩⟩
  · cases hx
    rw [plain_add, Nat.zero_add]
    rcases (by omega : i = 0 ∨ i = 1) with rfl | rfl <;> rcases (by omega : j = 0 ∨ j = 1 ∨ j = 2 ∨ j = 3) with rfl | rfl | rfl | rfl <;> simp [T2, Cmd.cell]

theorem ReadsC.front {w : World} {a : Option Addr} {n m : Nat} {cs : List Cmd} (h : ReadsC w a n cs) (hm : m ≤ n) : ReadsC w a m (cs.take m) := by
  refine ⟨by rw [List.length_take, h.1]; omega, fun c hc => h.2.1 c (List.mem_of_mem_take hc), (fun q => by have := h.2.2.1 q; omega), fun x hx i hi j hj => ?_⟩
  rw [h.2.2.2 x hx i (by omega) j hj]
  simp [List.getD_eq_getElem?_getD, hi]

theorem ReadsC.back {w : World} {x : Addr} {n m : Nat} {cs : List Cmd} (h : ReadsC w (some x) n cs) (hm : m ≤ n) : ReadsC w (some (x.add (m * 4))) (n - m) (cs.drop m) := by
  refine ⟨by rw [List.length_drop, h.1], fun c hc => h.2.1 c (List.mem_of_mem_drop hc), (fun q => by cases q), fun y hy i hi j hj => ?_⟩
  cases hy
  have e : (x.add (m * 4)).add (i * 4 + j) = x.add ((m + i) * 4 + j) := by
    rw [Addr.add_add]; congr 1; omega
  rw [e, h.2.2.2 x rfl (m + i) (by omega) j hj]
  simp [List.getD_eq_getElem?_getD, List.getElem?_drop]
end Go.Proofs.Ytejonebnmeinhab
