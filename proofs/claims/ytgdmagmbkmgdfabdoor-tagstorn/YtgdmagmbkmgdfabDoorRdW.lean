/-
  SEAT YtgdmagmbkmgdfabDoor: TagsReads: the walk.
-/
import Derived.Test.YtgdmagmbkmgdfabDoorRe
namespace Go.Proofs.YtgdmagmbkmgdfabDoor
open Go.RowKit
set_option linter.unusedVariables false

theorem room_front {w : World} {B g c l : Nat} {zs : List Int} (h : Own w B g (l + 70) c (room zs 70)) (hl : zs.length = l) (hr : ∀ x ∈ zs, 0 ≤ x ∧ x ≤ 255) : Reads w (some ⟨g, 0, none⟩) l zs := by
  have h1 := h.reads (room_range zs 70 hr) l (by omega)
  have e : (room zs 70).take l = zs := by rw [room, List.take_left' hl]
  rwa [e] at h1

theorem room_cap {w : World} {B g c l : Nat} {zs : List Int} (h : Own w B g (l + 70) c (room zs 70)) : l ≤ c := by
  obtain ⟨g', c', e1, e2, _⟩ := own_shape h (by omega)
  cases e1
  omega

/-- A box with tags in it. -/
def Box (w : World) (T : Nat) (n0 n1 n2 n3 n4 n5 n6 n7 : Int) : Prop := w.heap[T]? = some (.cells #[.int .i64 n0, .int .i64 n1, .int .u64 n2, .int .u64 n3, .int .i64 n4, .int .i64 n5, .int .i64 n6, .int .i64 n7] 24 (0, 0))
theorem Box.lt {w : World} {T : Nat} {n0 n1 n2 n3 n4 n5 n6 n7 : Int} (h : Box w T n0 n1 n2 n3 n4 n5 n6 n7) : T < w.heap.size := by
  rcases Nat.lt_or_ge T w.heap.size with h1 | h1
  · exact h1
  · unfold Box at h; simp [Array.getElem?_eq_none h1] at h
theorem Box.below {w w' : World} {T : Nat} {n0 n1 n2 n3 n4 n5 n6 n7 : Int} (h : Box w T n0 n1 n2 n3 n4 n5 n6 n7) (hb : Below w.heap.size w w') : Box w' T n0 n1 n2 n3 n4 n5 n6 n7 := (hb.block T h.lt).trans h
theorem Box.made (w : World) (n0 n1 n2 n3 n4 n5 n6 n7 : Int) : Box (w.alloc (.cells #[.int .i64 n0, .int .i64 n1, .int .u64 n2, .int .u64 n3, .int .i64 n4, .int .i64 n5, .int .i64 n6, .int .i64 n7] 24)) w.heap.size n0 n1 n2 n3 n4 n5 n6 n7 := heap_alloc_new w _

end Go.Proofs.YtgdmagmbkmgdfabDoor
