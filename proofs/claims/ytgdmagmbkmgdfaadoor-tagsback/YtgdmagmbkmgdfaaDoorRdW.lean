/-
  SEAT YtgdmagmbkmgdfaaDoor: TagsReads: the walk.
-/
import Derived.Test.YtgdmagmbkmgdfaaDoorRe
namespace Go.Proofs.YtgdmagmbkmgdfaaDoor
open Go.RowKit
set_option linter.unusedVariables false

/-- What both Reads answer of these bytes. -/
theorem reads_two (l : Nat) (zs : List Int) (hl : l ≤ 140737488355000) : ∃ n0 n1 n2 n3 n4 n5 n6 n7 E : Int,
    (∀ (w : World) (a : Option Addr) (cap : Nat), l ≤ cap → Reads w a l zs → Calls Tryd.prog 8 #[.slice a l cap] w fun e w' => e = .returned (.tuple #[T8 n0 n1 n2 n3 n4 n5 n6 n7, .int .i64 E]) ∧ Below w.heap.size w w') ∧
    (∀ (w : World) (a : Option Addr) (cap : Nat), Tab w → Reads w a l zs → Calls Tryd.prog 10 #[.slice a l cap] w fun e w' => e = .returned (.tuple #[T8 n0 n1 n2 n3 n4 n5 n6 n7, .int .i64 E]) ∧ Below w.heap.size w w') := by
  by_cases h : l = 26
  · subst h
    exact ⟨_, _, _, _, _, _, _, _, _, fun w a cap hc hr => rread8_ok a cap zs w hc hr, fun w a cap hT hr => read8_ok a cap zs w hT hr⟩
  · exact ⟨_, _, _, _, _, _, _, _, _, fun w a cap hc hr => rread8_bad a l cap w hl h, fun w a cap hT hr => read8_bad a l cap w hl h⟩

theorem room_front {w : World} {B g c l : Nat} {zs : List Int} (h : Own w B g (l + 70) c (room zs 70)) (hl : zs.length = l) (hr : ∀ x ∈ zs, 0 ≤ x ∧ x ≤ 255) : Reads w (some ⟨g, 0, none⟩) l zs := by
  have h1 := h.reads (room_range zs 70 hr) l (by omega)
  have e : (room zs 70).take l = zs := by rw [room, List.take_left' hl]
  rwa [e] at h1

theorem room_cap {w : World} {B g c l : Nat} {zs : List Int} (h : Own w B g (l + 70) c (room zs 70)) : l ≤ c := by
  obtain ⟨g', c', e1, e2, _⟩ := own_shape h (by omega)
  cases e1
  omega

/-- A box with tags in it. -/
def Box (w : World) (T : Nat) (n0 n1 n2 n3 n4 n5 n6 n7 : Int) : Prop := w.heap[T]? = some (.cells #[.int .i64 n0, .int .i64 n1, .int .u64 n2, .int .u64 n3, .int .i64 n4, .int .i64 n5, .int .i64 n6, .int .i64 n7] 25 (0, 0))
theorem Box.lt {w : World} {T : Nat} {n0 n1 n2 n3 n4 n5 n6 n7 : Int} (h : Box w T n0 n1 n2 n3 n4 n5 n6 n7) : T < w.heap.size := by
  rcases Nat.lt_or_ge T w.heap.size with h1 | h1
  · exact h1
  · unfold Box at h; simp [Array.getElem?_eq_none h1] at h
theorem Box.below {w w' : World} {T : Nat} {n0 n1 n2 n3 n4 n5 n6 n7 : Int} (h : Box w T n0 n1 n2 n3 n4 n5 n6 n7) (hb : Below w.heap.size w w') : Box w' T n0 n1 n2 n3 n4 n5 n6 n7 := (hb.block T h.lt).trans h
theorem Box.made (w : World) (n0 n1 n2 n3 n4 n5 n6 n7 : Int) : Box (w.alloc (.cells #[.int .i64 n0, .int .i64 n1, .int .u64 n2, .int .u64 n3, .int .i64 n4, .int .i64 n5, .int .i64 n6, .int .i64 n7] 25)) w.heap.size n0 n1 n2 n3 n4 n5 n6 n7 := heap_alloc_new w _

set_option maxHeartbeats 1000000 in
set_option maxRecDepth 100000 in
theorem readsWalk (a0 : Option Addr) (len0 cap0 : Nat) (z0 : List Int) (w : World) (w0 : Reads w a0 len0 z0) (s0 : len0 ≤ 140737488351232) (hcap : len0 ≤ cap0) (hT : Tab w) :
    Calls Tryd.prog 3 #[.slice a0 len0 cap0] w fun e w' => e = .returned (.bool true) ∧ Below w.heap.size w w' := by
  obtain ⟨n0, n1, n2, n3, n4, n5, n6, n7, E, c8, c10⟩ := reads_two len0 z0 (by omega)
  have H8 : Hid _ := c8
  have H10 : Hid _ := c10
  have HW : Hid (Reads w a0 len0 z0) := w0
  have HT : Hid (Tab w) := hT
  have q0 : Hid True := trivial
  clear c8 c10 w0 hT
  go_enter Tryd.func3, Tryd.ntmps3
  go_wp2_with (first
    | (go_at_call 8; have h9 := q0; clear h9; refine Calls.mono (H8.out _ _ _ ?_ ?_) ?_; (with_reducible exact hcap); (with_reducible exact HW.out); rintro e u1 ⟨rfl, b1⟩; have bxA := Box.made u1 n0 n1 n2 n3 n4 n5 n6 n7; have bA := b1.alloc b1.size (.cells #[.int .i64 n0, .int .i64 n1, .int .u64 n2, .int .u64 n3, .int .i64 n4, .int .i64 n5, .int .i64 n6, .int .i64 n7] 25); have rA := HW.out.below bA; clear q0 b1)
    | (go_at_call 9; have h9 := rA; clear h9; refine (roomy_any _ _ _ z0 _ ?_ ?_).mono ?_; omega; (with_reducible exact rA); rintro e u2 ⟨g2, c2, rfl, o2, b2⟩; have bx2 := bxA.below b2; have bw2 := bA.trans (b2.mono bA.size); have r2 := room_front o2 HW.out.1 HW.out.2.1; have hT2 := HT.out.below bw2; have hc2 := room_cap o2; clear bxA bA rA b2)
    | (go_at_call 10; have h9 := r2; clear h9; refine Calls.mono (H10.out _ _ _ ?_ ?_) ?_; (with_reducible exact hT2); (with_reducible exact r2); rintro e u3 ⟨rfl, b3⟩; have b3A := b3.alloc b3.size (.cells #[.int .i64 n0, .int .i64 n1, .int .u64 n2, .int .u64 n3, .int .i64 n4, .int .i64 n5, .int .i64 n6, .int .i64 n7] 25); obtain ⟨⟨x0, x1, x2, x3, x4, x5, x6, x7⟩, _⟩ := t8_cells (bx2.below b3A); have o3 := o2.below b3A; have bw3 := bw2.trans (b3A.mono bw2.size); have HO : Hid (Own _ _ _ _ _ _) := o3; have HBW : Hid (Below _ _ _) := bw3; clear o2 o3 bw2 bw3 r2 hT2 b3 b3A bx2)
    | (go_at_call 11; refine (no_any _ _).mono ?_; rintro e u ⟨rfl, rfl⟩)
    | (go_at_call 12; refine (same8 _ _ _ _ _ _ _ _ _).mono ?_; rintro e u4 ⟨rfl, b4⟩; have o4 := HO.out.below b4; have bw4 := HBW.out.trans (b4.mono HBW.out.size); have r4 := HW.out.below bw4; clear HO HBW x0 x1 x2 x3 x4 x5 x6 x7 b4)
    | (go_at_call 13; have h9 := r4; clear h9; refine (kept_d _ _ _ _ _ _ z0 _ ?_ ?_ o4).mono ?_; omega; (with_reducible exact r4); rintro e u5 ⟨rfl, k5, rfl⟩))
  go_ret
  exact ⟨rfl, below_drewN bw4 _⟩
end Go.Proofs.YtgdmagmbkmgdfaaDoor
