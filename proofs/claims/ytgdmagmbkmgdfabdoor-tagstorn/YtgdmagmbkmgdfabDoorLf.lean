/-
  SEAT YtgdmagmbkmgdfabDoor: Lift, both.
-/
import Derived.Test.YtgdmagmbkmgdfabDoorRdW
import Derived.Test.YtgdmagmbkmgdfabDoorRdF
namespace Go.Proofs.YtgdmagmbkmgdfabDoor
open Go.RowKit
set_option linter.unusedVariables false

theorem size_al (w : World) (o : Obj) : (w.alloc o).heap.size = w.heap.size + 1 := by simp

theorem over8 {w2 : World} {T : Nat} {m0 m1 m2 m3 m4 m5 m6 m7 : Int} (n0 n1 n2 n3 n4 n5 n6 n7 : Int) (h : Box w2 T m0 m1 m2 m3 m4 m5 m6 m7) : Box ((((((((w2.setCell ⟨T, 0, none⟩ (.int .i64 n0)).setCell ⟨T, 1, none⟩ (.int .i64 n1)).setCell ⟨T, 2, none⟩ (.int .u64 n2)).setCell ⟨T, 3, none⟩ (.int .u64 n3)).setCell ⟨T, 4, none⟩ (.int .i64 n4)).setCell ⟨T, 5, none⟩ (.int .i64 n5)).setCell ⟨T, 6, none⟩ (.int .i64 n6)).setCell ⟨T, 7, none⟩ (.int .i64 n7)) T n0 n1 n2 n3 n4 n5 n6 n7 := by
  unfold Box at *
  have g0 := heap_setCell_same _ T 0 _ 24 (.int .i64 n0) h
  replace g0 : (w2.setCell ⟨T, 0, none⟩ (.int .i64 n0)).heap[T]? = some (.cells #[.int .i64 n0, .int .i64 m1, .int .u64 m2, .int .u64 m3, .int .i64 m4, .int .i64 m5, .int .i64 m6, .int .i64 m7] 24 (0, 0)) := g0
  have g1 := heap_setCell_same _ T 1 _ 24 (.int .i64 n1) g0
  replace g1 : ((w2.setCell ⟨T, 0, none⟩ (.int .i64 n0)).setCell ⟨T, 1, none⟩ (.int .i64 n1)).heap[T]? = some (.cells #[.int .i64 n0, .int .i64 n1, .int .u64 m2, .int .u64 m3, .int .i64 m4, .int .i64 m5, .int .i64 m6, .int .i64 m7] 24 (0, 0)) := g1
  have g2 := heap_setCell_same _ T 2 _ 24 (.int .u64 n2) g1
  replace g2 : (((w2.setCell ⟨T, 0, none⟩ (.int .i64 n0)).setCell ⟨T, 1, none⟩ (.int .i64 n1)).setCell ⟨T, 2, none⟩ (.int .u64 n2)).heap[T]? = some (.cells #[.int .i64 n0, .int .i64 n1, .int .u64 n2, .int .u64 m3, .int .i64 m4, .int .i64 m5, .int .i64 m6, .int .i64 m7] 24 (0, 0)) := g2
  have g3 := heap_setCell_same _ T 3 _ 24 (.int .u64 n3) g2
  replace g3 : ((((w2.setCell ⟨T, 0, none⟩ (.int .i64 n0)).setCell ⟨T, 1, none⟩ (.int .i64 n1)).setCell ⟨T, 2, none⟩ (.int .u64 n2)).setCell ⟨T, 3, none⟩ (.int .u64 n3)).heap[T]? = some (.cells #[.int .i64 n0, .int .i64 n1, .int .u64 n2, .int .u64 n3, .int .i64 m4, .int .i64 m5, .int .i64 m6, .int .i64 m7] 24 (0, 0)) := g3
  have g4 := heap_setCell_same _ T 4 _ 24 (.int .i64 n4) g3
  replace g4 : (((((w2.setCell ⟨T, 0, none⟩ (.int .i64 n0)).setCell ⟨T, 1, none⟩ (.int .i64 n1)).setCell ⟨T, 2, none⟩ (.int .u64 n2)).setCell ⟨T, 3, none⟩ (.int .u64 n3)).setCell ⟨T, 4, none⟩ (.int .i64 n4)).heap[T]? = some (.cells #[.int .i64 n0, .int .i64 n1, .int .u64 n2, .int .u64 n3, .int .i64 n4, .int .i64 m5, .int .i64 m6, .int .i64 m7] 24 (0, 0)) := g4
  have g5 := heap_setCell_same _ T 5 _ 24 (.int .i64 n5) g4
  replace g5 : ((((((w2.setCell ⟨T, 0, none⟩ (.int .i64 n0)).setCell ⟨T, 1, none⟩ (.int .i64 n1)).setCell ⟨T, 2, none⟩ (.int .u64 n2)).setCell ⟨T, 3, none⟩ (.int .u64 n3)).setCell ⟨T, 4, none⟩ (.int .i64 n4)).setCell ⟨T, 5, none⟩ (.int .i64 n5)).heap[T]? = some (.cells #[.int .i64 n0, .int .i64 n1, .int .u64 n2, .int .u64 n3, .int .i64 n4, .int .i64 n5, .int .i64 m6, .int .i64 m7] 24 (0, 0)) := g5
  have g6 := heap_setCell_same _ T 6 _ 24 (.int .i64 n6) g5
  replace g6 : (((((((w2.setCell ⟨T, 0, none⟩ (.int .i64 n0)).setCell ⟨T, 1, none⟩ (.int .i64 n1)).setCell ⟨T, 2, none⟩ (.int .u64 n2)).setCell ⟨T, 3, none⟩ (.int .u64 n3)).setCell ⟨T, 4, none⟩ (.int .i64 n4)).setCell ⟨T, 5, none⟩ (.int .i64 n5)).setCell ⟨T, 6, none⟩ (.int .i64 n6)).heap[T]? = some (.cells #[.int .i64 n0, .int .i64 n1, .int .u64 n2, .int .u64 n3, .int .i64 n4, .int .i64 n5, .int .i64 n6, .int .i64 m7] 24 (0, 0)) := g6
  have g7 := heap_setCell_same _ T 7 _ 24 (.int .i64 n7) g6
  replace g7 : ((((((((w2.setCell ⟨T, 0, none⟩ (.int .i64 n0)).setCell ⟨T, 1, none⟩ (.int .i64 n1)).setCell ⟨T, 2, none⟩ (.int .u64 n2)).setCell ⟨T, 3, none⟩ (.int .u64 n3)).setCell ⟨T, 4, none⟩ (.int .i64 n4)).setCell ⟨T, 5, none⟩ (.int .i64 n5)).setCell ⟨T, 6, none⟩ (.int .i64 n6)).setCell ⟨T, 7, none⟩ (.int .i64 n7)).heap[T]? = some (.cells #[.int .i64 n0, .int .i64 n1, .int .u64 n2, .int .u64 n3, .int .i64 n4, .int .i64 n5, .int .i64 n6, .int .i64 n7] 24 (0, 0)) := g7
  exact g7
theorem bov8 {w w2 : World} {B T : Nat} (n0 n1 n2 n3 n4 n5 n6 n7 : Int) (h : Below B w w2) (hT : B ≤ T) : Below B w ((((((((w2.setCell ⟨T, 0, none⟩ (.int .i64 n0)).setCell ⟨T, 1, none⟩ (.int .i64 n1)).setCell ⟨T, 2, none⟩ (.int .u64 n2)).setCell ⟨T, 3, none⟩ (.int .u64 n3)).setCell ⟨T, 4, none⟩ (.int .i64 n4)).setCell ⟨T, 5, none⟩ (.int .i64 n5)).setCell ⟨T, 6, none⟩ (.int .i64 n6)).setCell ⟨T, 7, none⟩ (.int .i64 n7)) := ((((((((h.setCell (p := ⟨T, 0, none⟩) hT (.int .i64 n0)).setCell (p := ⟨T, 1, none⟩) hT (.int .i64 n1)).setCell (p := ⟨T, 2, none⟩) hT (.int .u64 n2)).setCell (p := ⟨T, 3, none⟩) hT (.int .u64 n3)).setCell (p := ⟨T, 4, none⟩) hT (.int .i64 n4)).setCell (p := ⟨T, 5, none⟩) hT (.int .i64 n5)).setCell (p := ⟨T, 6, none⟩) hT (.int .i64 n6)).setCell (p := ⟨T, 7, none⟩) hT (.int .i64 n7))

theorem resL {W : World} {T : Nat} {tmps : Array Value} {n0 n1 n2 n3 n4 n5 n6 n7 q m : Int} (h : Box W T n0 n1 n2 n3 n4 n5 n6 n7)
    (h2 : tmps[2]? = some (.pointer (some ⟨T, 0, none⟩))) (h3 : tmps[3]? = some (.int .i64 q)) (h4 : tmps[4]? = some (.int .i64 m)) : (results Tryd.f12 tmps).run Tryd.prog W = .ok (.tuple #[T8 n0 n1 n2 n3 n4 n5 n6 n7, .int .i64 q, .int .i64 m]) W := by
  obtain ⟨⟨q0, q1, q2, q3, q4, q5, q6, q7⟩, _⟩ := t8_cells h
  simp [results, Tryd.results12, go_sem, q0, q1, q2, q3, q4, q5, q6, q7, h2, h3, h4]
set_option maxHeartbeats 400000 in
theorem lift8_bad (a : Option Addr) (l cap : Nat) (w : World) (hl : l ≤ 140737488355000) (h : l ≠ 54) :
    Calls Tryd.prog 12 #[.slice a l cap] w fun e w' => e = .returned (.tuple #[T8 0 0 0 0 0 0 0 0, .int .i64 0, .int .i64 60]) ∧ Below w.heap.size w w' := by
  have h1 : ((l : Int) == 54) = false := by simp; omega
  go_enter Tryd.func12, Tryd.ntmps12
  go_wp2
  exact bodyPost_ret (v := .tuple #[T8 0 0 0 0 0 0 0 0, .int .i64 0, .int .i64 60]) (resL (Box.made w 0 0 0 0 0 0 0 0) rfl rfl rfl) rfl ⟨rfl, (Below.refl _ _).alloc (Nat.le_refl _) _⟩

set_option maxHeartbeats 600000 in
set_option maxRecDepth 100000 in
theorem lift8_none (a : Option Addr) (cap : Nat) (xs : List Nat) (w : World) (hx : ∀ x ∈ xs, x < 256) (h : Reads w a 54 (cst xs)) (hn : readN xs = none) :
    Calls Tryd.prog 12 #[.slice a 54 cap] w fun e w' => e = .returned (.tuple #[T8 0 0 0 0 0 0 0 0, .int .i64 0, .int .i64 30]) ∧ Below w.heap.size w w' := by
  have hA := h.below ((Below.refl w.heap.size w).alloc (Nat.le_refl _) (.cells #[.int .i64 0, .int .i64 0, .int .u64 0, .int .u64 0, .int .i64 0, .int .i64 0, .int .i64 0, .int .i64 0] 24))
  have hrd := read_ok a 54 cap 27 xs _ (by omega) (by omega) hx hA
  rw [hn] at hrd
  have HRD : Hid _ := fun (_ : Unit) => hrd
  have HBX : Hid (∀ u, Below (w.heap.size + 1) (w.alloc (.cells #[.int .i64 0, .int .i64 0, .int .u64 0, .int .u64 0, .int .i64 0, .int .i64 0, .int .i64 0, .int .i64 0] 24)) u → Box u w.heap.size 0 0 0 0 0 0 0 0) := fun u hu => (Box.made w 0 0 0 0 0 0 0 0).below (by simpa using hu)
  clear h hA hrd hx hn
  go_enter Tryd.func12, Tryd.ntmps12
  go_wp2_with (go_at_call 19; refine Calls.mono (HRD.out ()) ?_; rintro e u1 ⟨hr, b1⟩; (obtain rfl : e = _ := hr); simp only [size_al] at b1; have bx1 := HBX.out u1 b1; obtain ⟨⟨x0, x1, x2, x3, x4, x5, x6, x7⟩, fz⟩ := t8_cells bx1; have f0 := fz 0; have f1 := fz 1; have f2 := fz 2; have f3 := fz 3; have f4 := fz 4; have f5 := fz 5; have f6 := fz 6; have f7 := fz 7; have HB1 : Hid (Below _ _ _) := b1; have HX1 : Hid (Box _ _ _ _ _ _ _ _ _ _) := bx1; clear fz b1 bx1)
  refine bodyPost_ret (v := .tuple #[T8 0 0 0 0 0 0 0 0, .int .i64 0, .int .i64 30]) (resL (over8 0 0 0 0 0 0 0 0 HX1.out) rfl rfl rfl) rfl ⟨rfl, ?_⟩
  exact bov8 0 0 0 0 0 0 0 0 (((Below.refl w.heap.size w).alloc (Nat.le_refl _) _).trans (HB1.out.mono (by simp))) (Nat.le_refl _)

set_option maxHeartbeats 1000000 in
set_option maxRecDepth 100000 in
theorem lift8_some (a : Option Addr) (cap : Nat) (xs zs : List Nat) (q : Int) (w : World) (hT : Tab w) (hx : ∀ x ∈ xs, x < 256) (h : Reads w a 54 (cst xs)) (hn : readN xs = some (zs, q)) :
    Calls Tryd.prog 12 #[.slice a 54 cap] w fun e w' => e = .returned (.tuple #[tagsOf (cst zs), .int .i64 q, .int .i64 0]) ∧ Below w.heap.size w w' := by
  have hA := h.below ((Below.refl w.heap.size w).alloc (Nat.le_refl _) (.cells #[.int .i64 0, .int .i64 0, .int .u64 0, .int .u64 0, .int .i64 0, .int .i64 0, .int .i64 0, .int .i64 0] 24))
  have hrd := read_ok a 54 cap 27 xs _ (by omega) (by omega) hx hA
  rw [hn] at hrd
  have HRD : Hid _ := fun (_ : Unit) => hrd
  have HBX : Hid (∀ u, Below (w.heap.size + 1) (w.alloc (.cells #[.int .i64 0, .int .i64 0, .int .u64 0, .int .u64 0, .int .i64 0, .int .i64 0, .int .i64 0, .int .i64 0] 24)) u → Box u w.heap.size 0 0 0 0 0 0 0 0) := fun u hu => (Box.made w 0 0 0 0 0 0 0 0).below (by simpa using hu)
  have HT : Hid (Tab w) := hT
  obtain ⟨n0, hn0⟩ : ∃ n, n = getL (cst zs) 0 1 := ⟨_, rfl⟩
  obtain ⟨n1, hn1⟩ : ∃ n, n = getL (cst zs) 1 1 := ⟨_, rfl⟩
  obtain ⟨n2, hn2⟩ : ∃ n, n = getL (cst zs) 2 6 := ⟨_, rfl⟩
  obtain ⟨n3, hn3⟩ : ∃ n, n = getL (cst zs) 8 6 := ⟨_, rfl⟩
  obtain ⟨n4, hn4⟩ : ∃ n, n = getL (cst zs) 14 4 := ⟨_, rfl⟩
  obtain ⟨n5, hn5⟩ : ∃ n, n = getL (cst zs) 18 4 := ⟨_, rfl⟩
  obtain ⟨n6, hn6⟩ : ∃ n, n = getL (cst zs) 22 2 := ⟨_, rfl⟩
  obtain ⟨n7, hn7⟩ : ∃ n, n = getL (cst zs) 24 2 := ⟨_, rfl⟩
  have htag : tagsOf (cst zs) = T8 n0 n1 n2 n3 n4 n5 n6 n7 := by rw [hn0, hn1, hn2, hn3, hn4, hn5, hn6, hn7]; rfl
  have HTG : Hid (tagsOf (cst zs) = T8 n0 n1 n2 n3 n4 n5 n6 n7) := htag
  rw [htag]
  clear h hA hrd hx hn htag hn0 hn1 hn2 hn3 hn4 hn5 hn6 hn7 hT
  go_enter Tryd.func12, Tryd.ntmps12
  go_wp2_with (first
    | (go_at_call 19; refine Calls.mono (HRD.out ()) ?_; rintro e u1 ⟨hr, b1⟩; obtain ⟨he, hr1⟩ := read_got hr; simp only [size_al] at b1 he hr1; subst he; have bx1 := HBX.out u1 b1; have bw1 := ((Below.refl w.heap.size w).alloc (Nat.le_refl _) (.cells #[.int .i64 0, .int .i64 0, .int .u64 0, .int .u64 0, .int .i64 0, .int .i64 0, .int .i64 0, .int .i64 0] 24)).trans (b1.mono (by simp)); clear b1 hr)
    | (go_at_call 11; have h9 := hr1; clear h9; refine (read8_ok _ _ (cst zs) _ ?_ ?_).mono ?_; exact HT.out.below bw1; (with_reducible exact hr1); rintro e u2 ⟨rfl, b2⟩; rw [HTG.out]; have b2A := b2.alloc b2.size (.cells #[.int .i64 n0, .int .i64 n1, .int .u64 n2, .int .u64 n3, .int .i64 n4, .int .i64 n5, .int .i64 n6, .int .i64 n7] 24); have bx2 := bx1.below b2A; obtain ⟨⟨x0, x1, x2, x3, x4, x5, x6, x7⟩, fz⟩ := t8_cells bx2; have f0 := fz 0; have f1 := fz 1; have f2 := fz 2; have f3 := fz 3; have f4 := fz 4; have f5 := fz 5; have f6 := fz 6; have f7 := fz 7; have bw2 := bw1.trans (b2A.mono bw1.size); have HB2 : Hid (Below _ _ _) := bw2; have HX2 : Hid (Box _ _ _ _ _ _ _ _ _ _) := bx2; clear fz b2 b2A bw2 bx2 bx1 bw1 hr1))
  refine bodyPost_ret (v := .tuple #[T8 n0 n1 n2 n3 n4 n5 n6 n7, .int .i64 q, .int .i64 0]) (resL (over8 n0 n1 n2 n3 n4 n5 n6 n7 HX2.out) rfl rfl rfl) rfl ⟨rfl, ?_⟩
  exact bov8 n0 n1 n2 n3 n4 n5 n6 n7 HB2.out (Nat.le_refl _)

end Go.Proofs.YtgdmagmbkmgdfabDoor
