/-
  SEAT Ytgijbpkfheillaa: picks told bad, one behind the other.
-/
import Derived.Test.YtgijbpkfheillaaRoA
import Derived.Test.YtgijbpkfheillaaBlS
namespace Go.Proofs.Ytgijbpkfheillaa
open Go.RowKit
set_option linter.unusedVariables false

theorem BookAt.grown {w w' : World} {gb gk : Nat} {P : Int} {es : List Ent} {cur last vic : Int} {row : Option Nat} (h : BookAt w gb gk P es cur last vic) (hg : w.grownBy w' row) (h1 : row ≠ some gb) (h2 : row ≠ some gk) : BookAt w' gb gk P es cur last vic :=
  ⟨(hg.block gb (lt_of_block h.box) (fun e => h1 e.symm)).trans h.box, (hg.block gk (lt_of_block h.row) (fun e => h2 e.symm)).trans h.row⟩
theorem pick_some (gb gk : Nat) (P : Int) (es : List Ent) (cur last vic : Int) (w : World) (h : BookAt w gb gk P es cur last vic) (hn : es.length ≤ 5000) (hn0 : 0 < es.length) (hc : -1 ≤ cur) (hc2 : cur < es.length) (hp : 0 < cnt [0] es es.length) :
    Calls Try.prog 10 #[.pointer (some ⟨gb, 0, none⟩)] w fun e w' =>
      ∃ i, i < es.length ∧ (es.getD (nthB es.length cur i) Ent.zero).s = 0 ∧ (∀ j, j < i → (es.getD (nthB es.length cur j) Ent.zero).s ≠ 0) ∧ e = .returned (.tuple #[.int .i64 (nthB es.length cur i : Nat), .bool true]) ∧ BookAt w' gb gk P es (nthB es.length cur i : Nat) last vic ∧ w.grownBy w' (some gb) := by
  refine (pick_any gb gk P es cur last vic w h hn hn0 hc hc2).mono ?_
  rintro e u (h1 | ⟨h1, _⟩)
  · exact h1
  · have := none_cnt ⟨hc, hc2⟩ h1
    omega
theorem pick_none (gb gk : Nat) (P : Int) (es : List Ent) (cur last vic : Int) (w : World) (h : BookAt w gb gk P es cur last vic) (hn : es.length ≤ 5000) (hn0 : 0 < es.length) (hc : -1 ≤ cur) (hc2 : cur < es.length) (hp : cnt [0] es es.length = 0) :
    Calls Try.prog 10 #[.pointer (some ⟨gb, 0, none⟩)] w fun e w' => e = .returned (.tuple #[.int .i64 0, .bool false]) ∧ ∃ q, w' = w.drewN q := by
  refine (pick_any gb gk P es cur last vic w h hn hn0 hc hc2).mono ?_
  rintro e u (⟨i, hi, h0, _⟩ | ⟨_, h1⟩)
  · have := some_cnt (nth_lt es.length cur i hn0) h0
    omega
  · exact h1

def SeenAt (w : World) (gs : Nat) (sn : List Bool) : Prop := w.heap[gs]? = some (.cells (boolsV sn).toArray 4 (0, 0))
section
variable {w w' : World} {gs : Nat} {sn : List Bool}
theorem SeenAt.lt (h : SeenAt w gs sn) : gs < w.heap.size := lt_of_block h
theorem SeenAt.cell (h : SeenAt w gs sn) (x : Nat) (hx : x < sn.length) : w.cell? ⟨gs, x, none⟩ = some (.bool (sn.getD x false)) := by
  unfold SeenAt at h
  simp [World.cell?, h, boolsV, hx, List.getD_eq_getElem?_getD]
theorem SeenAt.free (h : SeenAt w gs sn) (x : Nat) : w.frozen? ⟨gs, x, none⟩ = false := by
  unfold SeenAt at h
  simp [World.frozen?, h]
theorem SeenAt.set (h : SeenAt w gs sn) (x : Nat) (b : Bool) : SeenAt (w.setCell ⟨gs, x, none⟩ (.bool b)) gs (sn.set x b) := by
  have h9 := heap_setCell_same w gs x _ 4 (.bool b) h
  unfold SeenAt
  rw [h9]
  simp [boolsV, List.map_set]
theorem SeenAt.grown {row : Option Nat} (h : SeenAt w gs sn) (hg : w.grownBy w' row) (h1 : row ≠ some gs) : SeenAt w' gs sn :=
  (hg.block gs h.lt (fun e => h1 e.symm)).trans h
theorem SeenAt.ne (h : SeenAt w gs sn) {gb gk : Nat} {P : Int} {es : List Ent} {cur last vic : Int} (k : BookAt w gb gk P es cur last vic) : gs ≠ gb ∧ gs ≠ gk := by
  unfold SeenAt at h
  refine ⟨?_, ?_⟩
  · rintro rfl
    rw [k.box] at h
    simp at h
  · rintro rfl
    rw [k.row] at h
    simp at h
end
end Go.Proofs.Ytgijbpkfheillaa
