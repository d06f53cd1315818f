/-
  SEAT YtgdmagmbkmgdfabDoor: copies; a list of rows of the call's own.
-/
import Derived.Test.YtgdmagmbkmgdfabDoorUnC
import Derived.Test.YtgdmagmbkmgdfabDoorLv
import Derived.Laws.CopyOwn
namespace Go.Proofs.YtgdmagmbkmgdfabDoor
open Go.RowKit
set_option linter.unusedVariables false

theorem info5s : (Tryd.prog.info? 5).map (·.size) = some 1 := by kernel_rfl

/-- copy over a whole row. -/
theorem run_copy_all {w : World} (ty : TypeId) (B g n cap c : Nat) (xs zs : List Int) (ad : Addr)
    (hown : w.ownsRow B 5 1 (.slice (some ⟨g, 0, none⟩) n cap) n (xs.map (Value.int .u8))) (hrd : Reads w (some ad) n zs) :
    ∃ w', (Builtin.copy_ #[25, 25] ty #[.slice (some ⟨g, 0, none⟩) n cap, .slice (some ad) n c]).run Tryd.prog w = .ok (goInt n) w' ∧ w'.ownsRow B 5 1 (.slice (some ⟨g, 0, none⟩) n cap) n (zs.map (Value.int .u8)) ∧ w.grownBy w' (some g) := by
  have hzl := hrd.1
  rcases hown.2 with ⟨h0, _⟩ | ⟨g', cap', cur, hv, hB, hg, hnc, hcm, hcs, htk⟩
  · cases h0
  · cases hv
    have key := run_copy_row (P := Tryd.prog) w 25 25 ty 5 g 0 n cap ad n c cur 5 (zs.map (Value.int .u8)) Tryd.underlying25 info5s hg (by simp [hzl]) hrd.news (by simp [hzl]; omega) (ints_oneCell _ _)
    simp only [List.length_map, hzl, List.take_zero, List.nil_append, Nat.zero_add] at key
    refine ⟨_, key, ⟨by simp [hzl], Or.inr ⟨g, cap, _, rfl, hB, setRow_heap w g cur _ 5 (0, 0) hg, hnc, hcm, ?_, ?_⟩⟩, ⟨rfl, rfl, rfl, by simp, fun k hk hne => setRow_other w g k _ (fun e => hne (by rw [e]))⟩⟩
    · simp [hzl, hcs]; omega
    · simp only [Nat.mul_one]
      rw [List.take_left' (by simp [hzl])]
theorem nine {w : World} {B : Nat} {R : List (Value × List Int)} (h : Live w B R) (P : List (Value × List Int)) (hs : P.reverse.Sublist R) (hsm : ∀ p ∈ P, p.2.length ≤ 100000) (m : Nat) (hm : P.length = m) (cs : Array Value) (hcs : cs.toList = P.map (·.1)) :
    Apart (w.alloc (.cells cs 25)) B w.heap.size m (fun i => (P.getD i (.slice none 0 0, [])).1) (fun i => (P.getD i (.slice none 0 0, [])).2.length) (fun i => (P.getD i (.slice none 0 0, [])).2) := by
  subst hm
  have hget : ∀ i, (hi : i < P.length) → P.getD i (.slice none 0 0, []) = P[i] := fun i hi => by rw [List.getD_eq_getElem?_getD, List.getElem?_eq_getElem hi]; rfl
  have hmem : ∀ i, (hi : i < P.length) → P[i] ∈ R := fun i hi => hs.subset (List.mem_reverse.2 (List.getElem_mem hi))
  have hpw : P.Pairwise Far := by
    have h1 := List.Pairwise.sublist hs h.far
    rw [List.pairwise_reverse] at h1
    exact h1.imp fun h => h.symm
  rw [List.pairwise_iff_getElem] at hpw
  refine ⟨fun i hi => ?_, fun i hi => ?_, fun i hi => ?_, fun i j hi hj hne g hb => ?_, fun i hi => ?_, by simp⟩
  · rw [hget i hi]
    have : cs[i]? = some P[i].1 := by rw [← Array.getElem?_toList, hcs, List.getElem?_map, List.getElem?_eq_getElem hi]; rfl
    have key : ∀ (u : World) (g : Nat), u.heap[g]? = some (.cells cs 25 (0, 0)) → u.cell? ⟨g, i, none⟩ = some P[i].1 := fun u g h => by simp [World.cell?, h, this]
    exact key _ _ (heap_alloc_new w (.cells cs 25))
  · rw [hget i hi]; exact hsm _ (List.getElem_mem hi)
  · rw [hget i hi]; exact (h.rows _ (hmem i hi)).alloc _
  · rw [hget i hi] at hb
    rw [hget j hj]
    rcases Nat.lt_or_gt_of_ne hne with h1 | h1
    · exact hpw i j hi hj h1 g hb
    · exact (hpw j i hj hi h1).symm g hb
  · rw [hget i hi]
    intro e
    have := ((h.rows _ (hmem i hi)).lt _ e).2
    omega

end Go.Proofs.YtgdmagmbkmgdfabDoor
