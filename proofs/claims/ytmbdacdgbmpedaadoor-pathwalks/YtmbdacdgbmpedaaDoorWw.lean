/-
  SEAT YtmbdacdgbmpedaaDoor: PathWalks' walk.
-/
import Derived.Test.YtmbdacdgbmpedaaDoorWa
import Derived.Test.YtmbdacdgbmpedaaDoorWr
namespace Go.Proofs.YtmbdacdgbmpedaaDoor
open Go.RowKit
set_option linter.unusedVariables false

theorem got_nil (u : World) : Got (u.alloc (.cells #[.slice none 0 0] 36)) u.heap.size u.heap.size (.slice none 0 0) [] :=
  ⟨heap_alloc_new u _, owA_nil _ _, (fun h => by cases h), Nat.le_refl _⟩

set_option maxHeartbeats 4000000 in
set_option maxRecDepth 100000 in
theorem walks_walk (a0 a1 a2 a3 : Option Addr) (n0 n1 n2 n3 c0 c1 c2 c3 : Nat) (T : Tr) (s : ByteArray) (last : Bool) (w : World)
    (hT : TrOn w a0 a1 a2 a3 n0 n1 n2 n3 T) (hs0 : s.size ≤ 140737488351232) (hlk : ∀ x ∈ T.lnk, x.size ≤ 9223372036854775000) :
    Calls Tryd.prog 4 #[.agg #[.slice a0 n0 c0, .slice a1 n1 c1, .slice a2 n2 c2, .slice a3 n3 c3], .string s, .bool last] w fun e w' => e = .returned (.bool true) ∧ Below w.heap.size w w' := by
  have hs : s.size ≤ 9223372036854775807 := by omega
  have HT : Hid (TrOn w a0 a1 a2 a3 n0 n1 n2 n3 T) := hT
  have HLK : Hid (∀ x ∈ T.lnk, x.size ≤ 9223372036854775000) := hlk
  clear hT hlk hs0
  obtain ⟨R, hR⟩ : ∃ R, resW T s last = R := ⟨_, rfl⟩
  have hRs : R.asked.length ≤ 1000 := by
    rw [← hR]; unfold resW
    split
    · exact walk_small _ _ _
    · exact Nat.zero_le _
  obtain ⟨W, hW⟩ : ∃ W, w.alloc (treeO a0 a1 a2 a3 n0 n1 n2 n3 c0 c1 c2 c3) = W := ⟨_, rfl⟩
  have HBW : Hid (Below w.heap.size w W) := by rw [← hW]; exact (Below.refl _ _).alloc (Nat.le_refl _) _
  have hWs : W.heap.size = w.heap.size + 1 := by rw [← hW]; simp
  have HBX : Hid (W.heap[w.heap.size]? = some (treeO a0 a1 a2 a3 n0 n1 n2 n3 c0 c1 c2 c3)) := by rw [← hW]; exact heap_alloc_new w _
  have t2 := HBX.out
  have f0 : W.cell? ⟨w.heap.size, 0, none⟩ = some (.slice a0 n0 c0) := by rw [cell_of_row _ _ 0 _ 35 (0, 0) t2]; rfl
  have f1 : W.cell? ⟨w.heap.size, 1, none⟩ = some (.slice a1 n1 c1) := by rw [cell_of_row _ _ 1 _ 35 (0, 0) t2]; rfl
  have f2 : W.cell? ⟨w.heap.size, 2, none⟩ = some (.slice a2 n2 c2) := by rw [cell_of_row _ _ 2 _ 35 (0, 0) t2]; rfl
  have f3 : W.cell? ⟨w.heap.size, 3, none⟩ = some (.slice a3 n3 c3) := by rw [cell_of_row _ _ 3 _ 35 (0, 0) t2]; rfl
  have HTW : Hid (TrOn W a0 a1 a2 a3 n0 n1 n2 n3 T) := HT.out.below HBW.out
  have hwW : w.heap.size < W.heap.size := by omega
  clear t2 hWs
  go_enter Tryd.func4, Tryd.ntmps4
  go_wp2_with (first
    | (go_at_call 12; refine (rwalk_any a0 a1 a2 a3 n0 n1 n2 n3 c0 c1 c2 c3 T s last W HTW.out hs HLK.out).mono ?_; rintro e u ⟨va, rfl, owa, bel⟩; rw [hR] at owa ⊢; obtain ⟨sa, sc, rfl, _, _⟩ := owa.shape; have A1 : Hid (OwA u W.heap.size (.slice sa R.asked.length sc) R.asked) := owa; have B1 : Hid (Below W.heap.size W u) := bel; have BX1 : Hid (u.heap[w.heap.size]? = some (treeO a0 a1 a2 a3 n0 n1 n2 n3 c0 c1 c2 c3)) := box_kept HBX.out bel hwW; have hu : W.heap.size ≤ u.heap.size := bel.size; have BU : Hid (Below w.heap.size w u) := HBW.out.trans (bel.mono (Nat.le_of_lt hwW)); have HTU : Hid (∀ u', Below u.heap.size (u.alloc (.cells #[.slice none 0 0] 36)) u' → TrOn u' a0 a1 a2 a3 n0 n1 n2 n3 T) := (fun u' hb => HT.out.below ((BU.out.alloc BU.out.size _).trans (hb.mono BU.out.size))); have HGU : Hid (Got (u.alloc (.cells #[.slice none 0 0] 36)) u.heap.size u.heap.size (.slice none 0 0) []) := got_nil u; have HXU : Hid (∀ u', Below u.heap.size (u.alloc (.cells #[.slice none 0 0] 36)) u' → u'.heap[w.heap.size]? = some (.cells #[.slice a0 n0 c0, .slice a1 n1 c1, .slice a2 n2 c2, .slice a3 n3 c3] 35 (0, 0))) := (fun u' hb => (by rw [hb.block _ (Nat.lt_of_lt_of_le hwW hu), Below.heap_alloc _ _ _ (Nat.lt_of_lt_of_le hwW hu)]; exact BX1.out)); clear owa bel f0 f1 f2 f3)
    | (go_at_call 13; refine (pwalk_any a0 a1 a2 a3 n0 n1 n2 n3 c0 c1 c2 c3 T s last u.heap.size u.heap.size w.heap.size (.slice none 0 0) _ HTU.out HGU.out HXU.out (by simp) hs HLK.out).mono ?_; rintro e u2 ⟨rfl, ⟨v2, got2⟩, bel2⟩; rw [hR] at got2 ⊢; obtain ⟨ga, gc, rfl, _, _⟩ := got2.row.shape; have cg : u2.cell? ⟨u.heap.size, 0, none⟩ = some (.slice ga R.asked.length gc) := (by rw [cell_of_row _ _ 0 _ 36 (0, 0) got2.blk]; rfl); have G2 : Hid (OwA u2 u.heap.size (.slice ga R.asked.length gc) R.asked) := got2.row; have A2 : Hid (OwA u2 W.heap.size (.slice sa R.asked.length sc) R.asked) := A1.out.below (((Below.refl _ _).alloc (Nat.le_refl _) _).trans bel2); have B2 : Hid (Below w.heap.size w u2) := (BU.out.alloc BU.out.size _).trans (bel2.mono BU.out.size); clear got2 bel2 A1 B1 BX1 HTU HGU HXU HT HLK HTW HBX hR))
  clear BU
  go_loopw [13] (fun i wr => ∃ k q : Nat, k ≤ R.asked.length ∧ i = .int .i64 k ∧ wr = u2.drewN q) (fun i _ => R.asked.length - (intOf i).toNat)
  case atStart => exact ⟨0, 0, Nat.zero_le _, rfl, rfl⟩
  case round =>
    obtain ⟨k, q, hk, rfl, rfl⟩ := hrel
    by_cases hlt : k < R.asked.length
    · obtain ⟨⟨p, x⟩, hx⟩ : ∃ y, R.asked[k]? = some y := ⟨_, List.getElem?_eq_getElem hlt⟩
      obtain ⟨g, c, hg, hg0, hg1⟩ := G2.out.cells hx
      obtain ⟨g', c', hg', hg0', hg1'⟩ := A2.out.cells hx
      injection hg with hga _ hgc
      injection hg' with hga' _ hgc'
      subst hga hga' hgc hgc'
      have HLT : Hid (k < R.asked.length) := hlt
      have m1 : (k : Int) < (R.asked.length : Int) := by omega
      have hd1 : decide ((k : Int) < (R.asked.length : Int)) = true := decide_eq_true m1
      clear hx
      simp only at hg0 hg1 hg0' hg1'
      go_wp2
      go_quiet (fail)
      go_wp2
      go_roundw
      case rel => exact ⟨k + 1, q + nq, Nat.succ_le_of_lt HLT.out, by go_num, rfl⟩
      case measure => have := HLT.out; simp [intOf]; omega
    · have hkk : R.asked.length = k := by omega
      have m1 : ¬ (k : Int) < (R.asked.length : Int) := by omega
      go_wp2
      go_ret
      exact ⟨rfl, below_drewN B2.out _⟩
end Go.Proofs.YtmbdacdgbmpedaaDoor
