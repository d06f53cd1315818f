/-
  SEAT YtnmnhgagnfodhaaDoor: Rb.
-/
import Derived.Test.YtnmnhgagnfodhaaDoorMbc
namespace Go.Proofs.YtnmnhgagnfodhaaDoor
open Go.RowKit
set_option linter.unusedVariables false
theorem RdAt.set {w : World} {B q i j : Nat} {rest : List Int} (h : RdAt w B q rest) (hq : i ≠ q) (hB : B ≤ i) (v : Value) : RdAt (w.setCell ⟨i, j, none⟩ v) B q rest :=
 h.other (set_grown w i j v) (fun e => hq (by cases e; rfl)) (fun k e => by cases e; exact hB)
set_option maxHeartbeats 1000000 in
set_option maxRecDepth 100000 in
theorem geo_short (B q : Nat) (rest : List Int) (w : World) (hR : RdAt w B q rest) (hl : rest.length ≤ 200000000000000) (hn : rest.length < 5) :
  Calls Tryd.prog 68 #[.pointer (some ⟨q, 0, none⟩)] w fun e w' => e = .returned (.tuple #[.agg #[.int .i64 0, .int .i64 0, .int .i64 0], .int .i64 10]) ∧ w.grownBy w' (some q) := by
 have hR2 := hR.below (below_alloc w (.cells #[.int .i64 0, .int .i64 0, .int .i64 0] 30))
 clear hR
 go_enter Tryd.func68, Tryd.ntmps68
 go_wp2_with (go_at_call 66; refine (take_short B q 5 rest _ hR2 hl hn (by omega)).mono ?_; rintro e u1 ⟨rfl, hu1⟩; rw [hu1])
 exact bodyPost_ret (v := .tuple #[.agg #[.int .i64 0, .int .i64 0, .int .i64 0], .int .i64 10]) (by simp [results, Tryd.results68, go_sem]) rfl ⟨rfl, World.grownBy_alloc w _ _⟩
def geoB (r : List Int) : Int := getL r 0 2
def geoP (r : List Int) : Int := getL (r.drop 2) 0 2
def geoS (r : List Int) : Int := getL (r.drop 4) 0 1
theorem getL_drop (zs : List Int) (j t : Nat) : ∀ k, getL (zs.drop j) t k = getL zs (j + t) k
 | 0 => rfl
 | k + 1 => by
  rw [getL, getL, getL_drop zs j t k]
  congr 2
  simp [List.getD_eq_getElem?_getD, Nat.add_assoc]
theorem getL_front (zs : List Int) (n t : Nat) : ∀ k, t + k ≤ n → getL (zs.take n) t k = getL zs t k
 | 0, _ => rfl
 | k + 1, h => by
  rw [getL, getL, getL_front zs n t k (by omega), List.getD_eq_getElem?_getD, List.getElem?_take_of_lt (by omega), ← List.getD_eq_getElem?_getD]
set_option maxHeartbeats 2000000 in
set_option maxRecDepth 100000 in
theorem geo_ok (B q : Nat) (rest : List Int) (w : World) (hR : RdAt w B q rest) (hl : rest.length ≤ 200000000000000) (hn : 5 ≤ rest.length) :
  Calls Tryd.prog 68 #[.pointer (some ⟨q, 0, none⟩)] w fun e w' => e = .returned (.tuple #[.agg (if Fits (geoB rest) (geoP rest) (geoS rest) then #[.int .i64 (geoB rest), .int .i64 (geoP rest), .int .i64 (geoS rest)] else #[.int .i64 0, .int .i64 0, .int .i64 0]), .int .i64 (spE (geoB rest) (geoP rest) (geoS rest))]) ∧ RdAt w' B q (rest.drop 5) ∧ w.grownBy w' (some q) := by
 have hqlt := hR.lt
 have hR2 : RdAt (w.alloc (.cells #[.int .i64 0, .int .i64 0, .int .i64 0] 30)) B q rest := hR.below (below_alloc w _)
 have hr0 : (w.alloc (.cells #[.int .i64 0, .int .i64 0, .int .i64 0] 30)).heap[w.heap.size]? = some (.cells #[.int .i64 0, .int .i64 0, .int .i64 0] 30 (0, 0)) := heap_alloc_new w _
 have HR2 : Hid _ := hR2
 have HR0 : Hid _ := hr0
 obtain ⟨V0, hV0⟩ : ∃ V, geoB rest = V := ⟨_, rfl⟩
 obtain ⟨V1, hV1⟩ : ∃ V, geoP rest = V := ⟨_, rfl⟩
 obtain ⟨V2, hV2⟩ : ∃ V, geoS rest = V := ⟨_, rfl⟩
 rw [hV0, hV1, hV2]
 have H0 : Hid (getL (rest.take 5) 0 2 = V0) := by rw [← hV0]; exact getL_front rest 5 0 2 (by omega)
 have H1 : Hid (getL ((rest.take 5).drop 2) 0 2 = V1) := by rw [← hV1]; unfold Hid geoP; rw [getL_drop, getL_drop]; exact getL_front rest 5 2 2 (by omega)
 have H2 : Hid (getL (((rest.take 5).drop 2).drop 2) 0 1 = V2) := by rw [← hV2]; unfold Hid geoS; rw [List.drop_drop, getL_drop, getL_drop]; exact getL_front rest 5 4 1 (by omega)
 have hl5 : (rest.take 5).length = 5 := by simp; omega
 have HL5 : Hid ((rest.take 5).length = 5) := hl5
 clear hR hR2 hr0 hV0 hV1 hV2 hl5
 cases hf : Fits V0 V1 V2 with
 | true =>
  have EE1 : spE V0 V1 V2 = 0 := by unfold spE; rw [hf]; rfl
  have EE2 : spN V0 V1 V2 = 54 + 3 * V2 := by unfold spN; rw [hf]; rfl
  rw [EE1, if_pos rfl]
  go_enter Tryd.func68, Tryd.ntmps68
  go_wp2_with (first
   | (go_at_call 66; refine (take_ok B q 5 rest _ HR2.out hl hn).mono ?_; rintro e u1 ⟨bb, off, c, rfl, r1, hc1, hc2, hbB, rd1, g1⟩
      have HO : Hid (RdAt ((u1.alloc (.cells #[.slice (some ⟨bb, off, none⟩) 5 c] 97)).alloc (.cells #[.int .i64 0, .int .i64 0, .int .i64 0] 30)) B q (rest.drop 5)) := (rd1.below (below_alloc u1 _)).below (below_alloc _ _)
      have hsz : w.heap.size + 1 ≤ u1.heap.size := by have := g1.size; simp at this; omega
      have HI : Hid (RdAt ((u1.alloc (.cells #[.slice (some ⟨bb, off, none⟩) 5 c] 97)).alloc (.cells #[.int .i64 0, .int .i64 0, .int .i64 0] 30)) B u1.heap.size (rest.take 5)) := by
       refine RdAt.below (w := u1.alloc (.cells #[.slice (some ⟨bb, off, none⟩) 5 c] 97)) ⟨bb, off, c, ?_, ?_, ?_, hc2, hbB, by omega⟩ (below_alloc _ _)
       ·simp only [HL5.out]; exact heap_alloc_new _ _
       ·simp only [HL5.out]; exact r1.below (below_alloc _ _)
       ·simp only [HL5.out]; exact hc1
      have HGB : Hid (((u1.alloc (.cells #[.slice (some ⟨bb, off, none⟩) 5 c] 97)).alloc (.cells #[.int .i64 0, .int .i64 0, .int .i64 0] 30)).heap[u1.heap.size + 1]? = some (.cells #[.int .i64 0, .int .i64 0, .int .i64 0] 30 (0, 0))) := by
       have h9 := heap_alloc_new (u1.alloc (.cells #[.slice (some ⟨bb, off, none⟩) 5 c] 97)) (.cells #[.int .i64 0, .int .i64 0, .int .i64 0] 30); rw [World.size_alloc] at h9; exact h9
      have HRB : Hid (((u1.alloc (.cells #[.slice (some ⟨bb, off, none⟩) 5 c] 97)).alloc (.cells #[.int .i64 0, .int .i64 0, .int .i64 0] 30)).heap[w.heap.size]? = some (.cells #[.int .i64 0, .int .i64 0, .int .i64 0] 30 (0, 0))) := by
       unfold Hid
       rw [Below.heap_alloc _ _ _ (by simp; omega), Below.heap_alloc _ _ _ (by omega)]
       exact (g1.block w.heap.size (by simp) (fun e => by have e' := Option.some.inj e; omega)).trans HR0.out
      have HG1 : Hid (w.grownBy ((u1.alloc (.cells #[.slice (some ⟨bb, off, none⟩) 5 c] 97)).alloc (.cells #[.int .i64 0, .int .i64 0, .int .i64 0] 30)) (some q)) := grownBy_trans (grownBy_trans (World.grownBy_alloc w _ _) g1) (grownBy_trans (World.grownBy_alloc u1 _ _) (World.grownBy_alloc _ _ _))
      clear r1 rd1 g1
      have T1 : Hid True := trivial)
   | (go_at_call 67; have zz := T1; clear T1 zz
      refine (num_ok B u1.heap.size 2 (rest.take 5) _ HI.out (by have := HL5.out; omega) (by have := HL5.out; omega) (by omega) (by omega)).mono ?_; rintro e u2 ⟨rfl, rd2, g2⟩; rw [H0.out]
      have HI2 : Hid (RdAt (u2.setCell ⟨u1.heap.size + 1, 0, none⟩ (.int .i64 V0)) B u1.heap.size ((rest.take 5).drop 2)) := rd2.set (by omega) (by omega) _
      have hg2 : u2.heap[u1.heap.size + 1]? = some (.cells #[.int .i64 0, .int .i64 0, .int .i64 0] 30 (0, 0)) := (g2.block _ (Array.getElem?_eq_some_iff.1 HGB.out).1 (fun e => by have e' := Option.some.inj e; omega)).trans HGB.out
      have HGB2 : Hid ((u2.setCell ⟨u1.heap.size + 1, 0, none⟩ (.int .i64 V0)).heap[u1.heap.size + 1]? = some (.cells #[.int .i64 V0, .int .i64 0, .int .i64 0] 30 (0, 0))) := blk3_0 hg2 _
      obtain ⟨a0, a1, a2, a3, a4, a5⟩ := blk3_cells hg2
      have hgg : ((u1.alloc (.cells #[.slice (some ⟨bb, off, none⟩) 5 c] 97)).alloc (.cells #[.int .i64 0, .int .i64 0, .int .i64 0] 30)).grownBy u2 (some u1.heap.size) := g2
      have HO2 : Hid (RdAt (u2.setCell ⟨u1.heap.size + 1, 0, none⟩ (.int .i64 V0)) B q (rest.drop 5)) := (HO.out.other g2 (fun e => by have e' := Option.some.inj e; omega) (fun k e => by have e' := Option.some.inj e; omega)).set (by omega) (by omega) _
      have HRB2 : Hid ((u2.setCell ⟨u1.heap.size + 1, 0, none⟩ (.int .i64 V0)).heap[w.heap.size]? = some (.cells #[.int .i64 0, .int .i64 0, .int .i64 0] 30 (0, 0))) := ((set_grown u2 _ 0 _).block w.heap.size (by have := g2.size; simp at this; omega) (fun e => by have e' := Option.some.inj e; omega)).trans ((g2.block _ (Array.getElem?_eq_some_iff.1 HRB.out).1 (fun e => by have e' := Option.some.inj e; omega)).trans HRB.out)
      have HG2 : Hid (∀ i, i < w.heap.size → i ≠ q → (u2.setCell ⟨u1.heap.size + 1, 0, none⟩ (.int .i64 V0)).heap[i]? = w.heap[i]?) := fun i hi hne => by
       rw [(set_grown u2 (u1.heap.size + 1) 0 (.int .i64 V0)).block i (by have := g2.size; simp at this; omega) (fun e => by have e' := Option.some.inj e; omega), g2.block i (by simp; omega) (fun e => by have e' := Option.some.inj e; omega)]
       exact HG1.out.block i hi (fun e => hne (by cases e; rfl))
      have HW2 : Hid (w.os = u2.os ∧ w.tape = u2.tape ∧ w.output = u2.output ∧ ((u1.alloc (.cells #[.slice (some ⟨bb, off, none⟩) 5 c] 97)).alloc (.cells #[.int .i64 0, .int .i64 0, .int .i64 0] 30)).heap.size ≤ u2.heap.size) := ⟨(g2.os.trans HG1.out.os).symm, (g2.tape.trans HG1.out.tape).symm, (g2.output.trans HG1.out.output).symm, g2.size⟩
      clear rd2 g2 hg2 hgg
      have T2 : Hid True := trivial)
   | (go_at_call 67; have zz := T2; clear T2 zz a0 a1 a2 a3 a4 a5
      refine (num_ok B u1.heap.size 2 ((rest.take 5).drop 2) _ HI2.out (by have := HL5.out; simp only [List.length_drop]; omega) (by have := HL5.out; simp only [List.length_drop]; omega) (by omega) (by omega)).mono ?_; rintro e u3 ⟨rfl, rd3, g3⟩; rw [H1.out]
      have HG3 : Hid _ := g3
      have HRD3 : Hid (RdAt u3 B u1.heap.size (((rest.take 5).drop 2).drop 2)) := rd3
      have HI3 : Hid (RdAt (u3.setCell ⟨u1.heap.size + 1, 1, none⟩ (.int .i64 V1)) B u1.heap.size (((rest.take 5).drop 2).drop 2)) := rd3.set (by omega) (by omega) _
      have hg3 : u3.heap[u1.heap.size + 1]? = some (.cells #[.int .i64 V0, .int .i64 0, .int .i64 0] 30 (0, 0)) := (g3.block _ (Array.getElem?_eq_some_iff.1 HGB2.out).1 (fun e => by have e' := Option.some.inj e; omega)).trans HGB2.out
      have HGB3 : Hid ((u3.setCell ⟨u1.heap.size + 1, 1, none⟩ (.int .i64 V1)).heap[u1.heap.size + 1]? = some (.cells #[.int .i64 V0, .int .i64 V1, .int .i64 0] 30 (0, 0))) := blk3_1 hg3 _
      obtain ⟨a0, a1, a2, a3, a4, a5⟩ := blk3_cells hg3
      clear rd3 g3 hg3
      have T3 : Hid True := trivial)
   | (go_at_call 67; have zz := T3; clear T3 zz a0 a1 a2 a3 a4 a5
      refine (num_ok B u1.heap.size 1 (((rest.take 5).drop 2).drop 2) _ HI3.out (by have := HL5.out; simp only [List.length_drop]; omega) (by have := HL5.out; simp only [List.length_drop]; omega) (by omega) (by omega)).mono ?_; rintro e u4 ⟨rfl, rd4, g4⟩; rw [H2.out]
      have HG4 : Hid _ := g4
      have hg4 : u4.heap[u1.heap.size + 1]? = some (.cells #[.int .i64 V0, .int .i64 V1, .int .i64 0] 30 (0, 0)) := (g4.block _ (Array.getElem?_eq_some_iff.1 HGB3.out).1 (fun e => by have e' := Option.some.inj e; omega)).trans HGB3.out
      have HGB4 : Hid ((u4.setCell ⟨u1.heap.size + 1, 2, none⟩ (.int .i64 V2)).heap[u1.heap.size + 1]? = some (.cells #[.int .i64 V0, .int .i64 V1, .int .i64 V2] 30 (0, 0))) := blk3_2 hg4 _
      obtain ⟨a0, a1, a2, a3, a4, a5⟩ := blk3_cells hg4
      obtain ⟨k0, k1, k2, _⟩ := blk3_cells HGB4.out
      clear rd4 g4 hg4)
   | (go_at_call 44; refine (spare_any V0 V1 V2 _).mono ?_; rintro e u5 ⟨rfl, b5⟩; rw [EE2, EE1]
      have HB5 : Hid _ := b5
      have hg5 : u5.heap[u1.heap.size + 1]? = some (.cells #[.int .i64 V0, .int .i64 V1, .int .i64 V2] 30 (0, 0)) := (b5.block _ (Array.getElem?_eq_some_iff.1 HGB4.out).1).trans HGB4.out
      clear a0 a1 a2 a3 a4 a5 k0 k1 k2
      obtain ⟨k0, k1, k2, k3, k4, k5⟩ := blk3_cells hg5
      -- all that goes through u5
      have hall : w.grownBy u5 (some q) ∧ RdAt u5 B q (rest.drop 5) ∧ u5.heap[w.heap.size]? = some (.cells #[.int .i64 0, .int .i64 0, .int .i64 0] 30 (0, 0)) := by
       have gA : (u2.setCell ⟨u1.heap.size + 1, 0, none⟩ (.int .i64 V0)).heap.size = u2.heap.size := by simp
       have s2 := HW2.out.2.2.2
       simp at s2
       have o3 := HO2.out.other HG3.out (fun e => by have e' := Option.some.inj e; omega) (fun k e => by have e' := Option.some.inj e; omega)
       have o3' := o3.set (i := u1.heap.size + 1) (j := 1) (by omega) (by omega) (.int .i64 V1)
       have o4 := o3'.other HG4.out (fun e => by have e' := Option.some.inj e; omega) (fun k e => by have e' := Option.some.inj e; omega)
       have o4' := o4.set (i := u1.heap.size + 1) (j := 2) (by omega) (by omega) (.int .i64 V2)
       have s3 := HG3.out.size
       have s4 := HG4.out.size
       simp at s3 s4
       have blk : ∀ i, i < u1.heap.size → u5.heap[i]? = (u2.setCell ⟨u1.heap.size + 1, 0, none⟩ (.int .i64 V0)).heap[i]? := fun i hi => by
        rw [b5.block i (by simp; omega), (set_grown u4 (u1.heap.size + 1) 2 (.int .i64 V2)).block i (by omega) (fun e => by have e' := Option.some.inj e; omega), HG4.out.block i (by simp; omega) (fun e => by have e' := Option.some.inj e; omega), (set_grown u3 (u1.heap.size + 1) 1 (.int .i64 V1)).block i (by omega) (fun e => by have e' := Option.some.inj e; omega), HG3.out.block i (by simp; omega) (fun e => by have e' := Option.some.inj e; omega)]
       refine ⟨⟨?_, ?_, ?_, ?_, fun i hi hne => ?_⟩, o4'.below b5, ?_⟩
       ·rw [HW2.out.1]; exact b5.os.trans (HG4.out.os.trans HG3.out.os)
       ·rw [HW2.out.2.1]; exact b5.tape.trans (HG4.out.tape.trans HG3.out.tape)
       ·rw [HW2.out.2.2.1]; exact b5.output.trans (HG4.out.output.trans HG3.out.output)
       ·have s5 := b5.size; simp at s5; omega
       ·rw [blk i (by omega)]; exact HG2.out i hi (fun e => hne (by rw [e]))
       ·rw [blk _ (by omega)]; exact HRB2.out
      have HALL : Hid _ := hall
      obtain ⟨r0, r1, r2, r3, r4, r5⟩ := blk3_cells hall.2.2
      clear b5 hg5 hall))
  obtain ⟨z1, z2, z3⟩ := HALL.out
  have gF : u5.grownBy (((u5.setCell ⟨w.heap.size, 0, none⟩ (.int .i64 V0)).setCell ⟨w.heap.size, 1, none⟩ (.int .i64 V1)).setCell ⟨w.heap.size, 2, none⟩ (.int .i64 V2)) (some w.heap.size) := grownBy_trans (grownBy_trans (set_grown u5 _ 0 _) (set_grown _ _ 1 _)) (set_grown _ _ 2 _)
  refine bodyPost_ret (v := .tuple #[.agg #[.int .i64 V0, .int .i64 V1, .int .i64 V2], .int .i64 0]) (by obtain ⟨y0, y1, y2, _⟩ := blk3_cells (blk3_2 (blk3_1 (blk3_0 z3 (.int .i64 V0)) (.int .i64 V1)) (.int .i64 V2)); simp [results, Tryd.results68, go_sem, y0, y1, y2]) rfl ⟨rfl, z2.other gF (fun e => by have e' := Option.some.inj e; omega) (fun k e => by have e' := Option.some.inj e; omega), ⟨gF.os.trans z1.os, gF.tape.trans z1.tape, gF.output.trans z1.output, Nat.le_trans z1.size gF.size, fun i hi hne => (gF.block i (Nat.lt_of_lt_of_le hi z1.size) (fun e => by have e' := Option.some.inj e; omega)).trans (z1.block i hi hne)⟩⟩
 | false =>
  have EE1 : spE V0 V1 V2 = 40 := by unfold spE; rw [hf]; rfl
  have EE2 : spN V0 V1 V2 = 0 := by unfold spN; rw [hf]; rfl
  rw [EE1, if_neg (by simp)]
  go_enter Tryd.func68, Tryd.ntmps68
  go_wp2_with (first
   | (go_at_call 66; refine (take_ok B q 5 rest _ HR2.out hl hn).mono ?_; rintro e u1 ⟨bb, off, c, rfl, r1, hc1, hc2, hbB, rd1, g1⟩
      have HO : Hid (RdAt ((u1.alloc (.cells #[.slice (some ⟨bb, off, none⟩) 5 c] 97)).alloc (.cells #[.int .i64 0, .int .i64 0, .int .i64 0] 30)) B q (rest.drop 5)) := (rd1.below (below_alloc u1 _)).below (below_alloc _ _)
      have hsz : w.heap.size + 1 ≤ u1.heap.size := by have := g1.size; simp at this; omega
      have HI : Hid (RdAt ((u1.alloc (.cells #[.slice (some ⟨bb, off, none⟩) 5 c] 97)).alloc (.cells #[.int .i64 0, .int .i64 0, .int .i64 0] 30)) B u1.heap.size (rest.take 5)) := by
       refine RdAt.below (w := u1.alloc (.cells #[.slice (some ⟨bb, off, none⟩) 5 c] 97)) ⟨bb, off, c, ?_, ?_, ?_, hc2, hbB, by omega⟩ (below_alloc _ _)
       ·simp only [HL5.out]; exact heap_alloc_new _ _
       ·simp only [HL5.out]; exact r1.below (below_alloc _ _)
       ·simp only [HL5.out]; exact hc1
      have HGB : Hid (((u1.alloc (.cells #[.slice (some ⟨bb, off, none⟩) 5 c] 97)).alloc (.cells #[.int .i64 0, .int .i64 0, .int .i64 0] 30)).heap[u1.heap.size + 1]? = some (.cells #[.int .i64 0, .int .i64 0, .int .i64 0] 30 (0, 0))) := by
       have h9 := heap_alloc_new (u1.alloc (.cells #[.slice (some ⟨bb, off, none⟩) 5 c] 97)) (.cells #[.int .i64 0, .int .i64 0, .int .i64 0] 30); rw [World.size_alloc] at h9; exact h9
      have HRB : Hid (((u1.alloc (.cells #[.slice (some ⟨bb, off, none⟩) 5 c] 97)).alloc (.cells #[.int .i64 0, .int .i64 0, .int .i64 0] 30)).heap[w.heap.size]? = some (.cells #[.int .i64 0, .int .i64 0, .int .i64 0] 30 (0, 0))) := by
       unfold Hid
       rw [Below.heap_alloc _ _ _ (by simp; omega), Below.heap_alloc _ _ _ (by omega)]
       exact (g1.block w.heap.size (by simp) (fun e => by have e' := Option.some.inj e; omega)).trans HR0.out
      have HG1 : Hid (w.grownBy ((u1.alloc (.cells #[.slice (some ⟨bb, off, none⟩) 5 c] 97)).alloc (.cells #[.int .i64 0, .int .i64 0, .int .i64 0] 30)) (some q)) := grownBy_trans (grownBy_trans (World.grownBy_alloc w _ _) g1) (grownBy_trans (World.grownBy_alloc u1 _ _) (World.grownBy_alloc _ _ _))
      clear r1 rd1 g1
      have T1 : Hid True := trivial)
   | (go_at_call 67; have zz := T1; clear T1 zz
      refine (num_ok B u1.heap.size 2 (rest.take 5) _ HI.out (by have := HL5.out; omega) (by have := HL5.out; omega) (by omega) (by omega)).mono ?_; rintro e u2 ⟨rfl, rd2, g2⟩; rw [H0.out]
      have HI2 : Hid (RdAt (u2.setCell ⟨u1.heap.size + 1, 0, none⟩ (.int .i64 V0)) B u1.heap.size ((rest.take 5).drop 2)) := rd2.set (by omega) (by omega) _
      have hg2 : u2.heap[u1.heap.size + 1]? = some (.cells #[.int .i64 0, .int .i64 0, .int .i64 0] 30 (0, 0)) := (g2.block _ (Array.getElem?_eq_some_iff.1 HGB.out).1 (fun e => by have e' := Option.some.inj e; omega)).trans HGB.out
      have HGB2 : Hid ((u2.setCell ⟨u1.heap.size + 1, 0, none⟩ (.int .i64 V0)).heap[u1.heap.size + 1]? = some (.cells #[.int .i64 V0, .int .i64 0, .int .i64 0] 30 (0, 0))) := blk3_0 hg2 _
      obtain ⟨a0, a1, a2, a3, a4, a5⟩ := blk3_cells hg2
      have hgg : ((u1.alloc (.cells #[.slice (some ⟨bb, off, none⟩) 5 c] 97)).alloc (.cells #[.int .i64 0, .int .i64 0, .int .i64 0] 30)).grownBy u2 (some u1.heap.size) := g2
      have HO2 : Hid (RdAt (u2.setCell ⟨u1.heap.size + 1, 0, none⟩ (.int .i64 V0)) B q (rest.drop 5)) := (HO.out.other g2 (fun e => by have e' := Option.some.inj e; omega) (fun k e => by have e' := Option.some.inj e; omega)).set (by omega) (by omega) _
      have HRB2 : Hid ((u2.setCell ⟨u1.heap.size + 1, 0, none⟩ (.int .i64 V0)).heap[w.heap.size]? = some (.cells #[.int .i64 0, .int .i64 0, .int .i64 0] 30 (0, 0))) := ((set_grown u2 _ 0 _).block w.heap.size (by have := g2.size; simp at this; omega) (fun e => by have e' := Option.some.inj e; omega)).trans ((g2.block _ (Array.getElem?_eq_some_iff.1 HRB.out).1 (fun e => by have e' := Option.some.inj e; omega)).trans HRB.out)
      have HG2 : Hid (∀ i, i < w.heap.size → i ≠ q → (u2.setCell ⟨u1.heap.size + 1, 0, none⟩ (.int .i64 V0)).heap[i]? = w.heap[i]?) := fun i hi hne => by
       rw [(set_grown u2 (u1.heap.size + 1) 0 (.int .i64 V0)).block i (by have := g2.size; simp at this; omega) (fun e => by have e' := Option.some.inj e; omega), g2.block i (by simp; omega) (fun e => by have e' := Option.some.inj e; omega)]
       exact HG1.out.block i hi (fun e => hne (by cases e; rfl))
      have HW2 : Hid (w.os = u2.os ∧ w.tape = u2.tape ∧ w.output = u2.output ∧ ((u1.alloc (.cells #[.slice (some ⟨bb, off, none⟩) 5 c] 97)).alloc (.cells #[.int .i64 0, .int .i64 0, .int .i64 0] 30)).heap.size ≤ u2.heap.size) := ⟨(g2.os.trans HG1.out.os).symm, (g2.tape.trans HG1.out.tape).symm, (g2.output.trans HG1.out.output).symm, g2.size⟩
      clear rd2 g2 hg2 hgg
      have T2 : Hid True := trivial)
   | (go_at_call 67; have zz := T2; clear T2 zz a0 a1 a2 a3 a4 a5
      refine (num_ok B u1.heap.size 2 ((rest.take 5).drop 2) _ HI2.out (by have := HL5.out; simp only [List.length_drop]; omega) (by have := HL5.out; simp only [List.length_drop]; omega) (by omega) (by omega)).mono ?_; rintro e u3 ⟨rfl, rd3, g3⟩; rw [H1.out]
      have HG3 : Hid _ := g3
      have HRD3 : Hid (RdAt u3 B u1.heap.size (((rest.take 5).drop 2).drop 2)) := rd3
      have HI3 : Hid (RdAt (u3.setCell ⟨u1.heap.size + 1, 1, none⟩ (.int .i64 V1)) B u1.heap.size (((rest.take 5).drop 2).drop 2)) := rd3.set (by omega) (by omega) _
      have hg3 : u3.heap[u1.heap.size + 1]? = some (.cells #[.int .i64 V0, .int .i64 0, .int .i64 0] 30 (0, 0)) := (g3.block _ (Array.getElem?_eq_some_iff.1 HGB2.out).1 (fun e => by have e' := Option.some.inj e; omega)).trans HGB2.out
      have HGB3 : Hid ((u3.setCell ⟨u1.heap.size + 1, 1, none⟩ (.int .i64 V1)).heap[u1.heap.size + 1]? = some (.cells #[.int .i64 V0, .int .i64 V1, .int .i64 0] 30 (0, 0))) := blk3_1 hg3 _
      obtain ⟨a0, a1, a2, a3, a4, a5⟩ := blk3_cells hg3
      clear rd3 g3 hg3
      have T3 : Hid True := trivial)
   | (go_at_call 67; have zz := T3; clear T3 zz a0 a1 a2 a3 a4 a5
      refine (num_ok B u1.heap.size 1 (((rest.take 5).drop 2).drop 2) _ HI3.out (by have := HL5.out; simp only [List.length_drop]; omega) (by have := HL5.out; simp only [List.length_drop]; omega) (by omega) (by omega)).mono ?_; rintro e u4 ⟨rfl, rd4, g4⟩; rw [H2.out]
      have HG4 : Hid _ := g4
      have hg4 : u4.heap[u1.heap.size + 1]? = some (.cells #[.int .i64 V0, .int .i64 V1, .int .i64 0] 30 (0, 0)) := (g4.block _ (Array.getElem?_eq_some_iff.1 HGB3.out).1 (fun e => by have e' := Option.some.inj e; omega)).trans HGB3.out
      have HGB4 : Hid ((u4.setCell ⟨u1.heap.size + 1, 2, none⟩ (.int .i64 V2)).heap[u1.heap.size + 1]? = some (.cells #[.int .i64 V0, .int .i64 V1, .int .i64 V2] 30 (0, 0))) := blk3_2 hg4 _
      obtain ⟨a0, a1, a2, a3, a4, a5⟩ := blk3_cells hg4
      obtain ⟨k0, k1, k2, _⟩ := blk3_cells HGB4.out
      clear rd4 g4 hg4)
   | (go_at_call 44; refine (spare_any V0 V1 V2 _).mono ?_; rintro e u5 ⟨rfl, b5⟩; rw [EE2, EE1]
      have HB5 : Hid _ := b5
      have hg5 : u5.heap[u1.heap.size + 1]? = some (.cells #[.int .i64 V0, .int .i64 V1, .int .i64 V2] 30 (0, 0)) := (b5.block _ (Array.getElem?_eq_some_iff.1 HGB4.out).1).trans HGB4.out
      clear a0 a1 a2 a3 a4 a5 k0 k1 k2
      obtain ⟨k0, k1, k2, k3, k4, k5⟩ := blk3_cells hg5
      -- all that goes through u5
      have hall : w.grownBy u5 (some q) ∧ RdAt u5 B q (rest.drop 5) ∧ u5.heap[w.heap.size]? = some (.cells #[.int .i64 0, .int .i64 0, .int .i64 0] 30 (0, 0)) := by
       have gA : (u2.setCell ⟨u1.heap.size + 1, 0, none⟩ (.int .i64 V0)).heap.size = u2.heap.size := by simp
       have s2 := HW2.out.2.2.2
       simp at s2
       have o3 := HO2.out.other HG3.out (fun e => by have e' := Option.some.inj e; omega) (fun k e => by have e' := Option.some.inj e; omega)
       have o3' := o3.set (i := u1.heap.size + 1) (j := 1) (by omega) (by omega) (.int .i64 V1)
       have o4 := o3'.other HG4.out (fun e => by have e' := Option.some.inj e; omega) (fun k e => by have e' := Option.some.inj e; omega)
       have o4' := o4.set (i := u1.heap.size + 1) (j := 2) (by omega) (by omega) (.int .i64 V2)
       have s3 := HG3.out.size
       have s4 := HG4.out.size
       simp at s3 s4
       have blk : ∀ i, i < u1.heap.size → u5.heap[i]? = (u2.setCell ⟨u1.heap.size + 1, 0, none⟩ (.int .i64 V0)).heap[i]? := fun i hi => by
        rw [b5.block i (by simp; omega), (set_grown u4 (u1.heap.size + 1) 2 (.int .i64 V2)).block i (by omega) (fun e => by have e' := Option.some.inj e; omega), HG4.out.block i (by simp; omega) (fun e => by have e' := Option.some.inj e; omega), (set_grown u3 (u1.heap.size + 1) 1 (.int .i64 V1)).block i (by omega) (fun e => by have e' := Option.some.inj e; omega), HG3.out.block i (by simp; omega) (fun e => by have e' := Option.some.inj e; omega)]
       refine ⟨⟨?_, ?_, ?_, ?_, fun i hi hne => ?_⟩, o4'.below b5, ?_⟩
       ·rw [HW2.out.1]; exact b5.os.trans (HG4.out.os.trans HG3.out.os)
       ·rw [HW2.out.2.1]; exact b5.tape.trans (HG4.out.tape.trans HG3.out.tape)
       ·rw [HW2.out.2.2.1]; exact b5.output.trans (HG4.out.output.trans HG3.out.output)
       ·have s5 := b5.size; simp at s5; omega
       ·rw [blk i (by omega)]; exact HG2.out i hi (fun e => hne (by rw [e]))
       ·rw [blk _ (by omega)]; exact HRB2.out
      have HALL : Hid _ := hall
      obtain ⟨r0, r1, r2, r3, r4, r5⟩ := blk3_cells hall.2.2
      clear b5 hg5 hall))
  obtain ⟨z1, z2, z3⟩ := HALL.out
  have gF : u5.grownBy (((u5.setCell ⟨w.heap.size, 0, none⟩ (.int .i64 0)).setCell ⟨w.heap.size, 1, none⟩ (.int .i64 0)).setCell ⟨w.heap.size, 2, none⟩ (.int .i64 0)) (some w.heap.size) := grownBy_trans (grownBy_trans (set_grown u5 _ 0 _) (set_grown _ _ 1 _)) (set_grown _ _ 2 _)
  refine bodyPost_ret (v := .tuple #[.agg #[.int .i64 0, .int .i64 0, .int .i64 0], .int .i64 40]) (by obtain ⟨y0, y1, y2, _⟩ := blk3_cells (blk3_2 (blk3_1 (blk3_0 z3 (.int .i64 0)) (.int .i64 0)) (.int .i64 0)); simp [results, Tryd.results68, go_sem, y0, y1, y2]) rfl ⟨rfl, z2.other gF (fun e => by have e' := Option.some.inj e; omega) (fun k e => by have e' := Option.some.inj e; omega), ⟨gF.os.trans z1.os, gF.tape.trans z1.tape, gF.output.trans z1.output, Nat.le_trans z1.size gF.size, fun i hi hne => (gF.block i (Nat.lt_of_lt_of_le hi z1.size) (fun e => by have e' := Option.some.inj e; omega)).trans (z1.block i hi hne)⟩⟩
end Go.Proofs.YtnmnhgagnfodhaaDoor
