/-
  SEAT YtnmnhgagnfodhaaDoor: Rg.
-/
import Derived.Test.YtnmnhgagnfodhaaDoorMbi
namespace Go.Proofs.YtnmnhgagnfodhaaDoor
open Go.RowKit
set_option linter.unusedVariables false
set_option maxHeartbeats 2000000 in
set_option maxRecDepth 100000 in
theorem pc_s1 (B q b p s left C S : Nat) (hC : C = 256 * s) (hS : S = 54 + 3 * s) (rest : List Int) (w : World) (hR : RdAt w B q rest) (hl : rest.length ≤ 200000000000000) (hf : Fits (b : Int) (p : Int) (s : Int) = true) (hleft : left ≤ 70000) (h1 : rest.length < 1) :
  Calls Tryd.prog 71 #[.pointer (some ⟨q, 0, none⟩), .agg #[.int .i64 (b : Int), .int .i64 (p : Int), .int .i64 (s : Int)], .int .i64 (left : Int)] w fun e w' => e = .returned (.tuple #[.agg #[.int .i64 0, .int .i64 0, .slice none 0 0], .int .i64 10]) ∧ w.grownBy w' (some q) := by
 have hqlt := hR.lt
 have hs := fits_s hf
 have hR1 : RdAt ((w.alloc (.cells #[.int .i64 (b : Int), .int .i64 (p : Int), .int .i64 (s : Int)] 30)).alloc (.cells #[.int .i64 0, .int .i64 0, .slice none 0 0] 135)) B q rest := (hR.below (below_alloc w _)).below (below_alloc _ _)
 have hbx : ((w.alloc (.cells #[.int .i64 (b : Int), .int .i64 (p : Int), .int .i64 (s : Int)] 30)).alloc (.cells #[.int .i64 0, .int .i64 0, .slice none 0 0] 135)).heap[w.heap.size]? = some (.cells #[.int .i64 (b : Int), .int .i64 (p : Int), .int .i64 (s : Int)] 30 (0, 0)) := by
  rw [Below.heap_alloc _ _ _ (by simp)]; exact heap_alloc_new _ _
 have hzp : ((w.alloc (.cells #[.int .i64 (b : Int), .int .i64 (p : Int), .int .i64 (s : Int)] 30)).alloc (.cells #[.int .i64 0, .int .i64 0, .slice none 0 0] 135)).heap[w.heap.size + 1]? = some (.cells #[.int .i64 0, .int .i64 0, .slice none 0 0] 135 (0, 0)) := by
  have h9 := heap_alloc_new (w.alloc (.cells #[.int .i64 (b : Int), .int .i64 (p : Int), .int .i64 (s : Int)] 30)) (.cells #[.int .i64 0, .int .i64 0, .slice none 0 0] 135); rw [World.size_alloc] at h9; exact h9
 have hw1 : w.grownBy ((w.alloc (.cells #[.int .i64 (b : Int), .int .i64 (p : Int), .int .i64 (s : Int)] 30)).alloc (.cells #[.int .i64 0, .int .i64 0, .slice none 0 0] 135)) (some q) := grownBy_trans (World.grownBy_alloc w _ _) (World.grownBy_alloc _ _ _)
 have HR1 : Hid (RdAt ((w.alloc (.cells #[.int .i64 (b : Int), .int .i64 (p : Int), .int .i64 (s : Int)] 30)).alloc (.cells #[.int .i64 0, .int .i64 0, .slice none 0 0] 135)) B q rest) := hR1
 have HBX : Hid (((w.alloc (.cells #[.int .i64 (b : Int), .int .i64 (p : Int), .int .i64 (s : Int)] 30)).alloc (.cells #[.int .i64 0, .int .i64 0, .slice none 0 0] 135)).heap[w.heap.size]? = some (.cells #[.int .i64 (b : Int), .int .i64 (p : Int), .int .i64 (s : Int)] 30 (0, 0))) := hbx
 have HZP : Hid (((w.alloc (.cells #[.int .i64 (b : Int), .int .i64 (p : Int), .int .i64 (s : Int)] 30)).alloc (.cells #[.int .i64 0, .int .i64 0, .slice none 0 0] 135)).heap[w.heap.size + 1]? = some (.cells #[.int .i64 0, .int .i64 0, .slice none 0 0] 135 (0, 0))) := hzp
 have HW1 : Hid (w.grownBy ((w.alloc (.cells #[.int .i64 (b : Int), .int .i64 (p : Int), .int .i64 (s : Int)] 30)).alloc (.cells #[.int .i64 0, .int .i64 0, .slice none 0 0] 135)) (some q)) := hw1
 obtain ⟨z0, z1, z2, z3, z4, z5⟩ := blk3_cells hzp
 obtain ⟨a0, a1, a2, a3, a4, a5⟩ := blk3_cells hbx
 have T0 : Hid True := trivial
 have HC : Hid (C = 256 * s) := hC
 have HS : Hid (S = 54 + 3 * s) := hS
 clear hR hR1 hbx hzp hw1 hC hS
 go_enter Tryd.func71, Tryd.ntmps71
 go_wp2_with (first
  | (go_at_call 67; refine (num_short B q 1 rest _ HR1.out hl h1 (by omega)).mono ?_; rintro e u1 ⟨rfl, hu1⟩; rw [hu1]))
 have gF := grown3 ((w.alloc (.cells #[.int .i64 (b : Int), .int .i64 (p : Int), .int .i64 (s : Int)] 30)).alloc (.cells #[.int .i64 0, .int .i64 0, .slice none 0 0] 135)) (w.heap.size + 1) (.int .i64 0) (.int .i64 0) (.slice none 0 0)
 have hF := blk3_set HZP.out (.int .i64 0) (.int .i64 0) (.slice none 0 0)
 refine bodyPost_ret (v := .tuple #[.agg #[.int .i64 0, .int .i64 0, .slice none 0 0], .int .i64 10]) (by obtain ⟨y0, y1, y2, _⟩ := blk3_cells hF; simp [results, Tryd.results71, go_sem]) rfl ?_
 have gG := grown_past HW1.out gF (by omega)
 first | exact ⟨rfl, gG⟩ | exact ⟨rfl, HW1.out⟩
set_option maxHeartbeats 2000000 in
set_option maxRecDepth 100000 in
theorem pc_kind (B q b p s left C S : Nat) (hC : C = 256 * s) (hS : S = 54 + 3 * s) (rest : List Int) (w : World) (hR : RdAt w B q rest) (hl : rest.length ≤ 200000000000000) (hf : Fits (b : Int) (p : Int) (s : Int) = true) (hleft : left ≤ 70000) (h1 : 1 ≤ rest.length) (kd : Nat) (hk : getL rest 0 1 = (kd : Int)) (hkd : 2 < kd) :
  Calls Tryd.prog 71 #[.pointer (some ⟨q, 0, none⟩), .agg #[.int .i64 (b : Int), .int .i64 (p : Int), .int .i64 (s : Int)], .int .i64 (left : Int)] w fun e w' => e = .returned (.tuple #[.agg #[.int .i64 0, .int .i64 0, .slice none 0 0], .int .i64 47]) ∧ w.grownBy w' (some q) := by
 have hqlt := hR.lt
 have hs := fits_s hf
 have hR1 : RdAt ((w.alloc (.cells #[.int .i64 (b : Int), .int .i64 (p : Int), .int .i64 (s : Int)] 30)).alloc (.cells #[.int .i64 0, .int .i64 0, .slice none 0 0] 135)) B q rest := (hR.below (below_alloc w _)).below (below_alloc _ _)
 have hbx : ((w.alloc (.cells #[.int .i64 (b : Int), .int .i64 (p : Int), .int .i64 (s : Int)] 30)).alloc (.cells #[.int .i64 0, .int .i64 0, .slice none 0 0] 135)).heap[w.heap.size]? = some (.cells #[.int .i64 (b : Int), .int .i64 (p : Int), .int .i64 (s : Int)] 30 (0, 0)) := by
  rw [Below.heap_alloc _ _ _ (by simp)]; exact heap_alloc_new _ _
 have hzp : ((w.alloc (.cells #[.int .i64 (b : Int), .int .i64 (p : Int), .int .i64 (s : Int)] 30)).alloc (.cells #[.int .i64 0, .int .i64 0, .slice none 0 0] 135)).heap[w.heap.size + 1]? = some (.cells #[.int .i64 0, .int .i64 0, .slice none 0 0] 135 (0, 0)) := by
  have h9 := heap_alloc_new (w.alloc (.cells #[.int .i64 (b : Int), .int .i64 (p : Int), .int .i64 (s : Int)] 30)) (.cells #[.int .i64 0, .int .i64 0, .slice none 0 0] 135); rw [World.size_alloc] at h9; exact h9
 have hw1 : w.grownBy ((w.alloc (.cells #[.int .i64 (b : Int), .int .i64 (p : Int), .int .i64 (s : Int)] 30)).alloc (.cells #[.int .i64 0, .int .i64 0, .slice none 0 0] 135)) (some q) := grownBy_trans (World.grownBy_alloc w _ _) (World.grownBy_alloc _ _ _)
 have HR1 : Hid (RdAt ((w.alloc (.cells #[.int .i64 (b : Int), .int .i64 (p : Int), .int .i64 (s : Int)] 30)).alloc (.cells #[.int .i64 0, .int .i64 0, .slice none 0 0] 135)) B q rest) := hR1
 have HBX : Hid (((w.alloc (.cells #[.int .i64 (b : Int), .int .i64 (p : Int), .int .i64 (s : Int)] 30)).alloc (.cells #[.int .i64 0, .int .i64 0, .slice none 0 0] 135)).heap[w.heap.size]? = some (.cells #[.int .i64 (b : Int), .int .i64 (p : Int), .int .i64 (s : Int)] 30 (0, 0))) := hbx
 have HZP : Hid (((w.alloc (.cells #[.int .i64 (b : Int), .int .i64 (p : Int), .int .i64 (s : Int)] 30)).alloc (.cells #[.int .i64 0, .int .i64 0, .slice none 0 0] 135)).heap[w.heap.size + 1]? = some (.cells #[.int .i64 0, .int .i64 0, .slice none 0 0] 135 (0, 0))) := hzp
 have HW1 : Hid (w.grownBy ((w.alloc (.cells #[.int .i64 (b : Int), .int .i64 (p : Int), .int .i64 (s : Int)] 30)).alloc (.cells #[.int .i64 0, .int .i64 0, .slice none 0 0] 135)) (some q)) := hw1
 obtain ⟨z0, z1, z2, z3, z4, z5⟩ := blk3_cells hzp
 obtain ⟨a0, a1, a2, a3, a4, a5⟩ := blk3_cells hbx
 have T0 : Hid True := trivial
 have HC : Hid (C = 256 * s) := hC
 have HS : Hid (S = 54 + 3 * s) := hS
 clear hR hR1 hbx hzp hw1 hC hS
 have HK : Hid (getL rest 0 1 = (kd : Int)) := hk
 clear hk
 have d1 : (2 : Int) < (kd : Int) := by omega
 go_enter Tryd.func71, Tryd.ntmps71
 go_wp2_with (first
  | (go_at_call 67; have zz := T0; clear T0 zz; refine (num_ok B q 1 rest _ HR1.out hl h1 (by omega) (by omega)).mono ?_; rintro e u1 ⟨rfl, rd1, g1⟩; rw [HK.out]
     have HZP1 : Hid (u1.heap[w.heap.size + 1]? = some (.cells #[.int .i64 0, .int .i64 0, .slice none 0 0] 135 (0, 0))) := (g1.block _ (Array.getElem?_eq_some_iff.1 HZP.out).1 (fun e => by have e' := Option.some.inj e; omega)).trans HZP.out
     have HBX1 : Hid (u1.heap[w.heap.size]? = some (.cells #[.int .i64 (b : Int), .int .i64 (p : Int), .int .i64 (s : Int)] 30 (0, 0))) := (g1.block _ (Array.getElem?_eq_some_iff.1 HBX.out).1 (fun e => by have e' := Option.some.inj e; omega)).trans HBX.out
     have HR2 : Hid (RdAt u1 B q (rest.drop 1)) := rd1
     have HW2 : Hid (w.grownBy u1 (some q)) := grownBy_trans HW1.out g1
     clear z0 z1 z2 z3 z4 z5 a0 a1 a2 a3 a4 a5 rd1 g1
     obtain ⟨z0, z1, z2, z3, z4, z5⟩ := blk3_cells HZP1.out
     obtain ⟨a0, a1, a2, a3, a4, a5⟩ := blk3_cells HBX1.out
     have T1 : Hid True := trivial))
 have gF := grown3 u1 (w.heap.size + 1) (.int .i64 0) (.int .i64 0) (.slice none 0 0)
 have hF := blk3_set HZP1.out (.int .i64 0) (.int .i64 0) (.slice none 0 0)
 refine bodyPost_ret (v := .tuple #[.agg #[.int .i64 0, .int .i64 0, .slice none 0 0], .int .i64 47]) (by obtain ⟨y0, y1, y2, _⟩ := blk3_cells hF; simp [results, Tryd.results71, go_sem, y0, y1, y2]) rfl ?_
 have gG := grown_past HW2.out gF (by omega)
 first | exact ⟨rfl, gG⟩ | exact ⟨rfl, HW1.out⟩
set_option maxHeartbeats 2000000 in
set_option maxRecDepth 100000 in
theorem pc_s3 (B q b p s left C S : Nat) (hC : C = 256 * s) (hS : S = 54 + 3 * s) (rest : List Int) (w : World) (hR : RdAt w B q rest) (hl : rest.length ≤ 200000000000000) (hf : Fits (b : Int) (p : Int) (s : Int) = true) (hleft : left ≤ 70000) (h1 : 1 ≤ rest.length) (h2 : rest.length < 3) (kd : Nat) (hk : getL rest 0 1 = (kd : Int)) (hkd : kd ≤ 2) :
  Calls Tryd.prog 71 #[.pointer (some ⟨q, 0, none⟩), .agg #[.int .i64 (b : Int), .int .i64 (p : Int), .int .i64 (s : Int)], .int .i64 (left : Int)] w fun e w' => e = .returned (.tuple #[.agg #[.int .i64 0, .int .i64 0, .slice none 0 0], .int .i64 10]) ∧ w.grownBy w' (some q) := by
 have hqlt := hR.lt
 have hs := fits_s hf
 have hR1 : RdAt ((w.alloc (.cells #[.int .i64 (b : Int), .int .i64 (p : Int), .int .i64 (s : Int)] 30)).alloc (.cells #[.int .i64 0, .int .i64 0, .slice none 0 0] 135)) B q rest := (hR.below (below_alloc w _)).below (below_alloc _ _)
 have hbx : ((w.alloc (.cells #[.int .i64 (b : Int), .int .i64 (p : Int), .int .i64 (s : Int)] 30)).alloc (.cells #[.int .i64 0, .int .i64 0, .slice none 0 0] 135)).heap[w.heap.size]? = some (.cells #[.int .i64 (b : Int), .int .i64 (p : Int), .int .i64 (s : Int)] 30 (0, 0)) := by
  rw [Below.heap_alloc _ _ _ (by simp)]; exact heap_alloc_new _ _
 have hzp : ((w.alloc (.cells #[.int .i64 (b : Int), .int .i64 (p : Int), .int .i64 (s : Int)] 30)).alloc (.cells #[.int .i64 0, .int .i64 0, .slice none 0 0] 135)).heap[w.heap.size + 1]? = some (.cells #[.int .i64 0, .int .i64 0, .slice none 0 0] 135 (0, 0)) := by
  have h9 := heap_alloc_new (w.alloc (.cells #[.int .i64 (b : Int), .int .i64 (p : Int), .int .i64 (s : Int)] 30)) (.cells #[.int .i64 0, .int .i64 0, .slice none 0 0] 135); rw [World.size_alloc] at h9; exact h9
 have hw1 : w.grownBy ((w.alloc (.cells #[.int .i64 (b : Int), .int .i64 (p : Int), .int .i64 (s : Int)] 30)).alloc (.cells #[.int .i64 0, .int .i64 0, .slice none 0 0] 135)) (some q) := grownBy_trans (World.grownBy_alloc w _ _) (World.grownBy_alloc _ _ _)
 have HR1 : Hid (RdAt ((w.alloc (.cells #[.int .i64 (b : Int), .int .i64 (p : Int), .int .i64 (s : Int)] 30)).alloc (.cells #[.int .i64 0, .int .i64 0, .slice none 0 0] 135)) B q rest) := hR1
 have HBX : Hid (((w.alloc (.cells #[.int .i64 (b : Int), .int .i64 (p : Int), .int .i64 (s : Int)] 30)).alloc (.cells #[.int .i64 0, .int .i64 0, .slice none 0 0] 135)).heap[w.heap.size]? = some (.cells #[.int .i64 (b : Int), .int .i64 (p : Int), .int .i64 (s : Int)] 30 (0, 0))) := hbx
 have HZP : Hid (((w.alloc (.cells #[.int .i64 (b : Int), .int .i64 (p : Int), .int .i64 (s : Int)] 30)).alloc (.cells #[.int .i64 0, .int .i64 0, .slice none 0 0] 135)).heap[w.heap.size + 1]? = some (.cells #[.int .i64 0, .int .i64 0, .slice none 0 0] 135 (0, 0))) := hzp
 have HW1 : Hid (w.grownBy ((w.alloc (.cells #[.int .i64 (b : Int), .int .i64 (p : Int), .int .i64 (s : Int)] 30)).alloc (.cells #[.int .i64 0, .int .i64 0, .slice none 0 0] 135)) (some q)) := hw1
 obtain ⟨z0, z1, z2, z3, z4, z5⟩ := blk3_cells hzp
 obtain ⟨a0, a1, a2, a3, a4, a5⟩ := blk3_cells hbx
 have T0 : Hid True := trivial
 have HC : Hid (C = 256 * s) := hC
 have HS : Hid (S = 54 + 3 * s) := hS
 clear hR hR1 hbx hzp hw1 hC hS
 have HK : Hid (getL rest 0 1 = (kd : Int)) := hk
 clear hk
 have d1 : ¬ (2 : Int) < (kd : Int) := by omega
 go_enter Tryd.func71, Tryd.ntmps71
 go_wp2_with (first
  | (go_at_call 67; have zz := T0; clear T0 zz; refine (num_ok B q 1 rest _ HR1.out hl h1 (by omega) (by omega)).mono ?_; rintro e u1 ⟨rfl, rd1, g1⟩; rw [HK.out]
     have HZP1 : Hid (u1.heap[w.heap.size + 1]? = some (.cells #[.int .i64 0, .int .i64 0, .slice none 0 0] 135 (0, 0))) := (g1.block _ (Array.getElem?_eq_some_iff.1 HZP.out).1 (fun e => by have e' := Option.some.inj e; omega)).trans HZP.out
     have HBX1 : Hid (u1.heap[w.heap.size]? = some (.cells #[.int .i64 (b : Int), .int .i64 (p : Int), .int .i64 (s : Int)] 30 (0, 0))) := (g1.block _ (Array.getElem?_eq_some_iff.1 HBX.out).1 (fun e => by have e' := Option.some.inj e; omega)).trans HBX.out
     have HR2 : Hid (RdAt u1 B q (rest.drop 1)) := rd1
     have HW2 : Hid (w.grownBy u1 (some q)) := grownBy_trans HW1.out g1
     clear z0 z1 z2 z3 z4 z5 a0 a1 a2 a3 a4 a5 rd1 g1
     obtain ⟨z0, z1, z2, z3, z4, z5⟩ := blk3_cells HZP1.out
     obtain ⟨a0, a1, a2, a3, a4, a5⟩ := blk3_cells HBX1.out
     have T1 : Hid True := trivial)
  | (go_at_call 67; have zz := T1; clear T1 zz; refine (num_short B q 2 (rest.drop 1) _ HR2.out (by rw [List.length_drop]; omega) (by rw [List.length_drop]; omega) (by omega)).mono ?_; rintro e u2 ⟨rfl, hu2⟩; rw [hu2]))
 have gF := grown3 u1 (w.heap.size + 1) (.int .i64 0) (.int .i64 0) (.slice none 0 0)
 have hF := blk3_set HZP1.out (.int .i64 0) (.int .i64 0) (.slice none 0 0)
 refine bodyPost_ret (v := .tuple #[.agg #[.int .i64 0, .int .i64 0, .slice none 0 0], .int .i64 10]) (by obtain ⟨y0, y1, y2, _⟩ := blk3_cells hF; simp [results, Tryd.results71, go_sem, y0, y1, y2]) rfl ?_
 have gG := grown_past HW2.out gF (by omega)
 first | exact ⟨rfl, gG⟩ | exact ⟨rfl, HW1.out⟩
set_option maxHeartbeats 2000000 in
set_option maxRecDepth 100000 in
theorem pc_tbig (B q b p s left C S : Nat) (hC : C = 256 * s) (hS : S = 54 + 3 * s) (rest : List Int) (w : World) (hR : RdAt w B q rest) (hl : rest.length ≤ 200000000000000) (hf : Fits (b : Int) (p : Int) (s : Int) = true) (hleft : left ≤ 70000) (h1 : 1 ≤ rest.length) (h2 : 3 ≤ rest.length) (hk : getL rest 0 1 = 1) (n : Nat) (hn : n ≤ 65535) (hnn : getL (rest.drop 1) 0 2 = (n : Int)) (h3 : C < n) :
  Calls Tryd.prog 71 #[.pointer (some ⟨q, 0, none⟩), .agg #[.int .i64 (b : Int), .int .i64 (p : Int), .int .i64 (s : Int)], .int .i64 (left : Int)] w fun e w' => e = .returned (.tuple #[.agg #[.int .i64 0, .int .i64 0, .slice none 0 0], .int .i64 47]) ∧ w.grownBy w' (some q) := by
 have hqlt := hR.lt
 have hs := fits_s hf
 have hR1 : RdAt ((w.alloc (.cells #[.int .i64 (b : Int), .int .i64 (p : Int), .int .i64 (s : Int)] 30)).alloc (.cells #[.int .i64 0, .int .i64 0, .slice none 0 0] 135)) B q rest := (hR.below (below_alloc w _)).below (below_alloc _ _)
 have hbx : ((w.alloc (.cells #[.int .i64 (b : Int), .int .i64 (p : Int), .int .i64 (s : Int)] 30)).alloc (.cells #[.int .i64 0, .int .i64 0, .slice none 0 0] 135)).heap[w.heap.size]? = some (.cells #[.int .i64 (b : Int), .int .i64 (p : Int), .int .i64 (s : Int)] 30 (0, 0)) := by
  rw [Below.heap_alloc _ _ _ (by simp)]; exact heap_alloc_new _ _
 have hzp : ((w.alloc (.cells #[.int .i64 (b : Int), .int .i64 (p : Int), .int .i64 (s : Int)] 30)).alloc (.cells #[.int .i64 0, .int .i64 0, .slice none 0 0] 135)).heap[w.heap.size + 1]? = some (.cells #[.int .i64 0, .int .i64 0, .slice none 0 0] 135 (0, 0)) := by
  have h9 := heap_alloc_new (w.alloc (.cells #[.int .i64 (b : Int), .int .i64 (p : Int), .int .i64 (s : Int)] 30)) (.cells #[.int .i64 0, .int .i64 0, .slice none 0 0] 135); rw [World.size_alloc] at h9; exact h9
 have hw1 : w.grownBy ((w.alloc (.cells #[.int .i64 (b : Int), .int .i64 (p : Int), .int .i64 (s : Int)] 30)).alloc (.cells #[.int .i64 0, .int .i64 0, .slice none 0 0] 135)) (some q) := grownBy_trans (World.grownBy_alloc w _ _) (World.grownBy_alloc _ _ _)
 have HR1 : Hid (RdAt ((w.alloc (.cells #[.int .i64 (b : Int), .int .i64 (p : Int), .int .i64 (s : Int)] 30)).alloc (.cells #[.int .i64 0, .int .i64 0, .slice none 0 0] 135)) B q rest) := hR1
 have HBX : Hid (((w.alloc (.cells #[.int .i64 (b : Int), .int .i64 (p : Int), .int .i64 (s : Int)] 30)).alloc (.cells #[.int .i64 0, .int .i64 0, .slice none 0 0] 135)).heap[w.heap.size]? = some (.cells #[.int .i64 (b : Int), .int .i64 (p : Int), .int .i64 (s : Int)] 30 (0, 0))) := hbx
 have HZP : Hid (((w.alloc (.cells #[.int .i64 (b : Int), .int .i64 (p : Int), .int .i64 (s : Int)] 30)).alloc (.cells #[.int .i64 0, .int .i64 0, .slice none 0 0] 135)).heap[w.heap.size + 1]? = some (.cells #[.int .i64 0, .int .i64 0, .slice none 0 0] 135 (0, 0))) := hzp
 have HW1 : Hid (w.grownBy ((w.alloc (.cells #[.int .i64 (b : Int), .int .i64 (p : Int), .int .i64 (s : Int)] 30)).alloc (.cells #[.int .i64 0, .int .i64 0, .slice none 0 0] 135)) (some q)) := hw1
 obtain ⟨z0, z1, z2, z3, z4, z5⟩ := blk3_cells hzp
 obtain ⟨a0, a1, a2, a3, a4, a5⟩ := blk3_cells hbx
 have T0 : Hid True := trivial
 have HC : Hid (C = 256 * s) := hC
 have HS : Hid (S = 54 + 3 * s) := hS
 clear hR hR1 hbx hzp hw1 hC hS
 have HK : Hid (getL rest 0 1 = 1) := hk
 clear hk
 have HN : Hid (getL (rest.drop 1) 0 2 = (n : Int)) := hnn
 clear hnn
 go_enter Tryd.func71, Tryd.ntmps71
 go_wp2_with (first
  | (go_at_call 67; have zz := T0; clear T0 zz; refine (num_ok B q 1 rest _ HR1.out hl h1 (by omega) (by omega)).mono ?_; rintro e u1 ⟨rfl, rd1, g1⟩; rw [HK.out]
     have HZP1 : Hid (u1.heap[w.heap.size + 1]? = some (.cells #[.int .i64 0, .int .i64 0, .slice none 0 0] 135 (0, 0))) := (g1.block _ (Array.getElem?_eq_some_iff.1 HZP.out).1 (fun e => by have e' := Option.some.inj e; omega)).trans HZP.out
     have HBX1 : Hid (u1.heap[w.heap.size]? = some (.cells #[.int .i64 (b : Int), .int .i64 (p : Int), .int .i64 (s : Int)] 30 (0, 0))) := (g1.block _ (Array.getElem?_eq_some_iff.1 HBX.out).1 (fun e => by have e' := Option.some.inj e; omega)).trans HBX.out
     have HR2 : Hid (RdAt u1 B q (rest.drop 1)) := rd1
     have HW2 : Hid (w.grownBy u1 (some q)) := grownBy_trans HW1.out g1
     clear z0 z1 z2 z3 z4 z5 a0 a1 a2 a3 a4 a5 rd1 g1
     obtain ⟨z0, z1, z2, z3, z4, z5⟩ := blk3_cells HZP1.out
     obtain ⟨a0, a1, a2, a3, a4, a5⟩ := blk3_cells HBX1.out
     have T1 : Hid True := trivial)
  | (go_at_call 67; have zz := T1; clear T1 zz; refine (num_ok B q 2 (rest.drop 1) _ HR2.out (by rw [List.length_drop]; omega) (by rw [List.length_drop]; omega) (by omega) (by omega)).mono ?_; rintro e u2 ⟨rfl, rd2, g2⟩; rw [HN.out]
     have HZP2 : Hid (u2.heap[w.heap.size + 1]? = some (.cells #[.int .i64 0, .int .i64 0, .slice none 0 0] 135 (0, 0))) := (g2.block _ (Array.getElem?_eq_some_iff.1 HZP1.out).1 (fun e => by have e' := Option.some.inj e; omega)).trans HZP1.out
     have HBX2 : Hid (u2.heap[w.heap.size]? = some (.cells #[.int .i64 (b : Int), .int .i64 (p : Int), .int .i64 (s : Int)] 30 (0, 0))) := (g2.block _ (Array.getElem?_eq_some_iff.1 HBX1.out).1 (fun e => by have e' := Option.some.inj e; omega)).trans HBX1.out
     have HR3 : Hid (RdAt u2 B q (rest.drop 3)) := by unfold Hid; have h9 := rd2; rw [List.drop_drop] at h9; exact h9
     have HW3 : Hid (w.grownBy u2 (some q)) := grownBy_trans HW2.out g2
     clear z0 z1 z2 z3 z4 z5 a0 a1 a2 a3 a4 a5 rd2 g2
     obtain ⟨z0, z1, z2, z3, z4, z5⟩ := blk3_cells HZP2.out
     obtain ⟨a0, a1, a2, a3, a4, a5⟩ := blk3_cells HBX2.out)
  | (go_at_call 87; refine (told_big B q b p s n C S HC.out HS.out (rest.drop 3) _ HR3.out (by rw [List.length_drop]; omega) hf hn h3).mono ?_; rintro e u3 ⟨rfl, g3⟩
     have HZP3 : Hid (u3.heap[w.heap.size + 1]? = some (.cells #[.int .i64 0, .int .i64 0, .slice none 0 0] 135 (0, 0))) := (g3.block _ (Array.getElem?_eq_some_iff.1 HZP2.out).1 (fun e => by have e' := Option.some.inj e; omega)).trans HZP2.out
     have HBX3 : Hid (u3.heap[w.heap.size]? = some (.cells #[.int .i64 (b : Int), .int .i64 (p : Int), .int .i64 (s : Int)] 30 (0, 0))) := (g3.block _ (Array.getElem?_eq_some_iff.1 HBX2.out).1 (fun e => by have e' := Option.some.inj e; omega)).trans HBX2.out
     have HW4 : Hid (w.grownBy u3 (some q)) := grownBy_trans HW3.out g3
     clear z0 z1 z2 z3 z4 z5 a0 a1 a2 a3 a4 a5 g3
     obtain ⟨z0, z1, z2, z3, z4, z5⟩ := blk3_cells HZP3.out))
 have gF := grown3 u3 (w.heap.size + 1) (.int .i64 0) (.int .i64 0) (.slice none 0 0)
 have hF := blk3_set HZP3.out (.int .i64 0) (.int .i64 0) (.slice none 0 0)
 refine bodyPost_ret (v := .tuple #[.agg #[.int .i64 0, .int .i64 0, .slice none 0 0], .int .i64 47]) (by obtain ⟨y0, y1, y2, _⟩ := blk3_cells hF; simp [results, Tryd.results71, go_sem, y0, y1, y2]) rfl ?_
 have gG := grown_past HW4.out gF (by omega)
 first | exact ⟨rfl, gG⟩ | exact ⟨rfl, HW1.out⟩
set_option maxHeartbeats 2000000 in
set_option maxRecDepth 100000 in
theorem pc_tshort (B q b p s left C S : Nat) (hC : C = 256 * s) (hS : S = 54 + 3 * s) (rest : List Int) (w : World) (hR : RdAt w B q rest) (hl : rest.length ≤ 200000000000000) (hf : Fits (b : Int) (p : Int) (s : Int) = true) (hleft : left ≤ 70000) (h1 : 1 ≤ rest.length) (h2 : 3 ≤ rest.length) (hk : getL rest 0 1 = 1) (n : Nat) (hn : n ≤ 65535) (hnn : getL (rest.drop 1) 0 2 = (n : Int)) (h3 : n ≤ C) (h4 : (rest.drop 3).length < n + S) :
  Calls Tryd.prog 71 #[.pointer (some ⟨q, 0, none⟩), .agg #[.int .i64 (b : Int), .int .i64 (p : Int), .int .i64 (s : Int)], .int .i64 (left : Int)] w fun e w' => e = .returned (.tuple #[.agg #[.int .i64 0, .int .i64 0, .slice none 0 0], .int .i64 10]) ∧ w.grownBy w' (some q) := by
 have hqlt := hR.lt
 have hs := fits_s hf
 have hR1 : RdAt ((w.alloc (.cells #[.int .i64 (b : Int), .int .i64 (p : Int), .int .i64 (s : Int)] 30)).alloc (.cells #[.int .i64 0, .int .i64 0, .slice none 0 0] 135)) B q rest := (hR.below (below_alloc w _)).below (below_alloc _ _)
 have hbx : ((w.alloc (.cells #[.int .i64 (b : Int), .int .i64 (p : Int), .int .i64 (s : Int)] 30)).alloc (.cells #[.int .i64 0, .int .i64 0, .slice none 0 0] 135)).heap[w.heap.size]? = some (.cells #[.int .i64 (b : Int), .int .i64 (p : Int), .int .i64 (s : Int)] 30 (0, 0)) := by
  rw [Below.heap_alloc _ _ _ (by simp)]; exact heap_alloc_new _ _
 have hzp : ((w.alloc (.cells #[.int .i64 (b : Int), .int .i64 (p : Int), .int .i64 (s : Int)] 30)).alloc (.cells #[.int .i64 0, .int .i64 0, .slice none 0 0] 135)).heap[w.heap.size + 1]? = some (.cells #[.int .i64 0, .int .i64 0, .slice none 0 0] 135 (0, 0)) := by
  have h9 := heap_alloc_new (w.alloc (.cells #[.int .i64 (b : Int), .int .i64 (p : Int), .int .i64 (s : Int)] 30)) (.cells #[.int .i64 0, .int .i64 0, .slice none 0 0] 135); rw [World.size_alloc] at h9; exact h9
 have hw1 : w.grownBy ((w.alloc (.cells #[.int .i64 (b : Int), .int .i64 (p : Int), .int .i64 (s : Int)] 30)).alloc (.cells #[.int .i64 0, .int .i64 0, .slice none 0 0] 135)) (some q) := grownBy_trans (World.grownBy_alloc w _ _) (World.grownBy_alloc _ _ _)
 have HR1 : Hid (RdAt ((w.alloc (.cells #[.int .i64 (b : Int), .int .i64 (p : Int), .int .i64 (s : Int)] 30)).alloc (.cells #[.int .i64 0, .int .i64 0, .slice none 0 0] 135)) B q rest) := hR1
 have HBX : Hid (((w.alloc (.cells #[.int .i64 (b : Int), .int .i64 (p : Int), .int .i64 (s : Int)] 30)).alloc (.cells #[.int .i64 0, .int .i64 0, .slice none 0 0] 135)).heap[w.heap.size]? = some (.cells #[.int .i64 (b : Int), .int .i64 (p : Int), .int .i64 (s : Int)] 30 (0, 0))) := hbx
 have HZP : Hid (((w.alloc (.cells #[.int .i64 (b : Int), .int .i64 (p : Int), .int .i64 (s : Int)] 30)).alloc (.cells #[.int .i64 0, .int .i64 0, .slice none 0 0] 135)).heap[w.heap.size + 1]? = some (.cells #[.int .i64 0, .int .i64 0, .slice none 0 0] 135 (0, 0))) := hzp
 have HW1 : Hid (w.grownBy ((w.alloc (.cells #[.int .i64 (b : Int), .int .i64 (p : Int), .int .i64 (s : Int)] 30)).alloc (.cells #[.int .i64 0, .int .i64 0, .slice none 0 0] 135)) (some q)) := hw1
 obtain ⟨z0, z1, z2, z3, z4, z5⟩ := blk3_cells hzp
 obtain ⟨a0, a1, a2, a3, a4, a5⟩ := blk3_cells hbx
 have T0 : Hid True := trivial
 have HC : Hid (C = 256 * s) := hC
 have HS : Hid (S = 54 + 3 * s) := hS
 clear hR hR1 hbx hzp hw1 hC hS
 have HK : Hid (getL rest 0 1 = 1) := hk
 clear hk
 have HN : Hid (getL (rest.drop 1) 0 2 = (n : Int)) := hnn
 clear hnn
 go_enter Tryd.func71, Tryd.ntmps71
 go_wp2_with (first
  | (go_at_call 67; have zz := T0; clear T0 zz; refine (num_ok B q 1 rest _ HR1.out hl h1 (by omega) (by omega)).mono ?_; rintro e u1 ⟨rfl, rd1, g1⟩; rw [HK.out]
     have HZP1 : Hid (u1.heap[w.heap.size + 1]? = some (.cells #[.int .i64 0, .int .i64 0, .slice none 0 0] 135 (0, 0))) := (g1.block _ (Array.getElem?_eq_some_iff.1 HZP.out).1 (fun e => by have e' := Option.some.inj e; omega)).trans HZP.out
     have HBX1 : Hid (u1.heap[w.heap.size]? = some (.cells #[.int .i64 (b : Int), .int .i64 (p : Int), .int .i64 (s : Int)] 30 (0, 0))) := (g1.block _ (Array.getElem?_eq_some_iff.1 HBX.out).1 (fun e => by have e' := Option.some.inj e; omega)).trans HBX.out
     have HR2 : Hid (RdAt u1 B q (rest.drop 1)) := rd1
     have HW2 : Hid (w.grownBy u1 (some q)) := grownBy_trans HW1.out g1
     clear z0 z1 z2 z3 z4 z5 a0 a1 a2 a3 a4 a5 rd1 g1
     obtain ⟨z0, z1, z2, z3, z4, z5⟩ := blk3_cells HZP1.out
     obtain ⟨a0, a1, a2, a3, a4, a5⟩ := blk3_cells HBX1.out
     have T1 : Hid True := trivial)
  | (go_at_call 67; have zz := T1; clear T1 zz; refine (num_ok B q 2 (rest.drop 1) _ HR2.out (by rw [List.length_drop]; omega) (by rw [List.length_drop]; omega) (by omega) (by omega)).mono ?_; rintro e u2 ⟨rfl, rd2, g2⟩; rw [HN.out]
     have HZP2 : Hid (u2.heap[w.heap.size + 1]? = some (.cells #[.int .i64 0, .int .i64 0, .slice none 0 0] 135 (0, 0))) := (g2.block _ (Array.getElem?_eq_some_iff.1 HZP1.out).1 (fun e => by have e' := Option.some.inj e; omega)).trans HZP1.out
     have HBX2 : Hid (u2.heap[w.heap.size]? = some (.cells #[.int .i64 (b : Int), .int .i64 (p : Int), .int .i64 (s : Int)] 30 (0, 0))) := (g2.block _ (Array.getElem?_eq_some_iff.1 HBX1.out).1 (fun e => by have e' := Option.some.inj e; omega)).trans HBX1.out
     have HR3 : Hid (RdAt u2 B q (rest.drop 3)) := by unfold Hid; have h9 := rd2; rw [List.drop_drop] at h9; exact h9
     have HW3 : Hid (w.grownBy u2 (some q)) := grownBy_trans HW2.out g2
     clear z0 z1 z2 z3 z4 z5 a0 a1 a2 a3 a4 a5 rd2 g2
     obtain ⟨z0, z1, z2, z3, z4, z5⟩ := blk3_cells HZP2.out
     obtain ⟨a0, a1, a2, a3, a4, a5⟩ := blk3_cells HBX2.out)
  | (go_at_call 87; refine (told_short B q b p s n C S HC.out HS.out (rest.drop 3) _ HR3.out (by rw [List.length_drop]; omega) hf hn h3 h4).mono ?_; rintro e u3 ⟨rfl, g3⟩
     have HZP3 : Hid (u3.heap[w.heap.size + 1]? = some (.cells #[.int .i64 0, .int .i64 0, .slice none 0 0] 135 (0, 0))) := (g3.block _ (Array.getElem?_eq_some_iff.1 HZP2.out).1 (fun e => by have e' := Option.some.inj e; omega)).trans HZP2.out
     have HBX3 : Hid (u3.heap[w.heap.size]? = some (.cells #[.int .i64 (b : Int), .int .i64 (p : Int), .int .i64 (s : Int)] 30 (0, 0))) := (g3.block _ (Array.getElem?_eq_some_iff.1 HBX2.out).1 (fun e => by have e' := Option.some.inj e; omega)).trans HBX2.out
     have HW4 : Hid (w.grownBy u3 (some q)) := grownBy_trans HW3.out g3
     clear z0 z1 z2 z3 z4 z5 a0 a1 a2 a3 a4 a5 g3
     obtain ⟨z0, z1, z2, z3, z4, z5⟩ := blk3_cells HZP3.out))
 have gF := grown3 u3 (w.heap.size + 1) (.int .i64 0) (.int .i64 0) (.slice none 0 0)
 have hF := blk3_set HZP3.out (.int .i64 0) (.int .i64 0) (.slice none 0 0)
 refine bodyPost_ret (v := .tuple #[.agg #[.int .i64 0, .int .i64 0, .slice none 0 0], .int .i64 10]) (by obtain ⟨y0, y1, y2, _⟩ := blk3_cells hF; simp [results, Tryd.results71, go_sem, y0, y1, y2]) rfl ?_
 have gG := grown_past HW4.out gF (by omega)
 first | exact ⟨rfl, gG⟩ | exact ⟨rfl, HW1.out⟩
set_option maxHeartbeats 2000000 in
set_option maxRecDepth 100000 in
theorem pc_tbad (B q b p s left C S : Nat) (hC : C = 256 * s) (hS : S = 54 + 3 * s) (rest : List Int) (w : World) (hR : RdAt w B q rest) (hl : rest.length ≤ 200000000000000) (hf : Fits (b : Int) (p : Int) (s : Int) = true) (hleft : left ≤ 70000) (h1 : 1 ≤ rest.length) (h2 : 3 ≤ rest.length) (hk : getL rest 0 1 = 1) (n : Nat) (hn : n ≤ 65535) (hnn : getL (rest.drop 1) 0 2 = (n : Int)) (h3 : n ≤ C) (h4 : n + S ≤ (rest.drop 3).length) (h5 : wrN ((rest.drop 3).take n) < n) :
  Calls Tryd.prog 71 #[.pointer (some ⟨q, 0, none⟩), .agg #[.int .i64 (b : Int), .int .i64 (p : Int), .int .i64 (s : Int)], .int .i64 (left : Int)] w fun e w' => e = .returned (.tuple #[.agg #[.int .i64 0, .int .i64 0, .slice none 0 0], .int .i64 47]) ∧ w.grownBy w' (some q) := by
 have hqlt := hR.lt
 have hs := fits_s hf
 have hR1 : RdAt ((w.alloc (.cells #[.int .i64 (b : Int), .int .i64 (p : Int), .int .i64 (s : Int)] 30)).alloc (.cells #[.int .i64 0, .int .i64 0, .slice none 0 0] 135)) B q rest := (hR.below (below_alloc w _)).below (below_alloc _ _)
 have hbx : ((w.alloc (.cells #[.int .i64 (b : Int), .int .i64 (p : Int), .int .i64 (s : Int)] 30)).alloc (.cells #[.int .i64 0, .int .i64 0, .slice none 0 0] 135)).heap[w.heap.size]? = some (.cells #[.int .i64 (b : Int), .int .i64 (p : Int), .int .i64 (s : Int)] 30 (0, 0)) := by
  rw [Below.heap_alloc _ _ _ (by simp)]; exact heap_alloc_new _ _
 have hzp : ((w.alloc (.cells #[.int .i64 (b : Int), .int .i64 (p : Int), .int .i64 (s : Int)] 30)).alloc (.cells #[.int .i64 0, .int .i64 0, .slice none 0 0] 135)).heap[w.heap.size + 1]? = some (.cells #[.int .i64 0, .int .i64 0, .slice none 0 0] 135 (0, 0)) := by
  have h9 := heap_alloc_new (w.alloc (.cells #[.int .i64 (b : Int), .int .i64 (p : Int), .int .i64 (s : Int)] 30)) (.cells #[.int .i64 0, .int .i64 0, .slice none 0 0] 135); rw [World.size_alloc] at h9; exact h9
 have hw1 : w.grownBy ((w.alloc (.cells #[.int .i64 (b : Int), .int .i64 (p : Int), .int .i64 (s : Int)] 30)).alloc (.cells #[.int .i64 0, .int .i64 0, .slice none 0 0] 135)) (some q) := grownBy_trans (World.grownBy_alloc w _ _) (World.grownBy_alloc _ _ _)
 have HR1 : Hid (RdAt ((w.alloc (.cells #[.int .i64 (b : Int), .int .i64 (p : Int), .int .i64 (s : Int)] 30)).alloc (.cells #[.int .i64 0, .int .i64 0, .slice none 0 0] 135)) B q rest) := hR1
 have HBX : Hid (((w.alloc (.cells #[.int .i64 (b : Int), .int .i64 (p : Int), .int .i64 (s : Int)] 30)).alloc (.cells #[.int .i64 0, .int .i64 0, .slice none 0 0] 135)).heap[w.heap.size]? = some (.cells #[.int .i64 (b : Int), .int .i64 (p : Int), .int .i64 (s : Int)] 30 (0, 0))) := hbx
 have HZP : Hid (((w.alloc (.cells #[.int .i64 (b : Int), .int .i64 (p : Int), .int .i64 (s : Int)] 30)).alloc (.cells #[.int .i64 0, .int .i64 0, .slice none 0 0] 135)).heap[w.heap.size + 1]? = some (.cells #[.int .i64 0, .int .i64 0, .slice none 0 0] 135 (0, 0))) := hzp
 have HW1 : Hid (w.grownBy ((w.alloc (.cells #[.int .i64 (b : Int), .int .i64 (p : Int), .int .i64 (s : Int)] 30)).alloc (.cells #[.int .i64 0, .int .i64 0, .slice none 0 0] 135)) (some q)) := hw1
 obtain ⟨z0, z1, z2, z3, z4, z5⟩ := blk3_cells hzp
 obtain ⟨a0, a1, a2, a3, a4, a5⟩ := blk3_cells hbx
 have T0 : Hid True := trivial
 have HC : Hid (C = 256 * s) := hC
 have HS : Hid (S = 54 + 3 * s) := hS
 clear hR hR1 hbx hzp hw1 hC hS
 have HK : Hid (getL rest 0 1 = 1) := hk
 clear hk
 have HN : Hid (getL (rest.drop 1) 0 2 = (n : Int)) := hnn
 clear hnn
 go_enter Tryd.func71, Tryd.ntmps71
 go_wp2_with (first
  | (go_at_call 67; have zz := T0; clear T0 zz; refine (num_ok B q 1 rest _ HR1.out hl h1 (by omega) (by omega)).mono ?_; rintro e u1 ⟨rfl, rd1, g1⟩; rw [HK.out]
     have HZP1 : Hid (u1.heap[w.heap.size + 1]? = some (.cells #[.int .i64 0, .int .i64 0, .slice none 0 0] 135 (0, 0))) := (g1.block _ (Array.getElem?_eq_some_iff.1 HZP.out).1 (fun e => by have e' := Option.some.inj e; omega)).trans HZP.out
     have HBX1 : Hid (u1.heap[w.heap.size]? = some (.cells #[.int .i64 (b : Int), .int .i64 (p : Int), .int .i64 (s : Int)] 30 (0, 0))) := (g1.block _ (Array.getElem?_eq_some_iff.1 HBX.out).1 (fun e => by have e' := Option.some.inj e; omega)).trans HBX.out
     have HR2 : Hid (RdAt u1 B q (rest.drop 1)) := rd1
     have HW2 : Hid (w.grownBy u1 (some q)) := grownBy_trans HW1.out g1
     clear z0 z1 z2 z3 z4 z5 a0 a1 a2 a3 a4 a5 rd1 g1
     obtain ⟨z0, z1, z2, z3, z4, z5⟩ := blk3_cells HZP1.out
     obtain ⟨a0, a1, a2, a3, a4, a5⟩ := blk3_cells HBX1.out
     have T1 : Hid True := trivial)
  | (go_at_call 67; have zz := T1; clear T1 zz; refine (num_ok B q 2 (rest.drop 1) _ HR2.out (by rw [List.length_drop]; omega) (by rw [List.length_drop]; omega) (by omega) (by omega)).mono ?_; rintro e u2 ⟨rfl, rd2, g2⟩; rw [HN.out]
     have HZP2 : Hid (u2.heap[w.heap.size + 1]? = some (.cells #[.int .i64 0, .int .i64 0, .slice none 0 0] 135 (0, 0))) := (g2.block _ (Array.getElem?_eq_some_iff.1 HZP1.out).1 (fun e => by have e' := Option.some.inj e; omega)).trans HZP1.out
     have HBX2 : Hid (u2.heap[w.heap.size]? = some (.cells #[.int .i64 (b : Int), .int .i64 (p : Int), .int .i64 (s : Int)] 30 (0, 0))) := (g2.block _ (Array.getElem?_eq_some_iff.1 HBX1.out).1 (fun e => by have e' := Option.some.inj e; omega)).trans HBX1.out
     have HR3 : Hid (RdAt u2 B q (rest.drop 3)) := by unfold Hid; have h9 := rd2; rw [List.drop_drop] at h9; exact h9
     have HW3 : Hid (w.grownBy u2 (some q)) := grownBy_trans HW2.out g2
     clear z0 z1 z2 z3 z4 z5 a0 a1 a2 a3 a4 a5 rd2 g2
     obtain ⟨z0, z1, z2, z3, z4, z5⟩ := blk3_cells HZP2.out
     obtain ⟨a0, a1, a2, a3, a4, a5⟩ := blk3_cells HBX2.out)
  | (go_at_call 87; refine (told_bad B q b p s n C S HC.out HS.out (rest.drop 3) _ HR3.out (by rw [List.length_drop]; omega) hf hn h3 h4 h5).mono ?_; rintro e u3 ⟨rfl, g3⟩
     have HZP3 : Hid (u3.heap[w.heap.size + 1]? = some (.cells #[.int .i64 0, .int .i64 0, .slice none 0 0] 135 (0, 0))) := (g3.block _ (Array.getElem?_eq_some_iff.1 HZP2.out).1 (fun e => by have e' := Option.some.inj e; omega)).trans HZP2.out
     have HBX3 : Hid (u3.heap[w.heap.size]? = some (.cells #[.int .i64 (b : Int), .int .i64 (p : Int), .int .i64 (s : Int)] 30 (0, 0))) := (g3.block _ (Array.getElem?_eq_some_iff.1 HBX2.out).1 (fun e => by have e' := Option.some.inj e; omega)).trans HBX2.out
     have HW4 : Hid (w.grownBy u3 (some q)) := grownBy_trans HW3.out g3
     clear z0 z1 z2 z3 z4 z5 a0 a1 a2 a3 a4 a5 g3
     obtain ⟨z0, z1, z2, z3, z4, z5⟩ := blk3_cells HZP3.out))
 have gF := grown3 u3 (w.heap.size + 1) (.int .i64 0) (.int .i64 0) (.slice none 0 0)
 have hF := blk3_set HZP3.out (.int .i64 0) (.int .i64 0) (.slice none 0 0)
 refine bodyPost_ret (v := .tuple #[.agg #[.int .i64 0, .int .i64 0, .slice none 0 0], .int .i64 47]) (by obtain ⟨y0, y1, y2, _⟩ := blk3_cells hF; simp [results, Tryd.results71, go_sem, y0, y1, y2]) rfl ?_
 have gG := grown_past HW4.out gF (by omega)
 first | exact ⟨rfl, gG⟩ | exact ⟨rfl, HW1.out⟩
set_option maxHeartbeats 2000000 in
set_option maxRecDepth 100000 in
theorem pc_tok (B q b p s left C S : Nat) (hC : C = 256 * s) (hS : S = 54 + 3 * s) (rest : List Int) (w : World) (hR : RdAt w B q rest) (hl : rest.length ≤ 200000000000000) (hf : Fits (b : Int) (p : Int) (s : Int) = true) (hleft : left ≤ 70000) (h1 : 1 ≤ rest.length) (h2 : 3 ≤ rest.length) (hk : getL rest 0 1 = 1) (n : Nat) (hn : n ≤ 65535) (hnn : getL (rest.drop 1) 0 2 = (n : Int)) (h3 : n ≤ C) (h4 : n + S ≤ (rest.drop 3).length) (h5 : ¬ wrN ((rest.drop 3).take n) < n) :
  Calls Tryd.prog 71 #[.pointer (some ⟨q, 0, none⟩), .agg #[.int .i64 (b : Int), .int .i64 (p : Int), .int .i64 (s : Int)], .int .i64 (left : Int)] w fun e w' => ∃ g cc, e = .returned (.tuple #[.agg #[.int .i64 1, .int .i64 1, .slice (some ⟨g, 0, none⟩) (C + S) cc], .int .i64 0]) ∧ Own w' w.heap.size g (C + S) cc (pgT C S n (rest.drop 3)) ∧ RdAt w' B q (rest.drop (3 + (n + S))) ∧ w.grownBy w' (some q) := by
 have hqlt := hR.lt
 have hs := fits_s hf
 have hR1 : RdAt ((w.alloc (.cells #[.int .i64 (b : Int), .int .i64 (p : Int), .int .i64 (s : Int)] 30)).alloc (.cells #[.int .i64 0, .int .i64 0, .slice none 0 0] 135)) B q rest := (hR.below (below_alloc w _)).below (below_alloc _ _)
 have hbx : ((w.alloc (.cells #[.int .i64 (b : Int), .int .i64 (p : Int), .int .i64 (s : Int)] 30)).alloc (.cells #[.int .i64 0, .int .i64 0, .slice none 0 0] 135)).heap[w.heap.size]? = some (.cells #[.int .i64 (b : Int), .int .i64 (p : Int), .int .i64 (s : Int)] 30 (0, 0)) := by
  rw [Below.heap_alloc _ _ _ (by simp)]; exact heap_alloc_new _ _
 have hzp : ((w.alloc (.cells #[.int .i64 (b : Int), .int .i64 (p : Int), .int .i64 (s : Int)] 30)).alloc (.cells #[.int .i64 0, .int .i64 0, .slice none 0 0] 135)).heap[w.heap.size + 1]? = some (.cells #[.int .i64 0, .int .i64 0, .slice none 0 0] 135 (0, 0)) := by
  have h9 := heap_alloc_new (w.alloc (.cells #[.int .i64 (b : Int), .int .i64 (p : Int), .int .i64 (s : Int)] 30)) (.cells #[.int .i64 0, .int .i64 0, .slice none 0 0] 135); rw [World.size_alloc] at h9; exact h9
 have hw1 : w.grownBy ((w.alloc (.cells #[.int .i64 (b : Int), .int .i64 (p : Int), .int .i64 (s : Int)] 30)).alloc (.cells #[.int .i64 0, .int .i64 0, .slice none 0 0] 135)) (some q) := grownBy_trans (World.grownBy_alloc w _ _) (World.grownBy_alloc _ _ _)
 have HR1 : Hid (RdAt ((w.alloc (.cells #[.int .i64 (b : Int), .int .i64 (p : Int), .int .i64 (s : Int)] 30)).alloc (.cells #[.int .i64 0, .int .i64 0, .slice none 0 0] 135)) B q rest) := hR1
 have HBX : Hid (((w.alloc (.cells #[.int .i64 (b : Int), .int .i64 (p : Int), .int .i64 (s : Int)] 30)).alloc (.cells #[.int .i64 0, .int .i64 0, .slice none 0 0] 135)).heap[w.heap.size]? = some (.cells #[.int .i64 (b : Int), .int .i64 (p : Int), .int .i64 (s : Int)] 30 (0, 0))) := hbx
 have HZP : Hid (((w.alloc (.cells #[.int .i64 (b : Int), .int .i64 (p : Int), .int .i64 (s : Int)] 30)).alloc (.cells #[.int .i64 0, .int .i64 0, .slice none 0 0] 135)).heap[w.heap.size + 1]? = some (.cells #[.int .i64 0, .int .i64 0, .slice none 0 0] 135 (0, 0))) := hzp
 have HW1 : Hid (w.grownBy ((w.alloc (.cells #[.int .i64 (b : Int), .int .i64 (p : Int), .int .i64 (s : Int)] 30)).alloc (.cells #[.int .i64 0, .int .i64 0, .slice none 0 0] 135)) (some q)) := hw1
 obtain ⟨z0, z1, z2, z3, z4, z5⟩ := blk3_cells hzp
 obtain ⟨a0, a1, a2, a3, a4, a5⟩ := blk3_cells hbx
 have T0 : Hid True := trivial
 have HC : Hid (C = 256 * s) := hC
 have HS : Hid (S = 54 + 3 * s) := hS
 clear hR hR1 hbx hzp hw1 hC hS
 have HK : Hid (getL rest 0 1 = 1) := hk
 clear hk
 have HN : Hid (getL (rest.drop 1) 0 2 = (n : Int)) := hnn
 clear hnn
 go_enter Tryd.func71, Tryd.ntmps71
 go_wp2_with (first
  | (go_at_call 67; have zz := T0; clear T0 zz; refine (num_ok B q 1 rest _ HR1.out hl h1 (by omega) (by omega)).mono ?_; rintro e u1 ⟨rfl, rd1, g1⟩; rw [HK.out]
     have HZP1 : Hid (u1.heap[w.heap.size + 1]? = some (.cells #[.int .i64 0, .int .i64 0, .slice none 0 0] 135 (0, 0))) := (g1.block _ (Array.getElem?_eq_some_iff.1 HZP.out).1 (fun e => by have e' := Option.some.inj e; omega)).trans HZP.out
     have HBX1 : Hid (u1.heap[w.heap.size]? = some (.cells #[.int .i64 (b : Int), .int .i64 (p : Int), .int .i64 (s : Int)] 30 (0, 0))) := (g1.block _ (Array.getElem?_eq_some_iff.1 HBX.out).1 (fun e => by have e' := Option.some.inj e; omega)).trans HBX.out
     have HR2 : Hid (RdAt u1 B q (rest.drop 1)) := rd1
     have HW2 : Hid (w.grownBy u1 (some q)) := grownBy_trans HW1.out g1
     clear z0 z1 z2 z3 z4 z5 a0 a1 a2 a3 a4 a5 rd1 g1
     obtain ⟨z0, z1, z2, z3, z4, z5⟩ := blk3_cells HZP1.out
     obtain ⟨a0, a1, a2, a3, a4, a5⟩ := blk3_cells HBX1.out
     have T1 : Hid True := trivial)
  | (go_at_call 67; have zz := T1; clear T1 zz; refine (num_ok B q 2 (rest.drop 1) _ HR2.out (by rw [List.length_drop]; omega) (by rw [List.length_drop]; omega) (by omega) (by omega)).mono ?_; rintro e u2 ⟨rfl, rd2, g2⟩; rw [HN.out]
     have HZP2 : Hid (u2.heap[w.heap.size + 1]? = some (.cells #[.int .i64 0, .int .i64 0, .slice none 0 0] 135 (0, 0))) := (g2.block _ (Array.getElem?_eq_some_iff.1 HZP1.out).1 (fun e => by have e' := Option.some.inj e; omega)).trans HZP1.out
     have HBX2 : Hid (u2.heap[w.heap.size]? = some (.cells #[.int .i64 (b : Int), .int .i64 (p : Int), .int .i64 (s : Int)] 30 (0, 0))) := (g2.block _ (Array.getElem?_eq_some_iff.1 HBX1.out).1 (fun e => by have e' := Option.some.inj e; omega)).trans HBX1.out
     have HR3 : Hid (RdAt u2 B q (rest.drop 3)) := by unfold Hid; have h9 := rd2; rw [List.drop_drop] at h9; exact h9
     have HW3 : Hid (w.grownBy u2 (some q)) := grownBy_trans HW2.out g2
     clear z0 z1 z2 z3 z4 z5 a0 a1 a2 a3 a4 a5 rd2 g2
     obtain ⟨z0, z1, z2, z3, z4, z5⟩ := blk3_cells HZP2.out
     obtain ⟨a0, a1, a2, a3, a4, a5⟩ := blk3_cells HBX2.out)
  | (go_at_call 87; refine (told_ok B q b p s n C S HC.out HS.out (rest.drop 3) _ HR3.out (by rw [List.length_drop]; omega) hf hn h3 h4 h5).mono ?_; rintro e u3 ⟨g, cc, rfl, own3, rd3, g3⟩
     have HZP3 : Hid (u3.heap[w.heap.size + 1]? = some (.cells #[.int .i64 0, .int .i64 0, .slice none 0 0] 135 (0, 0))) := (g3.block _ (Array.getElem?_eq_some_iff.1 HZP2.out).1 (fun e => by have e' := Option.some.inj e; omega)).trans HZP2.out
     have HBX3 : Hid (u3.heap[w.heap.size]? = some (.cells #[.int .i64 (b : Int), .int .i64 (p : Int), .int .i64 (s : Int)] 30 (0, 0))) := (g3.block _ (Array.getElem?_eq_some_iff.1 HBX2.out).1 (fun e => by have e' := Option.some.inj e; omega)).trans HBX2.out
     have HW4 : Hid (w.grownBy u3 (some q)) := grownBy_trans HW3.out g3
     have HO : Hid (Own u3 w.heap.size g (C + S) cc (pgT C S n (rest.drop 3))) := own3.base HW3.out.size
     have hg : u2.heap.size ≤ g := own3.lt.1
     have HR5 : Hid (RdAt u3 B q (rest.drop (3 + (n + S)))) := by unfold Hid; have h9 := rd3; rw [List.drop_drop] at h9; exact h9
     have HS3 : Hid (w.heap.size + 1 < u2.heap.size) := (Array.getElem?_eq_some_iff.1 HZP2.out).1
     clear z0 z1 z2 z3 z4 z5 a0 a1 a2 a3 a4 a5 g3 own3 rd3
     obtain ⟨z0, z1, z2, z3, z4, z5⟩ := blk3_cells HZP3.out))
 have gF := grown3 u3 (w.heap.size + 1) (.int .i64 1) (.int .i64 1) (.slice (some ⟨g, 0, none⟩) (C + S) cc)
 have hF := blk3_set HZP3.out (.int .i64 1) (.int .i64 1) (.slice (some ⟨g, 0, none⟩) (C + S) cc)
 refine bodyPost_ret (v := .tuple #[.agg #[.int .i64 1, .int .i64 1, .slice (some ⟨g, 0, none⟩) (C + S) cc], .int .i64 0]) (by obtain ⟨y0, y1, y2, _⟩ := blk3_cells hF; simp [results, Tryd.results71, go_sem, y0, y1, y2]) rfl ?_
 have gG := grown_past HW4.out gF (by omega)
 have h9 := HS3.out
 exact ⟨g, cc, rfl, HO.out.apart gF (by omega), HR5.out.other gF (fun e => by have e' := Option.some.inj e; omega) (fun k e => by have e' := Option.some.inj e; omega), gG⟩
set_option maxHeartbeats 2000000 in
set_option maxRecDepth 100000 in
theorem pc_nz (B q b p s left C S : Nat) (hC : C = 256 * s) (hS : S = 54 + 3 * s) (rest : List Int) (w : World) (hR : RdAt w B q rest) (hl : rest.length ≤ 200000000000000) (hf : Fits (b : Int) (p : Int) (s : Int) = true) (hleft : left ≤ 70000) (h1 : 1 ≤ rest.length) (h2 : 3 ≤ rest.length) (kd : Nat) (hk : getL rest 0 1 = (kd : Int)) (hkd : kd = 0 ∨ kd = 2) (hnn : getL (rest.drop 1) 0 2 = 0) :
  Calls Tryd.prog 71 #[.pointer (some ⟨q, 0, none⟩), .agg #[.int .i64 (b : Int), .int .i64 (p : Int), .int .i64 (s : Int)], .int .i64 (left : Int)] w fun e w' => e = .returned (.tuple #[.agg #[.int .i64 0, .int .i64 0, .slice none 0 0], .int .i64 47]) ∧ w.grownBy w' (some q) := by
 have hqlt := hR.lt
 have hs := fits_s hf
 have hR1 : RdAt ((w.alloc (.cells #[.int .i64 (b : Int), .int .i64 (p : Int), .int .i64 (s : Int)] 30)).alloc (.cells #[.int .i64 0, .int .i64 0, .slice none 0 0] 135)) B q rest := (hR.below (below_alloc w _)).below (below_alloc _ _)
 have hbx : ((w.alloc (.cells #[.int .i64 (b : Int), .int .i64 (p : Int), .int .i64 (s : Int)] 30)).alloc (.cells #[.int .i64 0, .int .i64 0, .slice none 0 0] 135)).heap[w.heap.size]? = some (.cells #[.int .i64 (b : Int), .int .i64 (p : Int), .int .i64 (s : Int)] 30 (0, 0)) := by
  rw [Below.heap_alloc _ _ _ (by simp)]; exact heap_alloc_new _ _
 have hzp : ((w.alloc (.cells #[.int .i64 (b : Int), .int .i64 (p : Int), .int .i64 (s : Int)] 30)).alloc (.cells #[.int .i64 0, .int .i64 0, .slice none 0 0] 135)).heap[w.heap.size + 1]? = some (.cells #[.int .i64 0, .int .i64 0, .slice none 0 0] 135 (0, 0)) := by
  have h9 := heap_alloc_new (w.alloc (.cells #[.int .i64 (b : Int), .int .i64 (p : Int), .int .i64 (s : Int)] 30)) (.cells #[.int .i64 0, .int .i64 0, .slice none 0 0] 135); rw [World.size_alloc] at h9; exact h9
 have hw1 : w.grownBy ((w.alloc (.cells #[.int .i64 (b : Int), .int .i64 (p : Int), .int .i64 (s : Int)] 30)).alloc (.cells #[.int .i64 0, .int .i64 0, .slice none 0 0] 135)) (some q) := grownBy_trans (World.grownBy_alloc w _ _) (World.grownBy_alloc _ _ _)
 have HR1 : Hid (RdAt ((w.alloc (.cells #[.int .i64 (b : Int), .int .i64 (p : Int), .int .i64 (s : Int)] 30)).alloc (.cells #[.int .i64 0, .int .i64 0, .slice none 0 0] 135)) B q rest) := hR1
 have HBX : Hid (((w.alloc (.cells #[.int .i64 (b : Int), .int .i64 (p : Int), .int .i64 (s : Int)] 30)).alloc (.cells #[.int .i64 0, .int .i64 0, .slice none 0 0] 135)).heap[w.heap.size]? = some (.cells #[.int .i64 (b : Int), .int .i64 (p : Int), .int .i64 (s : Int)] 30 (0, 0))) := hbx
 have HZP : Hid (((w.alloc (.cells #[.int .i64 (b : Int), .int .i64 (p : Int), .int .i64 (s : Int)] 30)).alloc (.cells #[.int .i64 0, .int .i64 0, .slice none 0 0] 135)).heap[w.heap.size + 1]? = some (.cells #[.int .i64 0, .int .i64 0, .slice none 0 0] 135 (0, 0))) := hzp
 have HW1 : Hid (w.grownBy ((w.alloc (.cells #[.int .i64 (b : Int), .int .i64 (p : Int), .int .i64 (s : Int)] 30)).alloc (.cells #[.int .i64 0, .int .i64 0, .slice none 0 0] 135)) (some q)) := hw1
 obtain ⟨z0, z1, z2, z3, z4, z5⟩ := blk3_cells hzp
 obtain ⟨a0, a1, a2, a3, a4, a5⟩ := blk3_cells hbx
 have T0 : Hid True := trivial
 have HC : Hid (C = 256 * s) := hC
 have HS : Hid (S = 54 + 3 * s) := hS
 clear hR hR1 hbx hzp hw1 hC hS
 have HK : Hid (getL rest 0 1 = (kd : Int)) := hk
 clear hk
 have HN : Hid (getL (rest.drop 1) 0 2 = 0) := hnn
 clear hnn
 have d1 : ¬ (2 : Int) < (kd : Int) := by omega
 have d2 : ((kd : Int) == 1) = false := by rw [beq_eq_false_iff_ne]; omega
 have d4 : ¬ kd = 1 := by omega
 go_enter Tryd.func71, Tryd.ntmps71
 go_wp2_with (first
  | (go_at_call 67; have zz := T0; clear T0 zz; refine (num_ok B q 1 rest _ HR1.out hl h1 (by omega) (by omega)).mono ?_; rintro e u1 ⟨rfl, rd1, g1⟩; rw [HK.out]
     have HZP1 : Hid (u1.heap[w.heap.size + 1]? = some (.cells #[.int .i64 0, .int .i64 0, .slice none 0 0] 135 (0, 0))) := (g1.block _ (Array.getElem?_eq_some_iff.1 HZP.out).1 (fun e => by have e' := Option.some.inj e; omega)).trans HZP.out
     have HBX1 : Hid (u1.heap[w.heap.size]? = some (.cells #[.int .i64 (b : Int), .int .i64 (p : Int), .int .i64 (s : Int)] 30 (0, 0))) := (g1.block _ (Array.getElem?_eq_some_iff.1 HBX.out).1 (fun e => by have e' := Option.some.inj e; omega)).trans HBX.out
     have HR2 : Hid (RdAt u1 B q (rest.drop 1)) := rd1
     have HW2 : Hid (w.grownBy u1 (some q)) := grownBy_trans HW1.out g1
     clear z0 z1 z2 z3 z4 z5 a0 a1 a2 a3 a4 a5 rd1 g1
     obtain ⟨z0, z1, z2, z3, z4, z5⟩ := blk3_cells HZP1.out
     obtain ⟨a0, a1, a2, a3, a4, a5⟩ := blk3_cells HBX1.out
     have T1 : Hid True := trivial)
  | (go_at_call 67; have zz := T1; clear T1 zz; refine (num_ok B q 2 (rest.drop 1) _ HR2.out (by rw [List.length_drop]; omega) (by rw [List.length_drop]; omega) (by omega) (by omega)).mono ?_; rintro e u2 ⟨rfl, rd2, g2⟩; rw [HN.out]
     have HZP2 : Hid (u2.heap[w.heap.size + 1]? = some (.cells #[.int .i64 0, .int .i64 0, .slice none 0 0] 135 (0, 0))) := (g2.block _ (Array.getElem?_eq_some_iff.1 HZP1.out).1 (fun e => by have e' := Option.some.inj e; omega)).trans HZP1.out
     have HBX2 : Hid (u2.heap[w.heap.size]? = some (.cells #[.int .i64 (b : Int), .int .i64 (p : Int), .int .i64 (s : Int)] 30 (0, 0))) := (g2.block _ (Array.getElem?_eq_some_iff.1 HBX1.out).1 (fun e => by have e' := Option.some.inj e; omega)).trans HBX1.out
     have HR3 : Hid (RdAt u2 B q (rest.drop 3)) := by unfold Hid; have h9 := rd2; rw [List.drop_drop] at h9; exact h9
     have HW3 : Hid (w.grownBy u2 (some q)) := grownBy_trans HW2.out g2
     clear z0 z1 z2 z3 z4 z5 a0 a1 a2 a3 a4 a5 rd2 g2
     obtain ⟨z0, z1, z2, z3, z4, z5⟩ := blk3_cells HZP2.out
     obtain ⟨a0, a1, a2, a3, a4, a5⟩ := blk3_cells HBX2.out))
 have gF := grown3 u2 (w.heap.size + 1) (.int .i64 0) (.int .i64 0) (.slice none 0 0)
 have hF := blk3_set HZP2.out (.int .i64 0) (.int .i64 0) (.slice none 0 0)
 refine bodyPost_ret (v := .tuple #[.agg #[.int .i64 0, .int .i64 0, .slice none 0 0], .int .i64 47]) (by obtain ⟨y0, y1, y2, _⟩ := blk3_cells hF; simp [results, Tryd.results71, go_sem, y0, y1, y2]) rfl ?_
 have gG := grown_past HW3.out gF (by omega)
 first | exact ⟨rfl, gG⟩ | exact ⟨rfl, HW1.out⟩
set_option maxHeartbeats 2000000 in
set_option maxRecDepth 100000 in
theorem pc_nbig (B q b p s left C S : Nat) (hC : C = 256 * s) (hS : S = 54 + 3 * s) (rest : List Int) (w : World) (hR : RdAt w B q rest) (hl : rest.length ≤ 200000000000000) (hf : Fits (b : Int) (p : Int) (s : Int) = true) (hleft : left ≤ 70000) (h1 : 1 ≤ rest.length) (h2 : 3 ≤ rest.length) (kd : Nat) (hk : getL rest 0 1 = (kd : Int)) (hkd : kd = 0 ∨ kd = 2) (n : Nat) (hn : n ≤ 65535) (hnn : getL (rest.drop 1) 0 2 = (n : Int)) (h3 : left < n) :
  Calls Tryd.prog 71 #[.pointer (some ⟨q, 0, none⟩), .agg #[.int .i64 (b : Int), .int .i64 (p : Int), .int .i64 (s : Int)], .int .i64 (left : Int)] w fun e w' => e = .returned (.tuple #[.agg #[.int .i64 0, .int .i64 0, .slice none 0 0], .int .i64 47]) ∧ w.grownBy w' (some q) := by
 have hqlt := hR.lt
 have hs := fits_s hf
 have hR1 : RdAt ((w.alloc (.cells #[.int .i64 (b : Int), .int .i64 (p : Int), .int .i64 (s : Int)] 30)).alloc (.cells #[.int .i64 0, .int .i64 0, .slice none 0 0] 135)) B q rest := (hR.below (below_alloc w _)).below (below_alloc _ _)
 have hbx : ((w.alloc (.cells #[.int .i64 (b : Int), .int .i64 (p : Int), .int .i64 (s : Int)] 30)).alloc (.cells #[.int .i64 0, .int .i64 0, .slice none 0 0] 135)).heap[w.heap.size]? = some (.cells #[.int .i64 (b : Int), .int .i64 (p : Int), .int .i64 (s : Int)] 30 (0, 0)) := by
  rw [Below.heap_alloc _ _ _ (by simp)]; exact heap_alloc_new _ _
 have hzp : ((w.alloc (.cells #[.int .i64 (b : Int), .int .i64 (p : Int), .int .i64 (s : Int)] 30)).alloc (.cells #[.int .i64 0, .int .i64 0, .slice none 0 0] 135)).heap[w.heap.size + 1]? = some (.cells #[.int .i64 0, .int .i64 0, .slice none 0 0] 135 (0, 0)) := by
  have h9 := heap_alloc_new (w.alloc (.cells #[.int .i64 (b : Int), .int .i64 (p : Int), .int .i64 (s : Int)] 30)) (.cells #[.int .i64 0, .int .i64 0, .slice none 0 0] 135); rw [World.size_alloc] at h9; exact h9
 have hw1 : w.grownBy ((w.alloc (.cells #[.int .i64 (b : Int), .int .i64 (p : Int), .int .i64 (s : Int)] 30)).alloc (.cells #[.int .i64 0, .int .i64 0, .slice none 0 0] 135)) (some q) := grownBy_trans (World.grownBy_alloc w _ _) (World.grownBy_alloc _ _ _)
 have HR1 : Hid (RdAt ((w.alloc (.cells #[.int .i64 (b : Int), .int .i64 (p : Int), .int .i64 (s : Int)] 30)).alloc (.cells #[.int .i64 0, .int .i64 0, .slice none 0 0] 135)) B q rest) := hR1
 have HBX : Hid (((w.alloc (.cells #[.int .i64 (b : Int), .int .i64 (p : Int), .int .i64 (s : Int)] 30)).alloc (.cells #[.int .i64 0, .int .i64 0, .slice none 0 0] 135)).heap[w.heap.size]? = some (.cells #[.int .i64 (b : Int), .int .i64 (p : Int), .int .i64 (s : Int)] 30 (0, 0))) := hbx
 have HZP : Hid (((w.alloc (.cells #[.int .i64 (b : Int), .int .i64 (p : Int), .int .i64 (s : Int)] 30)).alloc (.cells #[.int .i64 0, .int .i64 0, .slice none 0 0] 135)).heap[w.heap.size + 1]? = some (.cells #[.int .i64 0, .int .i64 0, .slice none 0 0] 135 (0, 0))) := hzp
 have HW1 : Hid (w.grownBy ((w.alloc (.cells #[.int .i64 (b : Int), .int .i64 (p : Int), .int .i64 (s : Int)] 30)).alloc (.cells #[.int .i64 0, .int .i64 0, .slice none 0 0] 135)) (some q)) := hw1
 obtain ⟨z0, z1, z2, z3, z4, z5⟩ := blk3_cells hzp
 obtain ⟨a0, a1, a2, a3, a4, a5⟩ := blk3_cells hbx
 have T0 : Hid True := trivial
 have HC : Hid (C = 256 * s) := hC
 have HS : Hid (S = 54 + 3 * s) := hS
 clear hR hR1 hbx hzp hw1 hC hS
 have HK : Hid (getL rest 0 1 = (kd : Int)) := hk
 clear hk
 have HN : Hid (getL (rest.drop 1) 0 2 = (n : Int)) := hnn
 clear hnn
 have d1 : ¬ (2 : Int) < (kd : Int) := by omega
 have d2 : ((kd : Int) == 1) = false := by rw [beq_eq_false_iff_ne]; omega
 have d4 : ¬ kd = 1 := by omega
 have d3 : (left : Int) < (n : Int) := by omega
 have d5 : ((n : Int) == 0) = false := by rw [beq_eq_false_iff_ne]; omega
 go_enter Tryd.func71, Tryd.ntmps71
 go_wp2_with (first
  | (go_at_call 67; have zz := T0; clear T0 zz; refine (num_ok B q 1 rest _ HR1.out hl h1 (by omega) (by omega)).mono ?_; rintro e u1 ⟨rfl, rd1, g1⟩; rw [HK.out]
     have HZP1 : Hid (u1.heap[w.heap.size + 1]? = some (.cells #[.int .i64 0, .int .i64 0, .slice none 0 0] 135 (0, 0))) := (g1.block _ (Array.getElem?_eq_some_iff.1 HZP.out).1 (fun e => by have e' := Option.some.inj e; omega)).trans HZP.out
     have HBX1 : Hid (u1.heap[w.heap.size]? = some (.cells #[.int .i64 (b : Int), .int .i64 (p : Int), .int .i64 (s : Int)] 30 (0, 0))) := (g1.block _ (Array.getElem?_eq_some_iff.1 HBX.out).1 (fun e => by have e' := Option.some.inj e; omega)).trans HBX.out
     have HR2 : Hid (RdAt u1 B q (rest.drop 1)) := rd1
     have HW2 : Hid (w.grownBy u1 (some q)) := grownBy_trans HW1.out g1
     clear z0 z1 z2 z3 z4 z5 a0 a1 a2 a3 a4 a5 rd1 g1
     obtain ⟨z0, z1, z2, z3, z4, z5⟩ := blk3_cells HZP1.out
     obtain ⟨a0, a1, a2, a3, a4, a5⟩ := blk3_cells HBX1.out
     have T1 : Hid True := trivial)
  | (go_at_call 67; have zz := T1; clear T1 zz; refine (num_ok B q 2 (rest.drop 1) _ HR2.out (by rw [List.length_drop]; omega) (by rw [List.length_drop]; omega) (by omega) (by omega)).mono ?_; rintro e u2 ⟨rfl, rd2, g2⟩; rw [HN.out]
     have HZP2 : Hid (u2.heap[w.heap.size + 1]? = some (.cells #[.int .i64 0, .int .i64 0, .slice none 0 0] 135 (0, 0))) := (g2.block _ (Array.getElem?_eq_some_iff.1 HZP1.out).1 (fun e => by have e' := Option.some.inj e; omega)).trans HZP1.out
     have HBX2 : Hid (u2.heap[w.heap.size]? = some (.cells #[.int .i64 (b : Int), .int .i64 (p : Int), .int .i64 (s : Int)] 30 (0, 0))) := (g2.block _ (Array.getElem?_eq_some_iff.1 HBX1.out).1 (fun e => by have e' := Option.some.inj e; omega)).trans HBX1.out
     have HR3 : Hid (RdAt u2 B q (rest.drop 3)) := by unfold Hid; have h9 := rd2; rw [List.drop_drop] at h9; exact h9
     have HW3 : Hid (w.grownBy u2 (some q)) := grownBy_trans HW2.out g2
     clear z0 z1 z2 z3 z4 z5 a0 a1 a2 a3 a4 a5 rd2 g2
     obtain ⟨z0, z1, z2, z3, z4, z5⟩ := blk3_cells HZP2.out
     obtain ⟨a0, a1, a2, a3, a4, a5⟩ := blk3_cells HBX2.out))
 have gF := grown3 u2 (w.heap.size + 1) (.int .i64 0) (.int .i64 0) (.slice none 0 0)
 have hF := blk3_set HZP2.out (.int .i64 0) (.int .i64 0) (.slice none 0 0)
 refine bodyPost_ret (v := .tuple #[.agg #[.int .i64 0, .int .i64 0, .slice none 0 0], .int .i64 47]) (by obtain ⟨y0, y1, y2, _⟩ := blk3_cells hF; simp [results, Tryd.results71, go_sem, y0, y1, y2]) rfl ?_
 have gG := grown_past HW3.out gF (by omega)
 first | exact ⟨rfl, gG⟩ | exact ⟨rfl, HW1.out⟩
set_option maxHeartbeats 2000000 in
set_option maxRecDepth 100000 in
theorem pc_nok (B q b p s left C S : Nat) (hC : C = 256 * s) (hS : S = 54 + 3 * s) (rest : List Int) (w : World) (hR : RdAt w B q rest) (hl : rest.length ≤ 200000000000000) (hf : Fits (b : Int) (p : Int) (s : Int) = true) (hleft : left ≤ 70000) (h1 : 1 ≤ rest.length) (h2 : 3 ≤ rest.length) (kd : Nat) (hk : getL rest 0 1 = (kd : Int)) (hkd : kd = 0 ∨ kd = 2) (n : Nat) (hn : n ≤ 65535) (hnn : getL (rest.drop 1) 0 2 = (n : Int)) (h3 : 0 < n) (h4 : n ≤ left) :
  Calls Tryd.prog 71 #[.pointer (some ⟨q, 0, none⟩), .agg #[.int .i64 (b : Int), .int .i64 (p : Int), .int .i64 (s : Int)], .int .i64 (left : Int)] w fun e w' => e = .returned (.tuple #[.agg #[.int .i64 (kd : Int), .int .i64 (n : Int), .slice none 0 0], .int .i64 0]) ∧ RdAt w' B q (rest.drop 3) ∧ w.grownBy w' (some q) := by
 have hqlt := hR.lt
 have hs := fits_s hf
 have hR1 : RdAt ((w.alloc (.cells #[.int .i64 (b : Int), .int .i64 (p : Int), .int .i64 (s : Int)] 30)).alloc (.cells #[.int .i64 0, .int .i64 0, .slice none 0 0] 135)) B q rest := (hR.below (below_alloc w _)).below (below_alloc _ _)
 have hbx : ((w.alloc (.cells #[.int .i64 (b : Int), .int .i64 (p : Int), .int .i64 (s : Int)] 30)).alloc (.cells #[.int .i64 0, .int .i64 0, .slice none 0 0] 135)).heap[w.heap.size]? = some (.cells #[.int .i64 (b : Int), .int .i64 (p : Int), .int .i64 (s : Int)] 30 (0, 0)) := by
  rw [Below.heap_alloc _ _ _ (by simp)]; exact heap_alloc_new _ _
 have hzp : ((w.alloc (.cells #[.int .i64 (b : Int), .int .i64 (p : Int), .int .i64 (s : Int)] 30)).alloc (.cells #[.int .i64 0, .int .i64 0, .slice none 0 0] 135)).heap[w.heap.size + 1]? = some (.cells #[.int .i64 0, .int .i64 0, .slice none 0 0] 135 (0, 0)) := by
  have h9 := heap_alloc_new (w.alloc (.cells #[.int .i64 (b : Int), .int .i64 (p : Int), .int .i64 (s : Int)] 30)) (.cells #[.int .i64 0, .int .i64 0, .slice none 0 0] 135); rw [World.size_alloc] at h9; exact h9
 have hw1 : w.grownBy ((w.alloc (.cells #[.int .i64 (b : Int), .int .i64 (p : Int), .int .i64 (s : Int)] 30)).alloc (.cells #[.int .i64 0, .int .i64 0, .slice none 0 0] 135)) (some q) := grownBy_trans (World.grownBy_alloc w _ _) (World.grownBy_alloc _ _ _)
 have HR1 : Hid (RdAt ((w.alloc (.cells #[.int .i64 (b : Int), .int .i64 (p : Int), .int .i64 (s : Int)] 30)).alloc (.cells #[.int .i64 0, .int .i64 0, .slice none 0 0] 135)) B q rest) := hR1
 have HBX : Hid (((w.alloc (.cells #[.int .i64 (b : Int), .int .i64 (p : Int), .int .i64 (s : Int)] 30)).alloc (.cells #[.int .i64 0, .int .i64 0, .slice none 0 0] 135)).heap[w.heap.size]? = some (.cells #[.int .i64 (b : Int), .int .i64 (p : Int), .int .i64 (s : Int)] 30 (0, 0))) := hbx
 have HZP : Hid (((w.alloc (.cells #[.int .i64 (b : Int), .int .i64 (p : Int), .int .i64 (s : Int)] 30)).alloc (.cells #[.int .i64 0, .int .i64 0, .slice none 0 0] 135)).heap[w.heap.size + 1]? = some (.cells #[.int .i64 0, .int .i64 0, .slice none 0 0] 135 (0, 0))) := hzp
 have HW1 : Hid (w.grownBy ((w.alloc (.cells #[.int .i64 (b : Int), .int .i64 (p : Int), .int .i64 (s : Int)] 30)).alloc (.cells #[.int .i64 0, .int .i64 0, .slice none 0 0] 135)) (some q)) := hw1
 obtain ⟨z0, z1, z2, z3, z4, z5⟩ := blk3_cells hzp
 obtain ⟨a0, a1, a2, a3, a4, a5⟩ := blk3_cells hbx
 have T0 : Hid True := trivial
 have HC : Hid (C = 256 * s) := hC
 have HS : Hid (S = 54 + 3 * s) := hS
 clear hR hR1 hbx hzp hw1 hC hS
 have HK : Hid (getL rest 0 1 = (kd : Int)) := hk
 clear hk
 have HN : Hid (getL (rest.drop 1) 0 2 = (n : Int)) := hnn
 clear hnn
 have d1 : ¬ (2 : Int) < (kd : Int) := by omega
 have d2 : ((kd : Int) == 1) = false := by rw [beq_eq_false_iff_ne]; omega
 have d4 : ¬ kd = 1 := by omega
 have d3 : ¬ (left : Int) < (n : Int) := by omega
 have d5 : ((n : Int) == 0) = false := by rw [beq_eq_false_iff_ne]; omega
 go_enter Tryd.func71, Tryd.ntmps71
 go_wp2_with (first
  | (go_at_call 67; have zz := T0; clear T0 zz; refine (num_ok B q 1 rest _ HR1.out hl h1 (by omega) (by omega)).mono ?_; rintro e u1 ⟨rfl, rd1, g1⟩; rw [HK.out]
     have HZP1 : Hid (u1.heap[w.heap.size + 1]? = some (.cells #[.int .i64 0, .int .i64 0, .slice none 0 0] 135 (0, 0))) := (g1.block _ (Array.getElem?_eq_some_iff.1 HZP.out).1 (fun e => by have e' := Option.some.inj e; omega)).trans HZP.out
     have HBX1 : Hid (u1.heap[w.heap.size]? = some (.cells #[.int .i64 (b : Int), .int .i64 (p : Int), .int .i64 (s : Int)] 30 (0, 0))) := (g1.block _ (Array.getElem?_eq_some_iff.1 HBX.out).1 (fun e => by have e' := Option.some.inj e; omega)).trans HBX.out
     have HR2 : Hid (RdAt u1 B q (rest.drop 1)) := rd1
     have HW2 : Hid (w.grownBy u1 (some q)) := grownBy_trans HW1.out g1
     clear z0 z1 z2 z3 z4 z5 a0 a1 a2 a3 a4 a5 rd1 g1
     obtain ⟨z0, z1, z2, z3, z4, z5⟩ := blk3_cells HZP1.out
     obtain ⟨a0, a1, a2, a3, a4, a5⟩ := blk3_cells HBX1.out
     have T1 : Hid True := trivial)
  | (go_at_call 67; have zz := T1; clear T1 zz; refine (num_ok B q 2 (rest.drop 1) _ HR2.out (by rw [List.length_drop]; omega) (by rw [List.length_drop]; omega) (by omega) (by omega)).mono ?_; rintro e u2 ⟨rfl, rd2, g2⟩; rw [HN.out]
     have HZP2 : Hid (u2.heap[w.heap.size + 1]? = some (.cells #[.int .i64 0, .int .i64 0, .slice none 0 0] 135 (0, 0))) := (g2.block _ (Array.getElem?_eq_some_iff.1 HZP1.out).1 (fun e => by have e' := Option.some.inj e; omega)).trans HZP1.out
     have HBX2 : Hid (u2.heap[w.heap.size]? = some (.cells #[.int .i64 (b : Int), .int .i64 (p : Int), .int .i64 (s : Int)] 30 (0, 0))) := (g2.block _ (Array.getElem?_eq_some_iff.1 HBX1.out).1 (fun e => by have e' := Option.some.inj e; omega)).trans HBX1.out
     have HR3 : Hid (RdAt u2 B q (rest.drop 3)) := by unfold Hid; have h9 := rd2; rw [List.drop_drop] at h9; exact h9
     have HW3 : Hid (w.grownBy u2 (some q)) := grownBy_trans HW2.out g2
     clear z0 z1 z2 z3 z4 z5 a0 a1 a2 a3 a4 a5 rd2 g2
     obtain ⟨z0, z1, z2, z3, z4, z5⟩ := blk3_cells HZP2.out
     obtain ⟨a0, a1, a2, a3, a4, a5⟩ := blk3_cells HBX2.out))
 have gF := grown3 u2 (w.heap.size + 1) (.int .i64 (kd : Int)) (.int .i64 (n : Int)) (.slice none 0 0)
 have hF := blk3_set HZP2.out (.int .i64 (kd : Int)) (.int .i64 (n : Int)) (.slice none 0 0)
 refine bodyPost_ret (v := .tuple #[.agg #[.int .i64 (kd : Int), .int .i64 (n : Int), .slice none 0 0], .int .i64 0]) (by obtain ⟨y0, y1, y2, _⟩ := blk3_cells hF; simp [results, Tryd.results71, go_sem, y0, y1, y2]) rfl ?_
 have gG := grown_past HW3.out gF (by omega)
 exact ⟨rfl, HR3.out.other gF (fun e => by have e' := Option.some.inj e; omega) (fun k e => by have e' := Option.some.inj e; omega), gG⟩
end Go.Proofs.YtnmnhgagnfodhaaDoor
