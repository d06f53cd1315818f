/-
  SEAT YtnmnhgagnfodhaaDoor: Re, Rf.
-/
import Derived.Test.YtnmnhgagnfodhaaDoorMbh
import Derived.Test.YtnmnhgagnfodhaaDoorMa
namespace Go.Proofs.YtnmnhgagnfodhaaDoor
open Go.RowKit
set_option linter.unusedVariables false
theorem repeat_any (bk off c n : Nat) (w : World) (hw : w.cell? ⟨bk, off, none⟩ = some (.int .u8 255)) (hn : n ≤ 4096) : Calls Tryd.prog 70 #[.slice (some ⟨bk, off, none⟩) 1 c, .int .i64 (n : Int)] w fun e w' => OnesAt w w' e n := by
 rcases Nat.eq_zero_or_pos n with h | h
 ·subst h; exact repeat_zero _ c w
 ·exact repeat_some bk off c n w hw h hn
theorem grown3 (u : World) (i : Nat) (v0 v1 v2 : Value) : u.grownBy (((u.setCell ⟨i, 0, none⟩ v0).setCell ⟨i, 1, none⟩ v1).setCell ⟨i, 2, none⟩ v2) (some i) :=
 grownBy_trans (grownBy_trans (set_grown u i 0 v0) (set_grown _ i 1 v1)) (set_grown _ i 2 v2)
theorem blk3_set {u : World} {i : Nat} {a0 a1 a2 : Value} {t : TypeId} (h : u.heap[i]? = some (.cells #[a0, a1, a2] t (0, 0))) (v0 v1 v2 : Value) :
  (((u.setCell ⟨i, 0, none⟩ v0).setCell ⟨i, 1, none⟩ v1).setCell ⟨i, 2, none⟩ v2).heap[i]? = some (.cells #[v0, v1, v2] t (0, 0)) := blk3_2 (blk3_1 (blk3_0 h v0) v1) v2
set_option maxHeartbeats 2000000 in
set_option maxRecDepth 100000 in
theorem told_big (B q b p s n C S : Nat) (hC : C = 256 * s) (hS : S = 54 + 3 * s) (rest : List Int) (w : World) (hR : RdAt w B q rest) (hl : rest.length ≤ 200000000000000) (hf : Fits (b : Int) (p : Int) (s : Int) = true) (hn : n ≤ 65535) (hb : C < n) :
  Calls Tryd.prog 87 #[.pointer (some ⟨q, 0, none⟩), .agg #[.int .i64 (b : Int), .int .i64 (p : Int), .int .i64 (s : Int)], .int .i64 (n : Int)] w fun e w' => e = .returned (.tuple #[.agg #[.int .i64 0, .int .i64 0, .slice none 0 0], .int .i64 47]) ∧ w.grownBy w' (some q) := by
 have hqlt := hR.lt
 have hs := fits_s hf
 obtain ⟨L, hL⟩ : ∃ L : Nat, L = C + S := ⟨_, rfl⟩
 obtain ⟨M, hM⟩ : ∃ M : Nat, M = n + S := ⟨_, rfl⟩
 have hLM : (n : Int) + (L : Int) - (C : Int) = (M : Int) := by omega
 have HM : Hid (n + S = M) := hM.symm
 have HC : Hid (256 * (s : Int) = (C : Int)) := by unfold Hid; omega
 have HL : Hid (256 * (s : Int) + (54 + 3 * (s : Int)) = (L : Int)) := by unfold Hid; omega
 have hL8 : L ≤ 4000 := by omega
 have hM8 : M ≤ 70000 := by omega
 have hC8 : 256 ≤ C ∧ C ≤ 2048 := by omega
 have hS8 : 57 ≤ S ∧ S ≤ 78 := by omega
 have hR1 : RdAt ((w.alloc (.cells #[.int .i64 (b : Int), .int .i64 (p : Int), .int .i64 (s : Int)] 30)).alloc (.cells #[.int .i64 0, .int .i64 0, .slice none 0 0] 135)) B q rest := (hR.below (below_alloc w _)).below (below_alloc _ _)
 have hbx : ((w.alloc (.cells #[.int .i64 (b : Int), .int .i64 (p : Int), .int .i64 (s : Int)] 30)).alloc (.cells #[.int .i64 0, .int .i64 0, .slice none 0 0] 135)).heap[w.heap.size]? = some (.cells #[.int .i64 (b : Int), .int .i64 (p : Int), .int .i64 (s : Int)] 30 (0, 0)) := by
  rw [Below.heap_alloc _ _ _ (by simp)]; exact heap_alloc_new _ _
 have hzp : ((w.alloc (.cells #[.int .i64 (b : Int), .int .i64 (p : Int), .int .i64 (s : Int)] 30)).alloc (.cells #[.int .i64 0, .int .i64 0, .slice none 0 0] 135)).heap[w.heap.size + 1]? = some (.cells #[.int .i64 0, .int .i64 0, .slice none 0 0] 135 (0, 0)) := by
  have h9 := heap_alloc_new (w.alloc (.cells #[.int .i64 (b : Int), .int .i64 (p : Int), .int .i64 (s : Int)] 30)) (.cells #[.int .i64 0, .int .i64 0, .slice none 0 0] 135); rw [World.size_alloc] at h9; exact h9
 have hw1 : w.grownBy ((w.alloc (.cells #[.int .i64 (b : Int), .int .i64 (p : Int), .int .i64 (s : Int)] 30)).alloc (.cells #[.int .i64 0, .int .i64 0, .slice none 0 0] 135)) (some q) := grownBy_trans (World.grownBy_alloc w _ _) (World.grownBy_alloc _ _ _)
 have HR1 : Hid (RdAt ((w.alloc (.cells #[.int .i64 (b : Int), .int .i64 (p : Int), .int .i64 (s : Int)] 30)).alloc (.cells #[.int .i64 0, .int .i64 0, .slice none 0 0] 135)) B q rest) := hR1
 have HBX : Hid (((w.alloc (.cells #[.int .i64 (b : Int), .int .i64 (p : Int), .int .i64 (s : Int)] 30)).alloc (.cells #[.int .i64 0, .int .i64 0, .slice none 0 0] 135)).heap[w.heap.size]? = some (.cells #[.int .i64 (b : Int), .int .i64 (p : Int), .int .i64 (s : Int)] 30 (0, 0))) := hbx
 have HZP : Hid (((w.alloc (.cells #[.int .i64 (b : Int), .int .i64 (p : Int), .int .i64 (s : Int)] 30)).alloc (.cells #[.int .i64 0, .int .i64 0, .slice none 0 0] 135)).heap[w.heap.size + 1]? = some (.cells #[.int .i64 0, .int .i64 0, .slice none 0 0] 135 (0, 0))) := hzp
 have HW1 : Hid (w.grownBy ((w.alloc (.cells #[.int .i64 (b : Int), .int .i64 (p : Int), .int .i64 (s : Int)] 30)).alloc (.cells #[.int .i64 0, .int .i64 0, .slice none 0 0] 135)) (some q)) := hw1
 clear hR hR1 hbx hzp hw1 hC hS hL hM
 go_enter Tryd.func87, Tryd.ntmps87
 go_wp2_with (first
  | (go_at_call 35; refine (dataBytes_any (b : Int) (p : Int) (s : Int) _ hs.1 hs.2).mono ?_; rintro e u1 ⟨rfl, b1⟩; rw [HC.out]
     have HBX1 : Hid (u1.heap[w.heap.size]? = some (.cells #[.int .i64 (b : Int), .int .i64 (p : Int), .int .i64 (s : Int)] 30 (0, 0))) := (b1.block _ (Array.getElem?_eq_some_iff.1 HBX.out).1).trans HBX.out
     have HZP1 : Hid (u1.heap[w.heap.size + 1]? = some (.cells #[.int .i64 0, .int .i64 0, .slice none 0 0] 135 (0, 0))) := (b1.block _ (Array.getElem?_eq_some_iff.1 HZP.out).1).trans HZP.out
     have HR2 : Hid (RdAt u1 B q rest) := HR1.out.below b1
     have HW2 : Hid (w.grownBy u1 (some q)) := grownBy_trans HW1.out (grown_of b1 _)
     obtain ⟨a0, a1, a2, a3, a4, a5⟩ := blk3_cells HBX1.out
     obtain ⟨z0, z1, z2, z3, z4, z5⟩ := blk3_cells HZP1.out
     clear b1))
 have gF := grown3 u1 (w.heap.size + 1) (.int .i64 0) (.int .i64 0) (.slice none 0 0)
 exact bodyPost_ret (v := .tuple #[.agg #[.int .i64 0, .int .i64 0, .slice none 0 0], .int .i64 47]) (by obtain ⟨y0, y1, y2, _⟩ := blk3_cells (blk3_set HZP1.out (.int .i64 0) (.int .i64 0) (.slice none 0 0)); simp [results, Tryd.results87, go_sem, y0, y1, y2]) rfl ⟨rfl, grown_past HW2.out gF (by omega)⟩
set_option maxHeartbeats 2000000 in
set_option maxRecDepth 100000 in
theorem told_short (B q b p s n C S : Nat) (hC : C = 256 * s) (hS : S = 54 + 3 * s) (rest : List Int) (w : World) (hR : RdAt w B q rest) (hl : rest.length ≤ 200000000000000) (hf : Fits (b : Int) (p : Int) (s : Int) = true) (hn : n ≤ 65535) (hb : n ≤ C) (hsh : rest.length < n + S) :
  Calls Tryd.prog 87 #[.pointer (some ⟨q, 0, none⟩), .agg #[.int .i64 (b : Int), .int .i64 (p : Int), .int .i64 (s : Int)], .int .i64 (n : Int)] w fun e w' => e = .returned (.tuple #[.agg #[.int .i64 0, .int .i64 0, .slice none 0 0], .int .i64 10]) ∧ w.grownBy w' (some q) := by
 have hqlt := hR.lt
 have hs := fits_s hf
 obtain ⟨L, hL⟩ : ∃ L : Nat, L = C + S := ⟨_, rfl⟩
 obtain ⟨M, hM⟩ : ∃ M : Nat, M = n + S := ⟨_, rfl⟩
 have hLM : (n : Int) + (L : Int) - (C : Int) = (M : Int) := by omega
 have HM : Hid (n + S = M) := hM.symm
 have HC : Hid (256 * (s : Int) = (C : Int)) := by unfold Hid; omega
 have HL : Hid (256 * (s : Int) + (54 + 3 * (s : Int)) = (L : Int)) := by unfold Hid; omega
 have hL8 : L ≤ 4000 := by omega
 have hM8 : M ≤ 70000 := by omega
 have hC8 : 256 ≤ C ∧ C ≤ 2048 := by omega
 have hS8 : 57 ≤ S ∧ S ≤ 78 := by omega
 have hR1 : RdAt ((w.alloc (.cells #[.int .i64 (b : Int), .int .i64 (p : Int), .int .i64 (s : Int)] 30)).alloc (.cells #[.int .i64 0, .int .i64 0, .slice none 0 0] 135)) B q rest := (hR.below (below_alloc w _)).below (below_alloc _ _)
 have hbx : ((w.alloc (.cells #[.int .i64 (b : Int), .int .i64 (p : Int), .int .i64 (s : Int)] 30)).alloc (.cells #[.int .i64 0, .int .i64 0, .slice none 0 0] 135)).heap[w.heap.size]? = some (.cells #[.int .i64 (b : Int), .int .i64 (p : Int), .int .i64 (s : Int)] 30 (0, 0)) := by
  rw [Below.heap_alloc _ _ _ (by simp)]; exact heap_alloc_new _ _
 have hzp : ((w.alloc (.cells #[.int .i64 (b : Int), .int .i64 (p : Int), .int .i64 (s : Int)] 30)).alloc (.cells #[.int .i64 0, .int .i64 0, .slice none 0 0] 135)).heap[w.heap.size + 1]? = some (.cells #[.int .i64 0, .int .i64 0, .slice none 0 0] 135 (0, 0)) := by
  have h9 := heap_alloc_new (w.alloc (.cells #[.int .i64 (b : Int), .int .i64 (p : Int), .int .i64 (s : Int)] 30)) (.cells #[.int .i64 0, .int .i64 0, .slice none 0 0] 135); rw [World.size_alloc] at h9; exact h9
 have hw1 : w.grownBy ((w.alloc (.cells #[.int .i64 (b : Int), .int .i64 (p : Int), .int .i64 (s : Int)] 30)).alloc (.cells #[.int .i64 0, .int .i64 0, .slice none 0 0] 135)) (some q) := grownBy_trans (World.grownBy_alloc w _ _) (World.grownBy_alloc _ _ _)
 have HR1 : Hid (RdAt ((w.alloc (.cells #[.int .i64 (b : Int), .int .i64 (p : Int), .int .i64 (s : Int)] 30)).alloc (.cells #[.int .i64 0, .int .i64 0, .slice none 0 0] 135)) B q rest) := hR1
 have HBX : Hid (((w.alloc (.cells #[.int .i64 (b : Int), .int .i64 (p : Int), .int .i64 (s : Int)] 30)).alloc (.cells #[.int .i64 0, .int .i64 0, .slice none 0 0] 135)).heap[w.heap.size]? = some (.cells #[.int .i64 (b : Int), .int .i64 (p : Int), .int .i64 (s : Int)] 30 (0, 0))) := hbx
 have HZP : Hid (((w.alloc (.cells #[.int .i64 (b : Int), .int .i64 (p : Int), .int .i64 (s : Int)] 30)).alloc (.cells #[.int .i64 0, .int .i64 0, .slice none 0 0] 135)).heap[w.heap.size + 1]? = some (.cells #[.int .i64 0, .int .i64 0, .slice none 0 0] 135 (0, 0))) := hzp
 have HW1 : Hid (w.grownBy ((w.alloc (.cells #[.int .i64 (b : Int), .int .i64 (p : Int), .int .i64 (s : Int)] 30)).alloc (.cells #[.int .i64 0, .int .i64 0, .slice none 0 0] 135)) (some q)) := hw1
 rw [← hM] at hsh
 have hnM : n ≤ M := by omega
 clear hR hR1 hbx hzp hw1 hC hS hL hM
 go_enter Tryd.func87, Tryd.ntmps87
 go_wp2_with (first
  | (go_at_call 35; refine (dataBytes_any (b : Int) (p : Int) (s : Int) _ hs.1 hs.2).mono ?_; rintro e u1 ⟨rfl, b1⟩; rw [HC.out]
     have HBX1 : Hid (u1.heap[w.heap.size]? = some (.cells #[.int .i64 (b : Int), .int .i64 (p : Int), .int .i64 (s : Int)] 30 (0, 0))) := (b1.block _ (Array.getElem?_eq_some_iff.1 HBX.out).1).trans HBX.out
     have HZP1 : Hid (u1.heap[w.heap.size + 1]? = some (.cells #[.int .i64 0, .int .i64 0, .slice none 0 0] 135 (0, 0))) := (b1.block _ (Array.getElem?_eq_some_iff.1 HZP.out).1).trans HZP.out
     have HR2 : Hid (RdAt u1 B q rest) := HR1.out.below b1
     have HW2 : Hid (w.grownBy u1 (some q)) := grownBy_trans HW1.out (grown_of b1 _)
     obtain ⟨a0, a1, a2, a3, a4, a5⟩ := blk3_cells HBX1.out
     obtain ⟨z0, z1, z2, z3, z4, z5⟩ := blk3_cells HZP1.out
     clear b1)
  | (go_at_call 46; refine (pageBytes_any (b : Int) (p : Int) (s : Int) _ hf).mono ?_; rintro e u2 ⟨rfl, b2⟩; rw [HL.out]
     have HZP2 : Hid (u2.heap[w.heap.size + 1]? = some (.cells #[.int .i64 0, .int .i64 0, .slice none 0 0] 135 (0, 0))) := (b2.block _ (Array.getElem?_eq_some_iff.1 HZP1.out).1).trans HZP1.out
     have HR3 : Hid (RdAt u2 B q rest) := HR2.out.below b2
     have HW3 : Hid (w.grownBy u2 (some q)) := grownBy_trans HW2.out (grown_of b2 _)
     clear a0 a1 a2 a3 a4 a5 z0 z1 z2 z3 z4 z5 b2
     obtain ⟨z0, z1, z2, z3, z4, z5⟩ := blk3_cells HZP2.out)
  | (go_at_call 66; refine (take_short B q M rest _ HR3.out hl hsh (by omega)).mono ?_; rintro e u3 ⟨rfl, hu3⟩; rw [hu3]))
 have gF := grown3 u2 (w.heap.size + 1) (.int .i64 0) (.int .i64 0) (.slice none 0 0)
 exact bodyPost_ret (v := .tuple #[.agg #[.int .i64 0, .int .i64 0, .slice none 0 0], .int .i64 10]) (by obtain ⟨y0, y1, y2, _⟩ := blk3_cells (blk3_set HZP2.out (.int .i64 0) (.int .i64 0) (.slice none 0 0)); simp [results, Tryd.results87, go_sem, y0, y1, y2]) rfl ⟨rfl, grown_past HW3.out gF (by omega)⟩
set_option maxHeartbeats 2000000 in
set_option maxRecDepth 100000 in
theorem told_bad (B q b p s n C S : Nat) (hC : C = 256 * s) (hS : S = 54 + 3 * s) (rest : List Int) (w : World) (hR : RdAt w B q rest) (hl : rest.length ≤ 200000000000000) (hf : Fits (b : Int) (p : Int) (s : Int) = true) (hn : n ≤ 65535) (hb : n ≤ C) (hsh : n + S ≤ rest.length) (hwr : wrN (rest.take n) < n) :
  Calls Tryd.prog 87 #[.pointer (some ⟨q, 0, none⟩), .agg #[.int .i64 (b : Int), .int .i64 (p : Int), .int .i64 (s : Int)], .int .i64 (n : Int)] w fun e w' => e = .returned (.tuple #[.agg #[.int .i64 0, .int .i64 0, .slice none 0 0], .int .i64 47]) ∧ w.grownBy w' (some q) := by
 have hqlt := hR.lt
 have hs := fits_s hf
 obtain ⟨L, hL⟩ : ∃ L : Nat, L = C + S := ⟨_, rfl⟩
 obtain ⟨M, hM⟩ : ∃ M : Nat, M = n + S := ⟨_, rfl⟩
 have hLM : (n : Int) + (L : Int) - (C : Int) = (M : Int) := by omega
 have HM : Hid (n + S = M) := hM.symm
 have HC : Hid (256 * (s : Int) = (C : Int)) := by unfold Hid; omega
 have HL : Hid (256 * (s : Int) + (54 + 3 * (s : Int)) = (L : Int)) := by unfold Hid; omega
 have hL8 : L ≤ 4000 := by omega
 have hM8 : M ≤ 70000 := by omega
 have hC8 : 256 ≤ C ∧ C ≤ 2048 := by omega
 have hS8 : 57 ≤ S ∧ S ≤ 78 := by omega
 have hR1 : RdAt ((w.alloc (.cells #[.int .i64 (b : Int), .int .i64 (p : Int), .int .i64 (s : Int)] 30)).alloc (.cells #[.int .i64 0, .int .i64 0, .slice none 0 0] 135)) B q rest := (hR.below (below_alloc w _)).below (below_alloc _ _)
 have hbx : ((w.alloc (.cells #[.int .i64 (b : Int), .int .i64 (p : Int), .int .i64 (s : Int)] 30)).alloc (.cells #[.int .i64 0, .int .i64 0, .slice none 0 0] 135)).heap[w.heap.size]? = some (.cells #[.int .i64 (b : Int), .int .i64 (p : Int), .int .i64 (s : Int)] 30 (0, 0)) := by
  rw [Below.heap_alloc _ _ _ (by simp)]; exact heap_alloc_new _ _
 have hzp : ((w.alloc (.cells #[.int .i64 (b : Int), .int .i64 (p : Int), .int .i64 (s : Int)] 30)).alloc (.cells #[.int .i64 0, .int .i64 0, .slice none 0 0] 135)).heap[w.heap.size + 1]? = some (.cells #[.int .i64 0, .int .i64 0, .slice none 0 0] 135 (0, 0)) := by
  have h9 := heap_alloc_new (w.alloc (.cells #[.int .i64 (b : Int), .int .i64 (p : Int), .int .i64 (s : Int)] 30)) (.cells #[.int .i64 0, .int .i64 0, .slice none 0 0] 135); rw [World.size_alloc] at h9; exact h9
 have hw1 : w.grownBy ((w.alloc (.cells #[.int .i64 (b : Int), .int .i64 (p : Int), .int .i64 (s : Int)] 30)).alloc (.cells #[.int .i64 0, .int .i64 0, .slice none 0 0] 135)) (some q) := grownBy_trans (World.grownBy_alloc w _ _) (World.grownBy_alloc _ _ _)
 have HR1 : Hid (RdAt ((w.alloc (.cells #[.int .i64 (b : Int), .int .i64 (p : Int), .int .i64 (s : Int)] 30)).alloc (.cells #[.int .i64 0, .int .i64 0, .slice none 0 0] 135)) B q rest) := hR1
 have HBX : Hid (((w.alloc (.cells #[.int .i64 (b : Int), .int .i64 (p : Int), .int .i64 (s : Int)] 30)).alloc (.cells #[.int .i64 0, .int .i64 0, .slice none 0 0] 135)).heap[w.heap.size]? = some (.cells #[.int .i64 (b : Int), .int .i64 (p : Int), .int .i64 (s : Int)] 30 (0, 0))) := hbx
 have HZP : Hid (((w.alloc (.cells #[.int .i64 (b : Int), .int .i64 (p : Int), .int .i64 (s : Int)] 30)).alloc (.cells #[.int .i64 0, .int .i64 0, .slice none 0 0] 135)).heap[w.heap.size + 1]? = some (.cells #[.int .i64 0, .int .i64 0, .slice none 0 0] 135 (0, 0))) := hzp
 have HW1 : Hid (w.grownBy ((w.alloc (.cells #[.int .i64 (b : Int), .int .i64 (p : Int), .int .i64 (s : Int)] 30)).alloc (.cells #[.int .i64 0, .int .i64 0, .slice none 0 0] 135)) (some q)) := hw1
 rw [← hM] at hsh
 have hnM : n ≤ M := by omega
 clear hR hR1 hbx hzp hw1 hC hS hL hM
 go_enter Tryd.func87, Tryd.ntmps87
 go_wp2_with (first
  | (go_at_call 35; refine (dataBytes_any (b : Int) (p : Int) (s : Int) _ hs.1 hs.2).mono ?_; rintro e u1 ⟨rfl, b1⟩; rw [HC.out]
     have HBX1 : Hid (u1.heap[w.heap.size]? = some (.cells #[.int .i64 (b : Int), .int .i64 (p : Int), .int .i64 (s : Int)] 30 (0, 0))) := (b1.block _ (Array.getElem?_eq_some_iff.1 HBX.out).1).trans HBX.out
     have HZP1 : Hid (u1.heap[w.heap.size + 1]? = some (.cells #[.int .i64 0, .int .i64 0, .slice none 0 0] 135 (0, 0))) := (b1.block _ (Array.getElem?_eq_some_iff.1 HZP.out).1).trans HZP.out
     have HR2 : Hid (RdAt u1 B q rest) := HR1.out.below b1
     have HW2 : Hid (w.grownBy u1 (some q)) := grownBy_trans HW1.out (grown_of b1 _)
     obtain ⟨a0, a1, a2, a3, a4, a5⟩ := blk3_cells HBX1.out
     obtain ⟨z0, z1, z2, z3, z4, z5⟩ := blk3_cells HZP1.out
     clear b1)
  | (go_at_call 46; refine (pageBytes_any (b : Int) (p : Int) (s : Int) _ hf).mono ?_; rintro e u2 ⟨rfl, b2⟩; rw [HL.out]
     have HZP2 : Hid (u2.heap[w.heap.size + 1]? = some (.cells #[.int .i64 0, .int .i64 0, .slice none 0 0] 135 (0, 0))) := (b2.block _ (Array.getElem?_eq_some_iff.1 HZP1.out).1).trans HZP1.out
     have HR3 : Hid (RdAt u2 B q rest) := HR2.out.below b2
     have HW3 : Hid (w.grownBy u2 (some q)) := grownBy_trans HW2.out (grown_of b2 _)
     clear a0 a1 a2 a3 a4 a5 z0 z1 z2 z3 z4 z5 b2
     obtain ⟨z0, z1, z2, z3, z4, z5⟩ := blk3_cells HZP2.out)
  | (go_at_call 66; refine (take_ok B q M rest _ HR3.out hl hsh).mono ?_; rintro e u3 ⟨bb, off, c, rfl, r3, hc1, hc2, hbB, rd3, g3⟩
     have HZP3 : Hid (u3.heap[w.heap.size + 1]? = some (.cells #[.int .i64 0, .int .i64 0, .slice none 0 0] 135 (0, 0))) := (g3.block _ (Array.getElem?_eq_some_iff.1 HZP2.out).1 (fun e => by have e' := Option.some.inj e; omega)).trans HZP2.out
     have HR4 : Hid (RdAt u3 B q (rest.drop M)) := rd3
     have HW4 : Hid (w.grownBy u3 (some q)) := grownBy_trans HW3.out g3
     have HRD : Hid (Reads u3 (some ⟨bb, off, none⟩) M (rest.take M)) := r3
     have d1 : (n : Int) ≤ (c : Int) := by omega
     have d2 : n ≤ c := by omega
     clear z0 z1 z2 z3 z4 z5 g3 rd3 r3
     obtain ⟨z0, z1, z2, z3, z4, z5⟩ := blk3_cells HZP3.out)
  | (go_at_call 83; refine (written_any _ _ _ (rest.take n) _ (by omega) (by have h9 := HRD.out.front n (by omega); rw [List.take_take, Nat.min_eq_left (by omega)] at h9; exact h9)).mono ?_; rintro e u4 ⟨rfl, hu4⟩; rw [hu4]))
 have gF := grown3 u3 (w.heap.size + 1) (.int .i64 0) (.int .i64 0) (.slice none 0 0)
 exact bodyPost_ret (v := .tuple #[.agg #[.int .i64 0, .int .i64 0, .slice none 0 0], .int .i64 47]) (by obtain ⟨y0, y1, y2, _⟩ := blk3_cells (blk3_set HZP3.out (.int .i64 0) (.int .i64 0) (.slice none 0 0)); simp [results, Tryd.results87, go_sem, y0, y1, y2]) rfl ⟨rfl, grown_past HW4.out gF (by omega)⟩
end Go.Proofs.YtnmnhgagnfodhaaDoor
namespace Go.Proofs.YtnmnhgagnfodhaaDoor
open Go.RowKit
set_option linter.unusedVariables false
theorem join3 (q : Nat) (a0 a1 a2 : Option Addr) (n0 n1 n2 c0 c1 c2 : Nat) (X0 X1 X2 : List Int) (w : World) (h0 : w.cell? ⟨q, 0, none⟩ = some (.slice a0 n0 c0)) (h1 : w.cell? ⟨q, 1, none⟩ = some (.slice a1 n1 c1)) (h2 : w.cell? ⟨q, 2, none⟩ = some (.slice a2 n2 c2))
  (r0 : Reads w a0 n0 X0) (r1 : Reads w a1 n1 X1) (r2 : Reads w a2 n2 X2) (hT : n0 + n1 + n2 ≤ 100000000) (hp : 0 < n0 + n1 + n2) :
  Calls Tryd.prog 42 #[.slice (some ⟨q, 0, none⟩) 3 3] w fun e w' => ∃ g cc, e = .returned (.slice (some ⟨g, 0, none⟩) (n0 + n1 + n2) cc) ∧ Own w' w.heap.size g (n0 + n1 + n2) cc (X0 ++ X1 ++ X2) ∧ Below w.heap.size w w' := by
 have hq : q < w.heap.size := block_lt_of_cell h0
 have h := join_parts (some ⟨q, 0, none⟩) 3 3 (fun i => match i with | 0 => a0 | 1 => a1 | _ => a2) (fun i => match i with | 0 => n0 | 1 => n1 | _ => n2) (fun i => match i with | 0 => c0 | 1 => c1 | _ => c2) (fun i => match i with | 0 => X0 | 1 => X1 | _ => X2) w (by omega) (by simp only [sumF]; omega)
  ⟨fun i hi => by
   match i, hi with
   | 0, _ => exact ⟨q, rfl, hq, h0⟩
   | 1, _ => exact ⟨q, rfl, hq, h1⟩
   | 2, _ => exact ⟨q, rfl, hq, h2⟩, fun i hi => by
   match i, hi with
   | 0, _ => exact r0
   | 1, _ => exact r1
   | 2, _ => exact r2⟩
 refine h.mono ?_
 rintro e u ⟨v, rfl, hv, hb⟩
 have e1 : sumF (fun i => match i with | 0 => n0 | 1 => n1 | _ => n2) 3 = n0 + n1 + n2 := by simp only [sumF]; omega
 have e2 : catF (fun i => match i with | 0 => X0 | 1 => X1 | _ => X2) 3 = X0 ++ X1 ++ X2 := by simp only [catF, List.nil_append]
 rw [e1, e2] at hv
 obtain ⟨g, cc, rfl, _⟩ := own_shape hv hp
 exact ⟨g, cc, rfl, hv, hb⟩
def pgT (C S n : Nat) (r : List Int) : List Int := r.take n ++ List.replicate (C - n) 255 ++ (r.drop n).take S
set_option maxHeartbeats 4000000 in
set_option maxRecDepth 100000 in
theorem told_ok (B q b p s n C S : Nat) (hC : C = 256 * s) (hS : S = 54 + 3 * s) (rest : List Int) (w : World) (hR : RdAt w B q rest) (hl : rest.length ≤ 200000000000000) (hf : Fits (b : Int) (p : Int) (s : Int) = true) (hn : n ≤ 65535) (hb : n ≤ C) (hsh : n + S ≤ rest.length) (hwr : ¬ wrN (rest.take n) < n) :
  Calls Tryd.prog 87 #[.pointer (some ⟨q, 0, none⟩), .agg #[.int .i64 (b : Int), .int .i64 (p : Int), .int .i64 (s : Int)], .int .i64 (n : Int)] w fun e w' => ∃ g cc, e = .returned (.tuple #[.agg #[.int .i64 1, .int .i64 1, .slice (some ⟨g, 0, none⟩) (C + S) cc], .int .i64 0]) ∧ Own w' w.heap.size g (C + S) cc (pgT C S n rest) ∧ RdAt w' B q (rest.drop (n + S)) ∧ w.grownBy w' (some q) := by
 have hwe : wrN (rest.take n) = n := by have := wrN_le (rest.take n); simp at this; omega
 have HWE : Hid (wrN (rest.take n) = n) := hwe
 clear hwr hwe
 have hs0 := fits_s hf
 obtain ⟨k, hk⟩ : ∃ k, C - n = k := ⟨_, rfl⟩
 have hk1 : (C : Int) - (n : Int) = (k : Int) := by omega
 have HE : Hid (∀ M, n + S = M → rest.take n ++ List.replicate k 255 ++ (rest.take M).drop n = pgT C S n rest) := fun M hM => by
  unfold pgT; rw [hk, List.drop_take, show M - n = S by omega]
 have hkC : k ≤ C := by omega
 have HKC : Hid (n + k = C) := by unfold Hid; omega
 have hwk : IntKind.i64.wrap (k : Int) = (k : Int) := by rw [IntKind.wrap_i64]; omega
 clear hk
 have hqlt := hR.lt
 have hs := fits_s hf
 obtain ⟨L, hL⟩ : ∃ L : Nat, L = C + S := ⟨_, rfl⟩
 obtain ⟨M, hM⟩ : ∃ M : Nat, M = n + S := ⟨_, rfl⟩
 have hLM : (n : Int) + (L : Int) - (C : Int) = (M : Int) := by omega
 have HM : Hid (n + S = M) := hM.symm
 have HC : Hid (256 * (s : Int) = (C : Int)) := by unfold Hid; omega
 have HL : Hid (256 * (s : Int) + (54 + 3 * (s : Int)) = (L : Int)) := by unfold Hid; omega
 have hL8 : L ≤ 4000 := by omega
 have hM8 : M ≤ 70000 := by omega
 have hC8 : 256 ≤ C ∧ C ≤ 2048 := by omega
 have hS8 : 57 ≤ S ∧ S ≤ 78 := by omega
 have hR1 : RdAt ((w.alloc (.cells #[.int .i64 (b : Int), .int .i64 (p : Int), .int .i64 (s : Int)] 30)).alloc (.cells #[.int .i64 0, .int .i64 0, .slice none 0 0] 135)) B q rest := (hR.below (below_alloc w _)).below (below_alloc _ _)
 have hbx : ((w.alloc (.cells #[.int .i64 (b : Int), .int .i64 (p : Int), .int .i64 (s : Int)] 30)).alloc (.cells #[.int .i64 0, .int .i64 0, .slice none 0 0] 135)).heap[w.heap.size]? = some (.cells #[.int .i64 (b : Int), .int .i64 (p : Int), .int .i64 (s : Int)] 30 (0, 0)) := by
  rw [Below.heap_alloc _ _ _ (by simp)]; exact heap_alloc_new _ _
 have hzp : ((w.alloc (.cells #[.int .i64 (b : Int), .int .i64 (p : Int), .int .i64 (s : Int)] 30)).alloc (.cells #[.int .i64 0, .int .i64 0, .slice none 0 0] 135)).heap[w.heap.size + 1]? = some (.cells #[.int .i64 0, .int .i64 0, .slice none 0 0] 135 (0, 0)) := by
  have h9 := heap_alloc_new (w.alloc (.cells #[.int .i64 (b : Int), .int .i64 (p : Int), .int .i64 (s : Int)] 30)) (.cells #[.int .i64 0, .int .i64 0, .slice none 0 0] 135); rw [World.size_alloc] at h9; exact h9
 have hw1 : w.grownBy ((w.alloc (.cells #[.int .i64 (b : Int), .int .i64 (p : Int), .int .i64 (s : Int)] 30)).alloc (.cells #[.int .i64 0, .int .i64 0, .slice none 0 0] 135)) (some q) := grownBy_trans (World.grownBy_alloc w _ _) (World.grownBy_alloc _ _ _)
 have HR1 : Hid (RdAt ((w.alloc (.cells #[.int .i64 (b : Int), .int .i64 (p : Int), .int .i64 (s : Int)] 30)).alloc (.cells #[.int .i64 0, .int .i64 0, .slice none 0 0] 135)) B q rest) := hR1
 have HBX : Hid (((w.alloc (.cells #[.int .i64 (b : Int), .int .i64 (p : Int), .int .i64 (s : Int)] 30)).alloc (.cells #[.int .i64 0, .int .i64 0, .slice none 0 0] 135)).heap[w.heap.size]? = some (.cells #[.int .i64 (b : Int), .int .i64 (p : Int), .int .i64 (s : Int)] 30 (0, 0))) := hbx
 have HZP : Hid (((w.alloc (.cells #[.int .i64 (b : Int), .int .i64 (p : Int), .int .i64 (s : Int)] 30)).alloc (.cells #[.int .i64 0, .int .i64 0, .slice none 0 0] 135)).heap[w.heap.size + 1]? = some (.cells #[.int .i64 0, .int .i64 0, .slice none 0 0] 135 (0, 0))) := hzp
 have HW1 : Hid (w.grownBy ((w.alloc (.cells #[.int .i64 (b : Int), .int .i64 (p : Int), .int .i64 (s : Int)] 30)).alloc (.cells #[.int .i64 0, .int .i64 0, .slice none 0 0] 135)) (some q)) := hw1
 rw [← hM] at hsh
 have hnM : n ≤ M ∧ n < M := by omega
 have HMn : Hid (n + k + (M - n) = L) := by unfold Hid; have := HKC.out; omega
 have HLS : Hid (L = C + S) := hL
 clear hR hR1 hbx hzp hw1 hC hS hL hM
 go_enter Tryd.func87, Tryd.ntmps87
 go_upto_region 9 with (first
  | (go_at_call 35; refine (dataBytes_any (b : Int) (p : Int) (s : Int) _ hs.1 hs.2).mono ?_; rintro e u1 ⟨rfl, b1⟩; rw [HC.out]
     have HBX1 : Hid (u1.heap[w.heap.size]? = some (.cells #[.int .i64 (b : Int), .int .i64 (p : Int), .int .i64 (s : Int)] 30 (0, 0))) := (b1.block _ (Array.getElem?_eq_some_iff.1 HBX.out).1).trans HBX.out
     have HZP1 : Hid (u1.heap[w.heap.size + 1]? = some (.cells #[.int .i64 0, .int .i64 0, .slice none 0 0] 135 (0, 0))) := (b1.block _ (Array.getElem?_eq_some_iff.1 HZP.out).1).trans HZP.out
     have HR2 : Hid (RdAt u1 B q rest) := HR1.out.below b1
     have HW2 : Hid (w.grownBy u1 (some q)) := grownBy_trans HW1.out (grown_of b1 _)
     obtain ⟨a0, a1, a2, a3, a4, a5⟩ := blk3_cells HBX1.out
     obtain ⟨z0, z1, z2, z3, z4, z5⟩ := blk3_cells HZP1.out
     clear b1)
  | (go_at_call 46; refine (pageBytes_any (b : Int) (p : Int) (s : Int) _ hf).mono ?_; rintro e u2 ⟨rfl, b2⟩; rw [HL.out]
     have HZP2 : Hid (u2.heap[w.heap.size + 1]? = some (.cells #[.int .i64 0, .int .i64 0, .slice none 0 0] 135 (0, 0))) := (b2.block _ (Array.getElem?_eq_some_iff.1 HZP1.out).1).trans HZP1.out
     have HR3 : Hid (RdAt u2 B q rest) := HR2.out.below b2
     have HW3 : Hid (w.grownBy u2 (some q)) := grownBy_trans HW2.out (grown_of b2 _)
     clear a0 a1 a2 a3 a4 a5 z0 z1 z2 z3 z4 z5 b2
     obtain ⟨z0, z1, z2, z3, z4, z5⟩ := blk3_cells HZP2.out)
  | (go_at_call 66; refine (take_ok B q M rest _ HR3.out hl hsh).mono ?_; rintro e u3 ⟨bb, off, c, rfl, r3, hc1, hc2, hbB, rd3, g3⟩
     have HZP3 : Hid (u3.heap[w.heap.size + 1]? = some (.cells #[.int .i64 0, .int .i64 0, .slice none 0 0] 135 (0, 0))) := (g3.block _ (Array.getElem?_eq_some_iff.1 HZP2.out).1 (fun e => by have e' := Option.some.inj e; omega)).trans HZP2.out
     have HR4 : Hid (RdAt u3 B q (rest.drop M)) := rd3
     have HW4 : Hid (w.grownBy u3 (some q)) := grownBy_trans HW3.out g3
     have HRD : Hid (Reads u3 (some ⟨bb, off, none⟩) M (rest.take M)) := r3
     have d1 : (n : Int) ≤ (c : Int) := by omega
     have d2 : n ≤ c := by omega
     clear z0 z1 z2 z3 z4 z5 g3 rd3 r3
     obtain ⟨z0, z1, z2, z3, z4, z5⟩ := blk3_cells HZP3.out)
  | (go_at_call 83; refine (written_any _ _ _ (rest.take n) _ (by omega) (by have h9 := HRD.out.front n (by omega); rw [List.take_take, Nat.min_eq_left (by omega)] at h9; exact h9)).mono ?_; rintro e u4 ⟨rfl, hu4⟩; rw [hu4, HWE.out]))
 have hq : (if c = n then some (⟨bb, off, none⟩ : Addr) else some ⟨bb, off + n, none⟩) = some ⟨bb, off + n, none⟩ := by rw [if_neg (by omega)]
 have d3 : (n : Int) ≤ (M : Int) := by omega
 have d4 : ¬ c = n := by omega
 clear z0 z1 z2 z3 z4 z5
 refine wp_region_held_drew (S := (fun _ : World => True)) (by kernel_rfl) (trivial) (fun hHeld => ?_)
 refine tk 0 ?_
 refine tk 1 ?_
 refine tk 2 ?_
 refine tk 4 ?_
 refine tk 5 ?_
 refine tk 6 ?_
 refine tk 8 ?_
 refine tk 9 ?_
 refine tk 10 ?_
 refine rd 3 (fun K hK => ?_)
 go_simp
 go_wp2_with fail
 have hSnew : True := trivial
 clear hHeld
 refine hK.out _ _ hSnew (fun hHeld => ?_)
 clear hK K hSnew
 try simp only [Act.put, zSt, zS0, zS1]
 refine rd 7 (fun K hK => ?_)
 go_simp
 have hcl : (u3.alloc (.cells #[.int .u8 255] 5)).drew.cell? ⟨u3.heap.size, 0, none⟩ = some (.int .u8 255) := (by have h9 : (u3.alloc (.cells #[.int .u8 255] 5)).cell? ⟨u3.heap.size, 0, none⟩ = some (.int .u8 255) := (by simp); exact h9)
 refine (repeat_any u3.heap.size 0 1 k (u3.alloc (.cells #[.int .u8 255] 5)).drew hcl (by omega)).mono ?_
 rintro e u5 ⟨g5, rfl, r5, hg5, hg5b, ty5, b5⟩
 have HB5 : Hid (Below u3.heap.size u3 u5) := ⟨b5.os, b5.tape, b5.output, Nat.le_trans (by simp) b5.size, fun i hi => (b5.block i (by simp; omega)).trans (Below.heap_alloc u3 _ i hi)⟩
 have HR5 : Hid (Reads u5 (some ⟨g5, 0, none⟩) k (List.replicate k 255)) := r5
 have hs5 : u3.heap.size + 1 ≤ u5.heap.size := by have := b5.size; simpa using this
 clear hcl b5 r5
 have hSnew : True := trivial
 go_wp2_with fail
 clear hHeld
 refine hK.out _ _ hSnew (fun hHeld => ?_)
 clear hK K hSnew
 try simp only [Act.put, zSt, zS0, zS1]
 refine rd 11 (fun K hK => ?_)
 go_simp
 go_wp2_with fail
 have hSnew : True := trivial
 clear hHeld
 refine hK.out _ _ hSnew (fun hHeld => ?_)
 clear hK K hSnew
 try simp only [Act.put, zSt, zS0, zS1]
 refine rd 12 (fun K hK => ?_)
 go_simp
 have ra : Reads (u5.alloc (.cells #[.slice (some ⟨bb, off, none⟩) n c, .slice (some ⟨g5, 0, none⟩) k k, .slice (some ⟨bb, off + n, none⟩) (M - n) (c - n)] 32)) (some ⟨bb, off, none⟩) n (rest.take n) := by
  have h9 := (((HRD.out.front n (by omega)).below HB5.out).below (below_alloc u5 (.cells #[.slice (some ⟨bb, off, none⟩) n c, .slice (some ⟨g5, 0, none⟩) k k, .slice (some ⟨bb, off + n, none⟩) (M - n) (c - n)] 32)))
  rw [List.take_take, Nat.min_eq_left (by omega)] at h9; exact h9
 have rb : Reads (u5.alloc (.cells #[.slice (some ⟨bb, off, none⟩) n c, .slice (some ⟨g5, 0, none⟩) k k, .slice (some ⟨bb, off + n, none⟩) (M - n) (c - n)] 32)) (some ⟨g5, 0, none⟩) k (List.replicate k 255) := HR5.out.below (below_alloc _ _)
 have rc : Reads (u5.alloc (.cells #[.slice (some ⟨bb, off, none⟩) n c, .slice (some ⟨g5, 0, none⟩) k k, .slice (some ⟨bb, off + n, none⟩) (M - n) (c - n)] 32)) (some ⟨bb, off + n, none⟩) (M - n) ((rest.take M).drop n) := ((HRD.out.drop n (by omega)).below HB5.out).below (below_alloc _ _)
 have x0 : (u5.alloc (.cells #[.slice (some ⟨bb, off, none⟩) n c, .slice (some ⟨g5, 0, none⟩) k k, .slice (some ⟨bb, off + n, none⟩) (M - n) (c - n)] 32)).cell? ⟨u5.heap.size, 0, none⟩ = some (.slice (some ⟨bb, off, none⟩) n c) := by simp
 have x1 : (u5.alloc (.cells #[.slice (some ⟨bb, off, none⟩) n c, .slice (some ⟨g5, 0, none⟩) k k, .slice (some ⟨bb, off + n, none⟩) (M - n) (c - n)] 32)).cell? ⟨u5.heap.size, 1, none⟩ = some (.slice (some ⟨g5, 0, none⟩) k k) := by simp
 have x2 : (u5.alloc (.cells #[.slice (some ⟨bb, off, none⟩) n c, .slice (some ⟨g5, 0, none⟩) k k, .slice (some ⟨bb, off + n, none⟩) (M - n) (c - n)] 32)).cell? ⟨u5.heap.size, 2, none⟩ = some (.slice (some ⟨bb, off + n, none⟩) (M - n) (c - n)) := by simp
 refine (join3 u5.heap.size _ _ _ _ _ _ _ _ _ _ _ _ _ x0 x1 x2 ra rb rc (by have := HMn.out; omega) (by have := HMn.out; omega)).mono ?_
 rintro e u7 ⟨g7, c7, rfl, own7, b7⟩
 have HB7 : Hid (Below u3.heap.size u3 u7) := ⟨b7.os.trans HB5.out.os, b7.tape.trans HB5.out.tape, b7.output.trans HB5.out.output, by have := b7.size; simp at this; omega, fun i hi => by rw [b7.block i (by simp; omega), Below.heap_alloc _ _ _ (by omega)]; exact HB5.out.block i hi⟩
 have HO7 : Hid (Own u7 (u5.alloc (.cells #[.slice (some ⟨bb, off, none⟩) n c, .slice (some ⟨g5, 0, none⟩) k k, .slice (some ⟨bb, off + n, none⟩) (M - n) (c - n)] 32)).heap.size g7 (n + k + (M - n)) c7 (rest.take n ++ List.replicate k 255 ++ (rest.take M).drop n)) := own7
 clear ra rb rc b7 own7 x0 x1 x2
 obtain ⟨z0, z1, z2, z3, z4, z5⟩ := blk3_cells ((HB7.out.block _ (Array.getElem?_eq_some_iff.1 HZP3.out).1).trans HZP3.out)
 have hSnew : True := trivial
 go_wp2_with fail
 clear hHeld
 refine hK.out _ _ hSnew (fun hHeld => ?_)
 clear hK K hSnew
 try simp only [Act.put, zSt, zS0, zS1]
 refine tk 13 ?_
 refine wpAnyH_done (by kernel_rfl) ?_ _
 go_wp2
 have hz7 := (HB7.out.block _ (Array.getElem?_eq_some_iff.1 HZP3.out).1).trans HZP3.out
 have gF := grown3 u7 (w.heap.size + 1) (.int .i64 1) (.int .i64 1) (.slice (some ⟨g7, 0, none⟩) (n + k + (M - n)) c7)
 have hs4 : w.heap.size + 1 < u3.heap.size := (Array.getElem?_eq_some_iff.1 HZP3.out).1
 refine bodyPost_ret (v := .tuple #[.agg #[.int .i64 1, .int .i64 1, .slice (some ⟨g7, 0, none⟩) (n + k + (M - n)) c7], .int .i64 0]) (by obtain ⟨y0, y1, y2, _⟩ := blk3_cells (blk3_set hz7 (.int .i64 1) (.int .i64 1) (.slice (some ⟨g7, 0, none⟩) (n + k + (M - n)) c7)); simp [results, Tryd.results87, go_sem, y0, y1, y2]) rfl ?_
 have ho := HO7.out
 have hgl := ho.lt
 simp only [World.size_alloc] at hgl
 rw [HM.out, ← HLS.out, ← HE.out M HM.out, ← HMn.out]
 refine ⟨g7, c7, rfl, ((ho.base (by simp; omega)).apart gF (by omega)), ?_, grown_past (grownBy_trans HW4.out (grown_of HB7.out _)) gF (by omega)⟩
 exact (HR4.out.below HB7.out).other gF (fun e => by have e' := Option.some.inj e; omega) (fun k e => by have e' := Option.some.inj e; omega)
end Go.Proofs.YtnmnhgagnfodhaaDoor
