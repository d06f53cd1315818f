/-
  SEAT YteefekhlbillfaaDoor: a page told in full is read.
-/
import Derived.Test.YteefekhlbillfaaDoorRj
namespace Go.Proofs.YteefekhlbillfaaDoor
open Go.RowKit
set_option linter.unusedVariables false

theorem repeat_any (bk off c n : Nat) (w : World) (hw : w.cell? ⟨bk, off, none⟩ = some (.int .u8 255)) (hn : n ≤ 4096) : Calls Tryd.prog 57 #[.slice (some ⟨bk, off, none⟩) 1 c, .int .i64 (n : Int)] w fun e w' => OnesAt w w' e n := by
  rcases Nat.eq_zero_or_pos n with h | h
  · subst h; exact repeat_zero _ c w
  · exact repeat_some bk off c n w hw h hn

theorem grown3 (u : World) (i : Nat) (v0 v1 v2 : Value) : u.grownBy (((u.setCell ⟨i, 0, none⟩ v0).setCell ⟨i, 1, none⟩ v1).setCell ⟨i, 2, none⟩ v2) (some i) :=
  grownBy_trans (grownBy_trans (set_grown u i 0 v0) (set_grown _ i 1 v1)) (set_grown _ i 2 v2)
theorem blk3_set {u : World} {i : Nat} {a0 a1 a2 : Value} {t : TypeId} (h : u.heap[i]? = some (.cells #[a0, a1, a2] t (0, 0))) (v0 v1 v2 : Value) :
    (((u.setCell ⟨i, 0, none⟩ v0).setCell ⟨i, 1, none⟩ v1).setCell ⟨i, 2, none⟩ v2).heap[i]? = some (.cells #[v0, v1, v2] t (0, 0)) := blk3_2 (blk3_1 (blk3_0 h v0) v1) v2

set_option maxHeartbeats 2000000 in
set_option maxRecDepth 100000 in
theorem told_big (B q b p s n C S : Nat) (hC : C = 256 * s) (hS : S = 54 + 3 * s) (rest : List Int) (w : World) (hR : RdAt w B q rest) (hl : rest.length ≤ 200000000000000) (hf : Fits (b : Int) (p : Int) (s : Int) = true) (hn : n ≤ 65535) (hb : C < n) :
    Calls Tryd.prog 73 #[.pointer (some ⟨q, 0, none⟩), .agg #[.int .i64 (b : Int), .int .i64 (p : Int), .int .i64 (s : Int)], .int .i64 (n : Int)] w fun e w' => e = .returned (.tuple #[.agg #[.int .i64 0, .int .i64 0, .slice none 0 0], .int .i64 47]) ∧ w.grownBy w' (some q) := by
  have hqlt := hR.lt
  have hs := fits_s hf
  obtain ⟨L, hL⟩ : ∃ L : Nat, L = C + S := ⟨_, rfl⟩
  obtain ⟨M, hM⟩ : ∃ M : Nat, M = n + S := ⟨_, rfl⟩
  have hLM : (n : Int) + (L : Int) - (C : Int) = (M : Int) := by omega
  have HM : Hid (n + S = M) := hM.symm
  have HC : Hid (256 * (s : Int) = (C : Int)) := by unfold Hid; omega
  have HL : Hid (256 * (s : Int) + (54 + 3 * (s : Int)) = (L : Int)) := by unfold Hid; omega
  have hL8 : L ≤ 4000 := by omega
  have hM8 : M ≤ 70000 := by omega
  have hC8 : 256 ≤ C ∧ C ≤ 2048 := by omega
  have hS8 : 57 ≤ S ∧ S ≤ 78 := by omega
  have hR1 : RdAt ((w.alloc (.cells #[.int .i64 (b : Int), .int .i64 (p : Int), .int .i64 (s : Int)] 27)).alloc (.cells #[.int .i64 0, .int .i64 0, .slice none 0 0] 102)) B q rest := (hR.below (below_alloc w _)).below (below_alloc _ _)
  have hbx : ((w.alloc (.cells #[.int .i64 (b : Int), .int .i64 (p : Int), .int .i64 (s : Int)] 27)).alloc (.cells #[.int .i64 0, .int .i64 0, .slice none 0 0] 102)).heap[w.heap.size]? = some (.cells #[.int .i64 (b : Int), .int .i64 (p : Int), .int .i64 (s : Int)] 27 (0, 0)) := by
    rw [Below.heap_alloc _ _ _ (by simp)]; exact heap_alloc_new _ _
  have hzp : ((w.alloc (.cells #[.int .i64 (b : Int), .int .i64 (p : Int), .int .i64 (s : Int)] 27)).alloc (.cells #[.int .i64 0, .int .i64 0, .slice none 0 0] 102)).heap[w.heap.size + 1]? = some (.cells #[.int .i64 0, .int .i64 0, .slice none 0 0] 102 (0, 0)) := by
    have h9 := heap_alloc_new (w.alloc (.cells #[.int .i64 (b : Int), .int .i64 (p : Int), .int .i64 (s : Int)] 27)) (.cells #[.int .i64 0, .int .i64 0, .slice none 0 0] 102); rw [World.size_alloc] at h9; exact h9
  have hw1 : w.grownBy ((w.alloc (.cells #[.int .i64 (b : Int), .int .i64 (p : Int), .int .i64 (s : Int)] 27)).alloc (.cells #[.int .i64 0, .int .i64 0, .slice none 0 0] 102)) (some q) := grownBy_trans (World.grownBy_alloc w _ _) (World.grownBy_alloc _ _ _)
  have HR1 : Hid (RdAt ((w.alloc (.cells #[.int .i64 (b : Int), .int .i64 (p : Int), .int .i64 (s : Int)] 27)).alloc (.cells #[.int .i64 0, .int .i64 0, .slice none 0 0] 102)) B q rest) := hR1
  have HBX : Hid (((w.alloc (.cells #[.int .i64 (b : Int), .int .i64 (p : Int), .int .i64 (s : Int)] 27)).alloc (.cells #[.int .i64 0, .int .i64 0, .slice none 0 0] 102)).heap[w.heap.size]? = some (.cells #[.int .i64 (b : Int), .int .i64 (p : Int), .int .i64 (s : Int)] 27 (0, 0))) := hbx
  have HZP : Hid (((w.alloc (.cells #[.int .i64 (b : Int), .int .i64 (p : Int), .int .i64 (s : Int)] 27)).alloc (.cells #[.int .i64 0, .int .i64 0, .slice none 0 0] 102)).heap[w.heap.size + 1]? = some (.cells #[.int .i64 0, .int .i64 0, .slice none 0 0] 102 (0, 0))) := hzp
  have HW1 : Hid (w.grownBy ((w.alloc (.cells #[.int .i64 (b : Int), .int .i64 (p : Int), .int .i64 (s : Int)] 27)).alloc (.cells #[.int .i64 0, .int .i64 0, .slice none 0 0] 102)) (some q)) := hw1
  clear hR hR1 hbx hzp hw1 hC hS hL hM
  go_enter Tryd.func73, Tryd.ntmps73
  go_wp2_with (first
    | (go_at_call 42; refine (dataBytes_any (b : Int) (p : Int) (s : Int) _ hs.1 hs.2).mono ?_; rintro e u1 ⟨rfl, b1⟩; rw [HC.out]
       have HBX1 : Hid (u1.heap[w.heap.size]? = some (.cells #[.int .i64 (b : Int), .int .i64 (p : Int), .int .i64 (s : Int)] 27 (0, 0))) := (b1.block _ (Array.getElem?_eq_some_iff.1 HBX.out).1).trans HBX.out
       have HZP1 : Hid (u1.heap[w.heap.size + 1]? = some (.cells #[.int .i64 0, .int .i64 0, .slice none 0 0] 102 (0, 0))) := (b1.block _ (Array.getElem?_eq_some_iff.1 HZP.out).1).trans HZP.out
       have HR2 : Hid (RdAt u1 B q rest) := HR1.out.below b1
       have HW2 : Hid (w.grownBy u1 (some q)) := grownBy_trans HW1.out (grown_of b1 _)
       obtain ⟨a0, a1, a2, a3, a4, a5⟩ := blk3_cells HBX1.out
       obtain ⟨z0, z1, z2, z3, z4, z5⟩ := blk3_cells HZP1.out
       clear b1))
  have gF := grown3 u1 (w.heap.size + 1) (.int .i64 0) (.int .i64 0) (.slice none 0 0)
  exact bodyPost_ret (v := .tuple #[.agg #[.int .i64 0, .int .i64 0, .slice none 0 0], .int .i64 47]) (by obtain ⟨y0, y1, y2, _⟩ := blk3_cells (blk3_set HZP1.out (.int .i64 0) (.int .i64 0) (.slice none 0 0)); simp [results, Tryd.results73, go_sem, y0, y1, y2]) rfl ⟨rfl, grown_past HW2.out gF (by omega)⟩

set_option maxHeartbeats 2000000 in
set_option maxRecDepth 100000 in
theorem told_short (B q b p s n C S : Nat) (hC : C = 256 * s) (hS : S = 54 + 3 * s) (rest : List Int) (w : World) (hR : RdAt w B q rest) (hl : rest.length ≤ 200000000000000) (hf : Fits (b : Int) (p : Int) (s : Int) = true) (hn : n ≤ 65535) (hb : n ≤ C) (hsh : rest.length < n + S) :
    Calls Tryd.prog 73 #[.pointer (some ⟨q, 0, none⟩), .agg #[.int .i64 (b : Int), .int .i64 (p : Int), .int .i64 (s : Int)], .int .i64 (n : Int)] w fun e w' => e = .returned (.tuple #[.agg #[.int .i64 0, .int .i64 0, .slice none 0 0], .int .i64 10]) ∧ w.grownBy w' (some q) := by
  have hqlt := hR.lt
  have hs := fits_s hf
  obtain ⟨L, hL⟩ : ∃ L : Nat, L = C + S := ⟨_, rfl⟩
  obtain ⟨M, hM⟩ : ∃ M : Nat, M = n + S := ⟨_, rfl⟩
  have hLM : (n : Int) + (L : Int) - (C : Int) = (M : Int) := by omega
  have HM : Hid (n + S = M) := hM.symm
  have HC : Hid (256 * (s : Int) = (C : Int)) := by unfold Hid; omega
  have HL : Hid (256 * (s : Int) + (54 + 3 * (s : Int)) = (L : Int)) := by unfold Hid; omega
  have hL8 : L ≤ 4000 := by omega
  have hM8 : M ≤ 70000 := by omega
  have hC8 : 256 ≤ C ∧ C ≤ 2048 := by omega
  have hS8 : 57 ≤ S ∧ S ≤ 78 := by omega
  have hR1 : RdAt ((w.alloc (.cells #[.int .i64 (b : Int), .int .i64 (p : Int), .int .i64 (s : Int)] 27)).alloc (.cells #[.int .i64 0, .int .i64 0, .slice none 0 0] 102)) B q rest := (hR.below (below_alloc w _)).below (below_alloc _ _)
  have hbx : ((w.alloc (.cells #[.int .i64 (b : Int), .int .i64 (p : Int), .int .i64 (s : Int)] 27)).alloc (.cells #[.int .i64 0, .int .i64 0, .slice none 0 0] 102)).heap[w.heap.size]? = some (.cells #[.int .i64 (b : Int), .int .i64 (p : Int), .int .i64 (s : Int)] 27 (0, 0)) := by
    rw [Below.heap_alloc _ _ _ (by simp)]; exact heap_alloc_new _ _
  have hzp : ((w.alloc (.cells #[.int .i64 (b : Int), .int .i64 (p : Int), .int .i64 (s : Int)] 27)).alloc (.cells #[.int .i64 0, .int .i64 0, .slice none 0 0] 102)).heap[w.heap.size + 1]? = some (.cells #[.int .i64 0, .int .i64 0, .slice none 0 0] 102 (0, 0)) := by
    have h9 := heap_alloc_new (w.alloc (.cells #[.int .i64 (b : Int), .int .i64 (p : Int), .int .i64 (s : Int)] 27)) (.cells #[.int .i64 0, .int .i64 0, .slice none 0 0] 102); rw [World.size_alloc] at h9; exact h9
  have hw1 : w.grownBy ((w.alloc (.cells #[.int .i64 (b : Int), .int .i64 (p : Int), .int .i64 (s : Int)] 27)).alloc (.cells #[.int .i64 0, .int .i64 0, .slice none 0 0] 102)) (some q) := grownBy_trans (World.grownBy_alloc w _ _) (World.grownBy_alloc _ _ _)
  have HR1 : Hid (RdAt ((w.alloc (.cells #[.int .i64 (b : Int), .int .i64 (p : Int), .int .i64 (s : Int)] 27)).alloc (.cells #[.int .i64 0, .int .i64 0, .slice none 0 0] 102)) B q rest) := hR1
  have HBX : Hid (((w.alloc (.cells #[.int .i64 (b : Int), .int .i64 (p : Int), .int .i64 (s : Int)] 27)).alloc (.cells #[.int .i64 0, .int .i64 0, .slice none 0 0] 102)).heap[w.heap.size]? = some (.cells #[.int .i64 (b : Int), .int .i64 (p : Int), .int .i64 (s : Int)] 27 (0, 0))) := hbx
  have HZP : Hid (((w.alloc (.cells #[.int .i64 (b : Int), .int .i64 (p : Int), .int .i64 (s : Int)] 27)).alloc (.cells #[.int .i64 0, .int .i64 0, .slice none 0 0] 102)).heap[w.heap.size + 1]? = some (.cells #[.int .i64 0, .int .i64 0, .slice none 0 0] 102 (0, 0))) := hzp
  have HW1 : Hid (w.grownBy ((w.alloc (.cells #[.int .i64 (b : Int), .int .i64 (p : Int), .int .i64 (s : Int)] 27)).alloc (.cells #[.int .i64 0, .int .i64 0, .slice none 0 0] 102)) (some q)) := hw1
  rw [← hM] at hsh
  have hnM : n ≤ M := by omega
  clear hR hR1 hbx hzp hw1 hC hS hL hM
  go_enter Tryd.func73, Tryd.ntmps73
  go_wp2_with (first
    | (go_at_call 42; refine (dataBytes_any (b : Int) (p : Int) (s : Int) _ hs.1 hs.2).mono ?_; rintro e u1 ⟨rfl, b1⟩; rw [HC.out]
       have HBX1 : Hid (u1.heap[w.heap.size]? = some (.cells #[.int .i64 (b : Int), .int .i64 (p : Int), .int .i64 (s : Int)] 27 (0, 0))) := (b1.block _ (Array.getElem?_eq_some_iff.1 HBX.out).1).trans HBX.out
       have HZP1 : Hid (u1.heap[w.heap.size + 1]? = some (.cells #[.int .i64 0, .int .i64 0, .slice none 0 0] 102 (0, 0))) := (b1.block _ (Array.getElem?_eq_some_iff.1 HZP.out).1).trans HZP.out
       have HR2 : Hid (RdAt u1 B q rest) := HR1.out.below b1
       have HW2 : Hid (w.grownBy u1 (some q)) := grownBy_trans HW1.out (grown_of b1 _)
       obtain ⟨a0, a1, a2, a3, a4, a5⟩ := blk3_cells HBX1.out
       obtain ⟨z0, z1, z2, z3, z4, z5⟩ := blk3_cells HZP1.out
       clear b1)
    | (go_at_call 37; refine (pageBytes_any (b : Int) (p : Int) (s : Int) _ hf).mono ?_; rintro e u2 ⟨rfl, b2⟩; rw [HL.out]
       have HZP2 : Hid (u2.heap[w.heap.size + 1]? = some (.cells #[.int .i64 0, .int .i64 0, .slice none 0 0] 102 (0, 0))) := (b2.block _ (Array.getElem?_eq_some_iff.1 HZP1.out).1).trans HZP1.out
       have HR3 : Hid (RdAt u2 B q rest) := HR2.out.below b2
       have HW3 : Hid (w.grownBy u2 (some q)) := grownBy_trans HW2.out (grown_of b2 _)
       clear a0 a1 a2 a3 a4 a5 z0 z1 z2 z3 z4 z5 b2
       obtain ⟨z0, z1, z2, z3, z4, z5⟩ := blk3_cells HZP2.out)
    | (go_at_call 53; refine (take_short B q M rest _ HR3.out hl hsh (by omega)).mono ?_; rintro e u3 ⟨rfl, hu3⟩; rw [hu3]))
  have gF := grown3 u2 (w.heap.size + 1) (.int .i64 0) (.int .i64 0) (.slice none 0 0)
  exact bodyPost_ret (v := .tuple #[.agg #[.int .i64 0, .int .i64 0, .slice none 0 0], .int .i64 10]) (by obtain ⟨y0, y1, y2, _⟩ := blk3_cells (blk3_set HZP2.out (.int .i64 0) (.int .i64 0) (.slice none 0 0)); simp [results, Tryd.results73, go_sem, y0, y1, y2]) rfl ⟨rfl, grown_past HW3.out gF (by omega)⟩

set_option maxHeartbeats 2000000 in
set_option maxRecDepth 100000 in
theorem told_bad (B q b p s n C S : Nat) (hC : C = 256 * s) (hS : S = 54 + 3 * s) (rest : List Int) (w : World) (hR : RdAt w B q rest) (hl : rest.length ≤ 200000000000000) (hf : Fits (b : Int) (p : Int) (s : Int) = true) (hn : n ≤ 65535) (hb : n ≤ C) (hsh : n + S ≤ rest.length) (hwr : wrN (rest.take n) < n) :
    Calls Tryd.prog 73 #[.pointer (some ⟨q, 0, none⟩), .agg #[.int .i64 (b : Int), .int .i64 (p : Int), .int .i64 (s : Int)], .int .i64 (n : Int)] w fun e w' => e = .returned (.tuple #[.agg #[.int .i64 0, .int .i64 0, .slice none 0 0], .int .i64 47]) ∧ w.grownBy w' (some q) := by
  have hqlt := hR.lt
  have hs := fits_s hf
  obtain ⟨L, hL⟩ : ∃ L : Nat, L = C + S := ⟨_, rfl⟩
  obtain ⟨M, hM⟩ : ∃ M : Nat, M = n + S := ⟨_, rfl⟩
  have hLM : (n : Int) + (L : Int) - (C : Int) = (M : Int) := by omega
  have HM : Hid (n + S = M) := hM.symm
  have HC : Hid (256 * (s : Int) = (C : Int)) := by unfold Hid; omega
  have HL : Hid (256 * (s : Int) + (54 + 3 * (s : Int)) = (L : Int)) := by unfold Hid; omega
  have hL8 : L ≤ 4000 := by omega
  have hM8 : M ≤ 70000 := by omega
  have hC8 : 256 ≤ C ∧ C ≤ 2048 := by omega
  have hS8 : 57 ≤ S ∧ S ≤ 78 := by omega
  have hR1 : RdAt ((w.alloc (.cells #[.int .i64 (b : Int), .int .i64 (p : Int), .int .i64 (s : Int)] 27)).alloc (.cells #[.int .i64 0, .int .i64 0, .slice none 0 0] 102)) B q rest := (hR.below (below_alloc w _)).below (below_alloc _ _)
  have hbx : ((w.alloc (.cells #[.int .i64 (b : Int), .int .i64 (p : Int), .int .i64 (s : Int)] 27)).alloc (.cells #[.int .i64 0, .int .i64 0, .slice none 0 0] 102)).heap[w.heap.size]? = some (.cells #[.int .i64 (b : Int), .int .i64 (p : Int), .int .i64 (s : Int)] 27 (0, 0)) := by
    rw [Below.heap_alloc _ _ _ (by simp)]; exact heap_alloc_new _ _
  have hzp : ((w.alloc (.cells #[.int .i64 (b : Int), .int .i64 (p : Int), .int .i64 (s : Int)] 27)).alloc (.cells #[.int .i64 0, .int .i64 0, .slice none 0 0] 102)).heap[w.heap.size + 1]? = some (.cells #[.int .i64 0, .int .i64 0, .slice none 0 0] 102 (0, 0)) := by
    have h9 := heap_alloc_new (w.alloc (.cells #[.int .i64 (b : Int), .int .i64 (p : Int), .int .i64 (s : Int)] 27)) (.cells #[.int .i64 0, .int .i64 0, .slice none 0 0] 102); rw [World.size_alloc] at h9; exact h9
  have hw1 : w.grownBy ((w.alloc (.cells #[.int .i64 (b : Int), .int .i64 (p : Int), .int .i64 (s : Int)] 27)).alloc (.cells #[.int .i64 0, .int .i64 0, .slice none 0 0] 102)) (some q) := grownBy_trans (World.grownBy_alloc w _ _) (World.grownBy_alloc _ _ _)
  have HR1 : Hid (RdAt ((w.alloc (.cells #[.int .i64 (b : Int), .int .i64 (p : Int), .int .i64 (s : Int)] 27)).alloc (.cells #[.int .i64 0, .int .i64 0, .slice none 0 0] 102)) B q rest) := hR1
  have HBX : Hid (((w.alloc (.cells #[.int .i64 (b : Int), .int .i64 (p : Int), .int .i64 (s : Int)] 27)).alloc (.cells #[.int .i64 0, .int .i64 0, .slice none 0 0] 102)).heap[w.heap.size]? = some (.cells #[.int .i64 (b : Int), .int .i64 (p : Int), .int .i64 (s : Int)] 27 (0, 0))) := hbx
  have HZP : Hid (((w.alloc (.cells #[.int .i64 (b : Int), .int .i64 (p : Int), .int .i64 (s : Int)] 27)).alloc (.cells #[.int .i64 0, .int .i64 0, .slice none 0 0] 102)).heap[w.heap.size + 1]? = some (.cells #[.int .i64 0, .int .i64 0, .slice none 0 0] 102 (0, 0))) := hzp
  have HW1 : Hid (w.grownBy ((w.alloc (.cells #[.int .i64 (b : Int), .int .i64 (p : Int), .int .i64 (s : Int)] 27)).alloc (.cells #[.int .i64 0, .int .i64 0, .slice none 0 0] 102)) (some q)) := hw1
  rw [← hM] at hsh
  have hnM : n ≤ M := by omega
  clear hR hR1 hbx hzp hw1 hC hS hL hM
  go_enter Tryd.func73, Tryd.ntmps73
  go_wp2_with (first
    | (go_at_call 42; refine (dataBytes_any (b : Int) (p : Int) (s : Int) _ hs.1 hs.2).mono ?_; rintro e u1 ⟨rfl, b1⟩; rw [HC.out]
       have HBX1 : Hid (u1.heap[w.heap.size]? = some (.cells #[.int .i64 (b : Int), .int .i64 (p : Int), .int .i64 (s : Int)] 27 (0, 0))) := (b1.block _ (Array.getElem?_eq_some_iff.1 HBX.out).1).trans HBX.out
       have HZP1 : Hid (u1.heap[w.heap.size + 1]? = some (.cells #[.int .i64 0, .int .i64 0, .slice none 0 0] 102 (0, 0))) := (b1.block _ (Array.getElem?_eq_some_iff.1 HZP.out).1).trans HZP.out
       have HR2 : Hid (RdAt u1 B q rest) := HR1.out.below b1
       have HW2 : Hid (w.grownBy u1 (some q)) := grownBy_trans HW1.out (grown_of b1 _)
       obtain ⟨a0, a1, a2, a3, a4, a5⟩ := blk3_cells HBX1.out
       obtain ⟨z0, z1, z2, z3, z4, z5⟩ := blk3_cells HZP1.out
       clear b1)
    | (go_at_call 37; refine (pageBytes_any (b : Int) (p : Int) (s : Int) _ hf).mono ?_; rintro e u2 ⟨rfl, b2⟩; rw [HL.out]
       have HZP2 : Hid (u2.heap[w.heap.size + 1]? = some (.cells #[.int .i64 0, .int .i64 0, .slice none 0 0] 102 (0, 0))) := (b2.block _ (Array.getElem?_eq_some_iff.1 HZP1.out).1).trans HZP1.out
       have HR3 : Hid (RdAt u2 B q rest) := HR2.out.below b2
       have HW3 : Hid (w.grownBy u2 (some q)) := grownBy_trans HW2.out (grown_of b2 _)
       clear a0 a1 a2 a3 a4 a5 z0 z1 z2 z3 z4 z5 b2
       obtain ⟨z0, z1, z2, z3, z4, z5⟩ := blk3_cells HZP2.out)
    | (go_at_call 53; refine (take_ok B q M rest _ HR3.out hl hsh).mono ?_; rintro e u3 ⟨bb, off, c, rfl, r3, hc1, hc2, hbB, rd3, g3⟩
       have HZP3 : Hid (u3.heap[w.heap.size + 1]? = some (.cells #[.int .i64 0, .int .i64 0, .slice none 0 0] 102 (0, 0))) := (g3.block _ (Array.getElem?_eq_some_iff.1 HZP2.out).1 (fun e => by have e' := Option.some.inj e; omega)).trans HZP2.out
       have HR4 : Hid (RdAt u3 B q (rest.drop M)) := rd3
       have HW4 : Hid (w.grownBy u3 (some q)) := grownBy_trans HW3.out g3
       have HRD : Hid (Reads u3 (some ⟨bb, off, none⟩) M (rest.take M)) := r3
       have d1 : (n : Int) ≤ (c : Int) := by omega
       have d2 : n ≤ c := by omega
       clear z0 z1 z2 z3 z4 z5 g3 rd3 r3
       obtain ⟨z0, z1, z2, z3, z4, z5⟩ := blk3_cells HZP3.out)
    | (go_at_call 77; refine (written_any _ _ _ (rest.take n) _ (by omega) (by have h9 := HRD.out.front n (by omega); rw [List.take_take, Nat.min_eq_left (by omega)] at h9; exact h9)).mono ?_; rintro e u4 ⟨rfl, hu4⟩; rw [hu4]))
  have gF := grown3 u3 (w.heap.size + 1) (.int .i64 0) (.int .i64 0) (.slice none 0 0)
  exact bodyPost_ret (v := .tuple #[.agg #[.int .i64 0, .int .i64 0, .slice none 0 0], .int .i64 47]) (by obtain ⟨y0, y1, y2, _⟩ := blk3_cells (blk3_set HZP3.out (.int .i64 0) (.int .i64 0) (.slice none 0 0)); simp [results, Tryd.results73, go_sem, y0, y1, y2]) rfl ⟨rfl, grown_past HW4.out gF (by omega)⟩


end Go.Proofs.YteefekhlbillfaaDoor
