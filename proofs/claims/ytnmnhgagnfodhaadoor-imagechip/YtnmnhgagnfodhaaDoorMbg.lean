/-
  SEAT YtnmnhgagnfodhaaDoor: Rd.
-/
import Derived.Test.YtnmnhgagnfodhaaDoorMbe
import Derived.Test.YtnmnhgagnfodhaaDoorMbf
namespace Go.Proofs.YtnmnhgagnfodhaaDoor
open Go.RowKit
set_option linter.unusedVariables false
theorem hasPrefix_any (b off n c : Nat) (a' : Option Addr) (n' c' : Nat) (xs ys : List Int) (w : World) (hn : n ≤ 200000000000000) (hnc : n ≤ c) (hc : c ≤ 9223372036854775807) (hn' : n' ≤ 200000000000000) (h : Reads w (some ⟨b, off, none⟩) n xs) (h' : Reads w a' n' ys) :
  Calls Tryd.prog 65 #[.slice (some ⟨b, off, none⟩) n c, .slice a' n' c'] w fun e w' => e = .returned (.bool (decide (xs.take n' = ys))) ∧ w' = w := by
 have hx := h.1
 have hy := h'.1
 by_cases hl : n' ≤ n
 ·have hf := h.front n' hl
  have d1 : (n' : Int) ≤ (n : Int) := by omega
  have d2 : (n' : Int) ≤ (c : Int) := by omega
  have d3 : n' ≤ c := by omega
  go_enter Tryd.func65, Tryd.ntmps65
  go_wp2_with (go_at_call 30; refine (equal_any _ _ _ _ _ _ (xs.take n') ys _ hf h').mono ?_; rintro e u1 ⟨rfl, hu1⟩; rw [hu1])
  go_ret
  exact ⟨rfl, rfl⟩
 ·have hd : decide (xs.take n' = ys) = false := decide_eq_false (fun e => by have := congrArg List.length e; simp at this; omega)
  rw [hd]
  have d1 : (n : Int) < (n' : Int) := by omega
  clear hd
  go_enter Tryd.func65, Tryd.ntmps65
  go_wp2
  go_ret
  exact ⟨rfl, rfl⟩
theorem blk5_set {u : World} {i : Nat} {a0 a1 a2 a3 a4 : Value} {t : TypeId} (h : u.heap[i]? = some (.cells #[a0, a1, a2, a3, a4] t (0, 0))) (v0 v1 v2 v3 v4 : Value) :
  (((((u.setCell ⟨i, 0, none⟩ v0).setCell ⟨i, 1, none⟩ v1).setCell ⟨i, 2, none⟩ v2).setCell ⟨i, 3, none⟩ v3).setCell ⟨i, 4, none⟩ v4).heap[i]? = some (.cells #[v0, v1, v2, v3, v4] t (0, 0)) := by
 have one : ∀ {u : World} {cs : Array Value} (j : Nat) (v : Value), u.heap[i]? = some (.cells cs t (0, 0)) → (u.setCell ⟨i, j, none⟩ v).heap[i]? = some (.cells (cs.setIfInBounds j v) t (0, 0)) := fun j v h => Joins.block_setCell h v
 exact one 4 v4 (one 3 v3 (one 2 v2 (one 1 v1 (one 0 v0 h))))
theorem grown5 (u : World) (i : Nat) (v0 v1 v2 v3 v4 : Value) : u.grownBy (((((u.setCell ⟨i, 0, none⟩ v0).setCell ⟨i, 1, none⟩ v1).setCell ⟨i, 2, none⟩ v2).setCell ⟨i, 3, none⟩ v3).setCell ⟨i, 4, none⟩ v4) (some i) :=
 grownBy_trans (grownBy_trans (grownBy_trans (grownBy_trans (set_grown u i 0 v0) (set_grown _ i 1 v1)) (set_grown _ i 2 v2)) (set_grown _ i 3 v3)) (set_grown _ i 4 v4)
theorem frozen5 {w : World} {q : Nat} {x0 x1 x2 x3 x4 : Value} {t : TypeId} (h : w.heap[q]? = some (.cells #[x0, x1, x2, x3, x4] t (0, 0))) : ∀ j, w.frozen? ⟨q, j, none⟩ = false := by
 intro j
 simp [World.frozen?, h]
theorem grown_past {w u v : World} {q i : Nat} (h : w.grownBy u (some q)) (h' : u.grownBy v (some i)) (hi : w.heap.size ≤ i) : w.grownBy v (some q) :=
 ⟨h'.os.trans h.os, h'.tape.trans h.tape, h'.output.trans h.output, Nat.le_trans h.size h'.size, fun k hk hne => (h'.block k (Nat.lt_of_lt_of_le hk h.size) (fun e => by have e' := Option.some.inj e; omega)).trans (h.block k hk hne)⟩
theorem geo_getD (r : List Int) : geoB (r.drop 5) = r.getD 5 0 + 256 * r.getD 6 0 ∧ geoP (r.drop 5) = r.getD 7 0 + 256 * r.getD 8 0 ∧ geoS (r.drop 5) = r.getD 9 0 := by
 refine ⟨?_, ?_, ?_⟩
 ·unfold geoB; rw [getL_drop]; simp [getL]; omega
 ·unfold geoP; rw [List.drop_drop, getL_drop]; simp [getL]; omega
 ·unfold geoS; rw [List.drop_drop, getL_drop]; simp [getL]
set_option maxHeartbeats 2000000 in
set_option maxRecDepth 100000 in
theorem front_magic (B q : Nat) (rest : List Int) (w : World) (hR : RdAt w B q rest) (hl : rest.length ≤ 200000000000000) (hm : rest.take 4 ≠ [83, 72, 65, 76]) :
  Calls Tryd.prog 37 #[.pointer (some ⟨q, 0, none⟩)] w fun e w' => e = .returned (.tuple #[.agg #[.int .i64 0, .int .i64 0, .int .i64 0, .slice none 0 0, .slice none 0 0], .int .i64 210]) ∧ w.grownBy w' (some q) := by
 have hqlt := hR.lt
 have kc := Joins.run_convert_bytes_const_at (P := Tryd.prog) (w.alloc (.cells #[.int .i64 0, .int .i64 0, .int .i64 0, .slice none 0 0, .slice none 0 0] 35)) 32 5 #[.int .u8 83, .int .u8 72, .int .u8 65, .int .u8 76] 4 4 (w.heap.size + 1) (by simp) Tryd.underlying32 Tryd.underlying5
 have hR1 : RdAt ((w.alloc (.cells #[.int .i64 0, .int .i64 0, .int .i64 0, .slice none 0 0, .slice none 0 0] 35)).alloc (.cells #[.int .u8 83, .int .u8 72, .int .u8 65, .int .u8 76] 5 (4, 5))) B q rest := (hR.below (below_alloc w _)).below (below_alloc _ _)
 have hmg : Reads ((w.alloc (.cells #[.int .i64 0, .int .i64 0, .int .i64 0, .slice none 0 0, .slice none 0 0] 35)).alloc (.cells #[.int .u8 83, .int .u8 72, .int .u8 65, .int .u8 76] 5 (4, 5))) (some ⟨w.heap.size + 1, 0, none⟩) 4 [83, 72, 65, 76] := reads_lit _ 83 72 65 76 (4, 5) (by decide) (by decide) (by decide) (by decide) _ (by have h9 := heap_alloc_new (w.alloc (.cells #[.int .i64 0, .int .i64 0, .int .i64 0, .slice none 0 0, .slice none 0 0] 35)) (.cells #[.int .u8 83, .int .u8 72, .int .u8 65, .int .u8 76] 5 (4, 5)); rw [World.size_alloc] at h9; exact h9)
 have hrb : ((w.alloc (.cells #[.int .i64 0, .int .i64 0, .int .i64 0, .slice none 0 0, .slice none 0 0] 35)).alloc (.cells #[.int .u8 83, .int .u8 72, .int .u8 65, .int .u8 76] 5 (4, 5))).heap[w.heap.size]? = some (.cells #[.int .i64 0, .int .i64 0, .int .i64 0, .slice none 0 0, .slice none 0 0] 35 (0, 0)) := by
  rw [Below.heap_alloc _ _ _ (by simp)]; exact heap_alloc_new _ _
 have hw1 : w.grownBy ((w.alloc (.cells #[.int .i64 0, .int .i64 0, .int .i64 0, .slice none 0 0, .slice none 0 0] 35)).alloc (.cells #[.int .u8 83, .int .u8 72, .int .u8 65, .int .u8 76] 5 (4, 5))) (some q) := grownBy_trans (World.grownBy_alloc w _ _) (World.grownBy_alloc _ _ _)
 have HR1 : Hid _ := hR1
 have HRB1 : Hid (((w.alloc (.cells #[.int .i64 0, .int .i64 0, .int .i64 0, .slice none 0 0, .slice none 0 0] 35)).alloc (.cells #[.int .u8 83, .int .u8 72, .int .u8 65, .int .u8 76] 5 (4, 5))).heap[w.heap.size]? = some (.cells #[.int .i64 0, .int .i64 0, .int .i64 0, .slice none 0 0, .slice none 0 0] 35 (0, 0))) := hrb
 have HW1 : Hid (w.grownBy ((w.alloc (.cells #[.int .i64 0, .int .i64 0, .int .i64 0, .slice none 0 0, .slice none 0 0] 35)).alloc (.cells #[.int .u8 83, .int .u8 72, .int .u8 65, .int .u8 76] 5 (4, 5))) (some q)) := hw1
 obtain ⟨xb, xo, xc, xh, xr, xl, xm, _⟩ := hR1
 have xg : (w.alloc (.cells #[.int .i64 0, .int .i64 0, .int .i64 0, .slice none 0 0, .slice none 0 0] 35)).heap[q]? = some (.cells #[.slice (some ⟨xb, xo, none⟩) rest.length xc] 97 (0, 0)) := (Below.heap_alloc (w.alloc (.cells #[.int .i64 0, .int .i64 0, .int .i64 0, .slice none 0 0, .slice none 0 0] 35)) (.cells #[.int .u8 83, .int .u8 72, .int .u8 65, .int .u8 76] 5 (4, 5)) q (by simp; omega)).symm.trans xh
 have xcell : (w.alloc (.cells #[.int .i64 0, .int .i64 0, .int .i64 0, .slice none 0 0, .slice none 0 0] 35)).cell? ⟨q, 0, none⟩ = some (.slice (some ⟨xb, xo, none⟩) rest.length xc) := by simp only [World.cell?, xg]; rfl
 obtain ⟨r0, r1, r2, r3, r4⟩ := cells5 hrb
 have rf := frozen5 hrb
 have rf0 := rf 0
 have rf1 := rf 1
 have rf2 := rf 2
 have rf3 := rf 3
 have rf4 := rf 4
 have HXR : Hid _ := xr
 have HMG : Hid _ := hmg
 clear hR hrb hw1 xh xg xr hmg rf
 have hd : decide (rest.take 4 = [83, 72, 65, 76]) = false := decide_eq_false hm
 clear hm
 go_enter Tryd.func37, Tryd.ntmps37
 go_wp2_with (first
  | (go_at_call 65; refine (hasPrefix_any xb xo rest.length xc _ 4 4 rest [83, 72, 65, 76] _ hl xl xm (by omega) HXR.out HMG.out).mono ?_; rintro e u0 ⟨rfl, hu0⟩; rw [hu0, hd]; clear xcell))
 exact bodyPost_ret (v := .tuple #[.agg #[.int .i64 0, .int .i64 0, .int .i64 0, .slice none 0 0, .slice none 0 0], .int .i64 210]) (by simp [results, Tryd.results37, go_sem, r0, r1, r2, r3, r4]) rfl ⟨rfl, HW1.out⟩
set_option maxHeartbeats 2000000 in
set_option maxRecDepth 100000 in
theorem front_s5 (B q : Nat) (rest : List Int) (w : World) (hR : RdAt w B q rest) (hl : rest.length ≤ 200000000000000) (hm : rest.take 4 = [83, 72, 65, 76]) (h5 : rest.length < 5) :
  Calls Tryd.prog 37 #[.pointer (some ⟨q, 0, none⟩)] w fun e w' => e = .returned (.tuple #[.agg #[.int .i64 0, .int .i64 0, .int .i64 0, .slice none 0 0, .slice none 0 0], .int .i64 10]) ∧ w.grownBy w' (some q) := by
 have hqlt := hR.lt
 have kc := Joins.run_convert_bytes_const_at (P := Tryd.prog) (w.alloc (.cells #[.int .i64 0, .int .i64 0, .int .i64 0, .slice none 0 0, .slice none 0 0] 35)) 32 5 #[.int .u8 83, .int .u8 72, .int .u8 65, .int .u8 76] 4 4 (w.heap.size + 1) (by simp) Tryd.underlying32 Tryd.underlying5
 have hR1 : RdAt ((w.alloc (.cells #[.int .i64 0, .int .i64 0, .int .i64 0, .slice none 0 0, .slice none 0 0] 35)).alloc (.cells #[.int .u8 83, .int .u8 72, .int .u8 65, .int .u8 76] 5 (4, 5))) B q rest := (hR.below (below_alloc w _)).below (below_alloc _ _)
 have hmg : Reads ((w.alloc (.cells #[.int .i64 0, .int .i64 0, .int .i64 0, .slice none 0 0, .slice none 0 0] 35)).alloc (.cells #[.int .u8 83, .int .u8 72, .int .u8 65, .int .u8 76] 5 (4, 5))) (some ⟨w.heap.size + 1, 0, none⟩) 4 [83, 72, 65, 76] := reads_lit _ 83 72 65 76 (4, 5) (by decide) (by decide) (by decide) (by decide) _ (by have h9 := heap_alloc_new (w.alloc (.cells #[.int .i64 0, .int .i64 0, .int .i64 0, .slice none 0 0, .slice none 0 0] 35)) (.cells #[.int .u8 83, .int .u8 72, .int .u8 65, .int .u8 76] 5 (4, 5)); rw [World.size_alloc] at h9; exact h9)
 have hrb : ((w.alloc (.cells #[.int .i64 0, .int .i64 0, .int .i64 0, .slice none 0 0, .slice none 0 0] 35)).alloc (.cells #[.int .u8 83, .int .u8 72, .int .u8 65, .int .u8 76] 5 (4, 5))).heap[w.heap.size]? = some (.cells #[.int .i64 0, .int .i64 0, .int .i64 0, .slice none 0 0, .slice none 0 0] 35 (0, 0)) := by
  rw [Below.heap_alloc _ _ _ (by simp)]; exact heap_alloc_new _ _
 have hw1 : w.grownBy ((w.alloc (.cells #[.int .i64 0, .int .i64 0, .int .i64 0, .slice none 0 0, .slice none 0 0] 35)).alloc (.cells #[.int .u8 83, .int .u8 72, .int .u8 65, .int .u8 76] 5 (4, 5))) (some q) := grownBy_trans (World.grownBy_alloc w _ _) (World.grownBy_alloc _ _ _)
 have HR1 : Hid _ := hR1
 have HRB1 : Hid (((w.alloc (.cells #[.int .i64 0, .int .i64 0, .int .i64 0, .slice none 0 0, .slice none 0 0] 35)).alloc (.cells #[.int .u8 83, .int .u8 72, .int .u8 65, .int .u8 76] 5 (4, 5))).heap[w.heap.size]? = some (.cells #[.int .i64 0, .int .i64 0, .int .i64 0, .slice none 0 0, .slice none 0 0] 35 (0, 0))) := hrb
 have HW1 : Hid (w.grownBy ((w.alloc (.cells #[.int .i64 0, .int .i64 0, .int .i64 0, .slice none 0 0, .slice none 0 0] 35)).alloc (.cells #[.int .u8 83, .int .u8 72, .int .u8 65, .int .u8 76] 5 (4, 5))) (some q)) := hw1
 obtain ⟨xb, xo, xc, xh, xr, xl, xm, _⟩ := hR1
 have xg : (w.alloc (.cells #[.int .i64 0, .int .i64 0, .int .i64 0, .slice none 0 0, .slice none 0 0] 35)).heap[q]? = some (.cells #[.slice (some ⟨xb, xo, none⟩) rest.length xc] 97 (0, 0)) := (Below.heap_alloc (w.alloc (.cells #[.int .i64 0, .int .i64 0, .int .i64 0, .slice none 0 0, .slice none 0 0] 35)) (.cells #[.int .u8 83, .int .u8 72, .int .u8 65, .int .u8 76] 5 (4, 5)) q (by simp; omega)).symm.trans xh
 have xcell : (w.alloc (.cells #[.int .i64 0, .int .i64 0, .int .i64 0, .slice none 0 0, .slice none 0 0] 35)).cell? ⟨q, 0, none⟩ = some (.slice (some ⟨xb, xo, none⟩) rest.length xc) := by simp only [World.cell?, xg]; rfl
 obtain ⟨r0, r1, r2, r3, r4⟩ := cells5 hrb
 have rf := frozen5 hrb
 have rf0 := rf 0
 have rf1 := rf 1
 have rf2 := rf 2
 have rf3 := rf 3
 have rf4 := rf 4
 have HXR : Hid _ := xr
 have HMG : Hid _ := hmg
 clear hR hrb hw1 xh xg xr hmg rf
 have hd : decide (rest.take 4 = [83, 72, 65, 76]) = true := decide_eq_true hm
 have hl4 : 4 ≤ rest.length := by have := congrArg List.length hm; simp at this; omega
 clear hm
 go_enter Tryd.func37, Tryd.ntmps37
 go_wp2_with (first
  | (go_at_call 65; refine (hasPrefix_any xb xo rest.length xc _ 4 4 rest [83, 72, 65, 76] _ hl xl xm (by omega) HXR.out HMG.out).mono ?_; rintro e u0 ⟨rfl, hu0⟩; rw [hu0, hd]; clear xcell)
  | (go_at_call 66; refine (take_ok B q 4 rest _ HR1.out hl (by omega)).mono ?_; rintro e u2 ⟨_, _, _, rfl, _, _, _, _, rd2, g2⟩
     have HRD2 : Hid (RdAt u2 B q (rest.drop 4)) := rd2
     have HRB2 : Hid (u2.heap[w.heap.size]? = some (.cells #[.int .i64 0, .int .i64 0, .int .i64 0, .slice none 0 0, .slice none 0 0] 35 (0, 0))) := (g2.block w.heap.size (Array.getElem?_eq_some_iff.1 HRB1.out).1 (fun e => by have e' := Option.some.inj e; omega)).trans HRB1.out
     have HW2 : Hid (w.grownBy u2 (some q)) := grownBy_trans HW1.out g2
     clear r0 r1 r2 r3 r4 rf0 rf1 rf2 rf3 rf4
     obtain ⟨r0, r1, r2, r3, r4⟩ := cells5 HRB2.out
     have rf := frozen5 HRB2.out
     have rf0 := rf 0
     have rf1 := rf 1
     have rf2 := rf 2
     have rf3 := rf 3
     have rf4 := rf 4
     clear rf
     clear rd2 g2)
  | (go_at_call 67; refine (num_short B q 1 (rest.drop 4) _ HRD2.out (by rw [List.length_drop]; omega) (by rw [List.length_drop]; omega) (by omega)).mono ?_; rintro e u3 ⟨rfl, hu3⟩; rw [hu3]))
 have z := blk5_set HRB2.out (.int .i64 0) (.int .i64 0) (.int .i64 0) (.slice none 0 0) (.slice none 0 0)
 obtain ⟨y0, y1, y2, y3, y4⟩ := cells5 z
 exact bodyPost_ret (v := .tuple #[.agg #[.int .i64 0, .int .i64 0, .int .i64 0, .slice none 0 0, .slice none 0 0], .int .i64 10]) (by simp [results, Tryd.results37, go_sem, y0, y1, y2, y3, y4]) rfl ⟨rfl, grown_past HW2.out (grown5 _ w.heap.size _ _ _ _ _) (Nat.le_refl _)⟩
set_option maxHeartbeats 2000000 in
set_option maxRecDepth 100000 in
theorem front_ver (B q : Nat) (rest : List Int) (w : World) (hR : RdAt w B q rest) (hl : rest.length ≤ 200000000000000) (hm : rest.take 4 = [83, 72, 65, 76]) (h5 : 5 ≤ rest.length) (hv : rest.getD 4 0 ≠ 1) :
  Calls Tryd.prog 37 #[.pointer (some ⟨q, 0, none⟩)] w fun e w' => e = .returned (.tuple #[.agg #[.int .i64 0, .int .i64 0, .int .i64 0, .slice none 0 0, .slice none 0 0], .int .i64 211]) ∧ w.grownBy w' (some q) := by
 have hqlt := hR.lt
 have kc := Joins.run_convert_bytes_const_at (P := Tryd.prog) (w.alloc (.cells #[.int .i64 0, .int .i64 0, .int .i64 0, .slice none 0 0, .slice none 0 0] 35)) 32 5 #[.int .u8 83, .int .u8 72, .int .u8 65, .int .u8 76] 4 4 (w.heap.size + 1) (by simp) Tryd.underlying32 Tryd.underlying5
 have hR1 : RdAt ((w.alloc (.cells #[.int .i64 0, .int .i64 0, .int .i64 0, .slice none 0 0, .slice none 0 0] 35)).alloc (.cells #[.int .u8 83, .int .u8 72, .int .u8 65, .int .u8 76] 5 (4, 5))) B q rest := (hR.below (below_alloc w _)).below (below_alloc _ _)
 have hmg : Reads ((w.alloc (.cells #[.int .i64 0, .int .i64 0, .int .i64 0, .slice none 0 0, .slice none 0 0] 35)).alloc (.cells #[.int .u8 83, .int .u8 72, .int .u8 65, .int .u8 76] 5 (4, 5))) (some ⟨w.heap.size + 1, 0, none⟩) 4 [83, 72, 65, 76] := reads_lit _ 83 72 65 76 (4, 5) (by decide) (by decide) (by decide) (by decide) _ (by have h9 := heap_alloc_new (w.alloc (.cells #[.int .i64 0, .int .i64 0, .int .i64 0, .slice none 0 0, .slice none 0 0] 35)) (.cells #[.int .u8 83, .int .u8 72, .int .u8 65, .int .u8 76] 5 (4, 5)); rw [World.size_alloc] at h9; exact h9)
 have hrb : ((w.alloc (.cells #[.int .i64 0, .int .i64 0, .int .i64 0, .slice none 0 0, .slice none 0 0] 35)).alloc (.cells #[.int .u8 83, .int .u8 72, .int .u8 65, .int .u8 76] 5 (4, 5))).heap[w.heap.size]? = some (.cells #[.int .i64 0, .int .i64 0, .int .i64 0, .slice none 0 0, .slice none 0 0] 35 (0, 0)) := by
  rw [Below.heap_alloc _ _ _ (by simp)]; exact heap_alloc_new _ _
 have hw1 : w.grownBy ((w.alloc (.cells #[.int .i64 0, .int .i64 0, .int .i64 0, .slice none 0 0, .slice none 0 0] 35)).alloc (.cells #[.int .u8 83, .int .u8 72, .int .u8 65, .int .u8 76] 5 (4, 5))) (some q) := grownBy_trans (World.grownBy_alloc w _ _) (World.grownBy_alloc _ _ _)
 have HR1 : Hid _ := hR1
 have HRB1 : Hid (((w.alloc (.cells #[.int .i64 0, .int .i64 0, .int .i64 0, .slice none 0 0, .slice none 0 0] 35)).alloc (.cells #[.int .u8 83, .int .u8 72, .int .u8 65, .int .u8 76] 5 (4, 5))).heap[w.heap.size]? = some (.cells #[.int .i64 0, .int .i64 0, .int .i64 0, .slice none 0 0, .slice none 0 0] 35 (0, 0))) := hrb
 have HW1 : Hid (w.grownBy ((w.alloc (.cells #[.int .i64 0, .int .i64 0, .int .i64 0, .slice none 0 0, .slice none 0 0] 35)).alloc (.cells #[.int .u8 83, .int .u8 72, .int .u8 65, .int .u8 76] 5 (4, 5))) (some q)) := hw1
 obtain ⟨xb, xo, xc, xh, xr, xl, xm, _⟩ := hR1
 have xg : (w.alloc (.cells #[.int .i64 0, .int .i64 0, .int .i64 0, .slice none 0 0, .slice none 0 0] 35)).heap[q]? = some (.cells #[.slice (some ⟨xb, xo, none⟩) rest.length xc] 97 (0, 0)) := (Below.heap_alloc (w.alloc (.cells #[.int .i64 0, .int .i64 0, .int .i64 0, .slice none 0 0, .slice none 0 0] 35)) (.cells #[.int .u8 83, .int .u8 72, .int .u8 65, .int .u8 76] 5 (4, 5)) q (by simp; omega)).symm.trans xh
 have xcell : (w.alloc (.cells #[.int .i64 0, .int .i64 0, .int .i64 0, .slice none 0 0, .slice none 0 0] 35)).cell? ⟨q, 0, none⟩ = some (.slice (some ⟨xb, xo, none⟩) rest.length xc) := by simp only [World.cell?, xg]; rfl
 obtain ⟨r0, r1, r2, r3, r4⟩ := cells5 hrb
 have rf := frozen5 hrb
 have rf0 := rf 0
 have rf1 := rf 1
 have rf2 := rf 2
 have rf3 := rf 3
 have rf4 := rf 4
 have HXR : Hid _ := xr
 have HMG : Hid _ := hmg
 clear hR hrb hw1 xh xg xr hmg rf
 have hd : decide (rest.take 4 = [83, 72, 65, 76]) = true := decide_eq_true hm
 have hl4 : 4 ≤ rest.length := by have := congrArg List.length hm; simp at this; omega
 clear hm
 obtain ⟨V, hV⟩ : ∃ V, getL (rest.drop 4) 0 1 = V := ⟨_, rfl⟩
 have hV' : rest.getD 4 0 = V := by rw [← hV, getL_drop]; simp [getL]
 have HV : Hid (getL (rest.drop 4) 0 1 = V) := hV
 rw [hV'] at hv
 clear hV hV'
 have hv2 : (V != 1) = true := by simpa using hv
 clear hv
 go_enter Tryd.func37, Tryd.ntmps37
 go_wp2_with (first
  | (go_at_call 65; refine (hasPrefix_any xb xo rest.length xc _ 4 4 rest [83, 72, 65, 76] _ hl xl xm (by omega) HXR.out HMG.out).mono ?_; rintro e u0 ⟨rfl, hu0⟩; rw [hu0, hd]; clear xcell)
  | (go_at_call 66; refine (take_ok B q 4 rest _ HR1.out hl (by omega)).mono ?_; rintro e u2 ⟨_, _, _, rfl, _, _, _, _, rd2, g2⟩
     have HRD2 : Hid (RdAt u2 B q (rest.drop 4)) := rd2
     have HRB2 : Hid (u2.heap[w.heap.size]? = some (.cells #[.int .i64 0, .int .i64 0, .int .i64 0, .slice none 0 0, .slice none 0 0] 35 (0, 0))) := (g2.block w.heap.size (Array.getElem?_eq_some_iff.1 HRB1.out).1 (fun e => by have e' := Option.some.inj e; omega)).trans HRB1.out
     have HW2 : Hid (w.grownBy u2 (some q)) := grownBy_trans HW1.out g2
     clear r0 r1 r2 r3 r4 rf0 rf1 rf2 rf3 rf4
     obtain ⟨r0, r1, r2, r3, r4⟩ := cells5 HRB2.out
     have rf := frozen5 HRB2.out
     have rf0 := rf 0
     have rf1 := rf 1
     have rf2 := rf 2
     have rf3 := rf 3
     have rf4 := rf 4
     clear rf
     clear rd2 g2)
  | (go_at_call 67; refine (num_ok B q 1 (rest.drop 4) _ HRD2.out (by rw [List.length_drop]; omega) (by rw [List.length_drop]; omega) (by omega) (by omega)).mono ?_; rintro e u3 ⟨rfl, rd3, g3⟩; rw [HV.out]; rw [List.drop_drop] at rd3
     have HRD3 : Hid (RdAt u3 B q (rest.drop 5)) := rd3
     have HRB3 : Hid (u3.heap[w.heap.size]? = some (.cells #[.int .i64 0, .int .i64 0, .int .i64 0, .slice none 0 0, .slice none 0 0] 35 (0, 0))) := (g3.block w.heap.size (Array.getElem?_eq_some_iff.1 HRB2.out).1 (fun e => by have e' := Option.some.inj e; omega)).trans HRB2.out
     have HW3 : Hid (w.grownBy u3 (some q)) := grownBy_trans HW2.out g3
     clear r0 r1 r2 r3 r4 rf0 rf1 rf2 rf3 rf4
     obtain ⟨r0, r1, r2, r3, r4⟩ := cells5 HRB3.out
     have rf := frozen5 HRB3.out
     have rf0 := rf 0
     have rf1 := rf 1
     have rf2 := rf 2
     have rf3 := rf 3
     have rf4 := rf 4
     clear rf
     clear rd3 g3))
 have z := blk5_set HRB3.out (.int .i64 0) (.int .i64 0) (.int .i64 0) (.slice none 0 0) (.slice none 0 0)
 obtain ⟨y0, y1, y2, y3, y4⟩ := cells5 z
 exact bodyPost_ret (v := .tuple #[.agg #[.int .i64 0, .int .i64 0, .int .i64 0, .slice none 0 0, .slice none 0 0], .int .i64 211]) (by simp [results, Tryd.results37, go_sem, y0, y1, y2, y3, y4]) rfl ⟨rfl, grown_past HW3.out (grown5 _ w.heap.size _ _ _ _ _) (Nat.le_refl _)⟩
set_option maxHeartbeats 2000000 in
set_option maxRecDepth 100000 in
theorem front_s10 (B q : Nat) (rest : List Int) (w : World) (hR : RdAt w B q rest) (hl : rest.length ≤ 200000000000000) (hm : rest.take 4 = [83, 72, 65, 76]) (h5 : 5 ≤ rest.length) (hv : rest.getD 4 0 = 1) (h10 : rest.length < 10) :
  Calls Tryd.prog 37 #[.pointer (some ⟨q, 0, none⟩)] w fun e w' => e = .returned (.tuple #[.agg #[.int .i64 0, .int .i64 0, .int .i64 0, .slice none 0 0, .slice none 0 0], .int .i64 10]) ∧ w.grownBy w' (some q) := by
 have hqlt := hR.lt
 have kc := Joins.run_convert_bytes_const_at (P := Tryd.prog) (w.alloc (.cells #[.int .i64 0, .int .i64 0, .int .i64 0, .slice none 0 0, .slice none 0 0] 35)) 32 5 #[.int .u8 83, .int .u8 72, .int .u8 65, .int .u8 76] 4 4 (w.heap.size + 1) (by simp) Tryd.underlying32 Tryd.underlying5
 have hR1 : RdAt ((w.alloc (.cells #[.int .i64 0, .int .i64 0, .int .i64 0, .slice none 0 0, .slice none 0 0] 35)).alloc (.cells #[.int .u8 83, .int .u8 72, .int .u8 65, .int .u8 76] 5 (4, 5))) B q rest := (hR.below (below_alloc w _)).below (below_alloc _ _)
 have hmg : Reads ((w.alloc (.cells #[.int .i64 0, .int .i64 0, .int .i64 0, .slice none 0 0, .slice none 0 0] 35)).alloc (.cells #[.int .u8 83, .int .u8 72, .int .u8 65, .int .u8 76] 5 (4, 5))) (some ⟨w.heap.size + 1, 0, none⟩) 4 [83, 72, 65, 76] := reads_lit _ 83 72 65 76 (4, 5) (by decide) (by decide) (by decide) (by decide) _ (by have h9 := heap_alloc_new (w.alloc (.cells #[.int .i64 0, .int .i64 0, .int .i64 0, .slice none 0 0, .slice none 0 0] 35)) (.cells #[.int .u8 83, .int .u8 72, .int .u8 65, .int .u8 76] 5 (4, 5)); rw [World.size_alloc] at h9; exact h9)
 have hrb : ((w.alloc (.cells #[.int .i64 0, .int .i64 0, .int .i64 0, .slice none 0 0, .slice none 0 0] 35)).alloc (.cells #[.int .u8 83, .int .u8 72, .int .u8 65, .int .u8 76] 5 (4, 5))).heap[w.heap.size]? = some (.cells #[.int .i64 0, .int .i64 0, .int .i64 0, .slice none 0 0, .slice none 0 0] 35 (0, 0)) := by
  rw [Below.heap_alloc _ _ _ (by simp)]; exact heap_alloc_new _ _
 have hw1 : w.grownBy ((w.alloc (.cells #[.int .i64 0, .int .i64 0, .int .i64 0, .slice none 0 0, .slice none 0 0] 35)).alloc (.cells #[.int .u8 83, .int .u8 72, .int .u8 65, .int .u8 76] 5 (4, 5))) (some q) := grownBy_trans (World.grownBy_alloc w _ _) (World.grownBy_alloc _ _ _)
 have HR1 : Hid _ := hR1
 have HRB1 : Hid (((w.alloc (.cells #[.int .i64 0, .int .i64 0, .int .i64 0, .slice none 0 0, .slice none 0 0] 35)).alloc (.cells #[.int .u8 83, .int .u8 72, .int .u8 65, .int .u8 76] 5 (4, 5))).heap[w.heap.size]? = some (.cells #[.int .i64 0, .int .i64 0, .int .i64 0, .slice none 0 0, .slice none 0 0] 35 (0, 0))) := hrb
 have HW1 : Hid (w.grownBy ((w.alloc (.cells #[.int .i64 0, .int .i64 0, .int .i64 0, .slice none 0 0, .slice none 0 0] 35)).alloc (.cells #[.int .u8 83, .int .u8 72, .int .u8 65, .int .u8 76] 5 (4, 5))) (some q)) := hw1
 obtain ⟨xb, xo, xc, xh, xr, xl, xm, _⟩ := hR1
 have xg : (w.alloc (.cells #[.int .i64 0, .int .i64 0, .int .i64 0, .slice none 0 0, .slice none 0 0] 35)).heap[q]? = some (.cells #[.slice (some ⟨xb, xo, none⟩) rest.length xc] 97 (0, 0)) := (Below.heap_alloc (w.alloc (.cells #[.int .i64 0, .int .i64 0, .int .i64 0, .slice none 0 0, .slice none 0 0] 35)) (.cells #[.int .u8 83, .int .u8 72, .int .u8 65, .int .u8 76] 5 (4, 5)) q (by simp; omega)).symm.trans xh
 have xcell : (w.alloc (.cells #[.int .i64 0, .int .i64 0, .int .i64 0, .slice none 0 0, .slice none 0 0] 35)).cell? ⟨q, 0, none⟩ = some (.slice (some ⟨xb, xo, none⟩) rest.length xc) := by simp only [World.cell?, xg]; rfl
 obtain ⟨r0, r1, r2, r3, r4⟩ := cells5 hrb
 have rf := frozen5 hrb
 have rf0 := rf 0
 have rf1 := rf 1
 have rf2 := rf 2
 have rf3 := rf 3
 have rf4 := rf 4
 have HXR : Hid _ := xr
 have HMG : Hid _ := hmg
 clear hR hrb hw1 xh xg xr hmg rf
 have hd : decide (rest.take 4 = [83, 72, 65, 76]) = true := decide_eq_true hm
 have hl4 : 4 ≤ rest.length := by have := congrArg List.length hm; simp at this; omega
 clear hm
 obtain ⟨V, hV⟩ : ∃ V, getL (rest.drop 4) 0 1 = V := ⟨_, rfl⟩
 have hV' : rest.getD 4 0 = V := by rw [← hV, getL_drop]; simp [getL]
 have HV : Hid (getL (rest.drop 4) 0 1 = V) := hV
 rw [hV'] at hv
 clear hV hV'
 subst hv
 go_enter Tryd.func37, Tryd.ntmps37
 go_wp2_with (first
  | (go_at_call 65; refine (hasPrefix_any xb xo rest.length xc _ 4 4 rest [83, 72, 65, 76] _ hl xl xm (by omega) HXR.out HMG.out).mono ?_; rintro e u0 ⟨rfl, hu0⟩; rw [hu0, hd]; clear xcell)
  | (go_at_call 66; refine (take_ok B q 4 rest _ HR1.out hl (by omega)).mono ?_; rintro e u2 ⟨_, _, _, rfl, _, _, _, _, rd2, g2⟩
     have HRD2 : Hid (RdAt u2 B q (rest.drop 4)) := rd2
     have HRB2 : Hid (u2.heap[w.heap.size]? = some (.cells #[.int .i64 0, .int .i64 0, .int .i64 0, .slice none 0 0, .slice none 0 0] 35 (0, 0))) := (g2.block w.heap.size (Array.getElem?_eq_some_iff.1 HRB1.out).1 (fun e => by have e' := Option.some.inj e; omega)).trans HRB1.out
     have HW2 : Hid (w.grownBy u2 (some q)) := grownBy_trans HW1.out g2
     clear r0 r1 r2 r3 r4 rf0 rf1 rf2 rf3 rf4
     obtain ⟨r0, r1, r2, r3, r4⟩ := cells5 HRB2.out
     have rf := frozen5 HRB2.out
     have rf0 := rf 0
     have rf1 := rf 1
     have rf2 := rf 2
     have rf3 := rf 3
     have rf4 := rf 4
     clear rf
     clear rd2 g2)
  | (go_at_call 67; refine (num_ok B q 1 (rest.drop 4) _ HRD2.out (by rw [List.length_drop]; omega) (by rw [List.length_drop]; omega) (by omega) (by omega)).mono ?_; rintro e u3 ⟨rfl, rd3, g3⟩; rw [HV.out]; rw [List.drop_drop] at rd3
     have HRD3 : Hid (RdAt u3 B q (rest.drop 5)) := rd3
     have HRB3 : Hid (u3.heap[w.heap.size]? = some (.cells #[.int .i64 0, .int .i64 0, .int .i64 0, .slice none 0 0, .slice none 0 0] 35 (0, 0))) := (g3.block w.heap.size (Array.getElem?_eq_some_iff.1 HRB2.out).1 (fun e => by have e' := Option.some.inj e; omega)).trans HRB2.out
     have HW3 : Hid (w.grownBy u3 (some q)) := grownBy_trans HW2.out g3
     clear r0 r1 r2 r3 r4 rf0 rf1 rf2 rf3 rf4
     obtain ⟨r0, r1, r2, r3, r4⟩ := cells5 HRB3.out
     have rf := frozen5 HRB3.out
     have rf0 := rf 0
     have rf1 := rf 1
     have rf2 := rf 2
     have rf3 := rf 3
     have rf4 := rf 4
     clear rf
     clear rd3 g3)
  | (go_at_call 68; refine (geo_short B q (rest.drop 5) _ HRD3.out (by rw [List.length_drop]; omega) (by rw [List.length_drop]; omega)).mono ?_; rintro e u4 ⟨rfl, g4⟩
     have HRB4 : Hid ((u4.alloc (.cells #[.int .i64 0, .int .i64 0, .int .i64 0] 30)).heap[w.heap.size]? = some (.cells #[.int .i64 0, .int .i64 0, .int .i64 0, .slice none 0 0, .slice none 0 0] 35 (0, 0))) := (Below.heap_alloc _ _ _ (by have h8 := (Array.getElem?_eq_some_iff.1 HRB3.out).1; have h9 := g4.size; omega)).trans ((g4.block w.heap.size (Array.getElem?_eq_some_iff.1 HRB3.out).1 (fun e => by have e' := Option.some.inj e; omega)).trans HRB3.out)
     have HW4 : Hid (w.grownBy (u4.alloc (.cells #[.int .i64 0, .int .i64 0, .int .i64 0] 30)) (some q)) := grownBy_trans (grownBy_trans HW3.out g4) (World.grownBy_alloc _ _ _)
     clear r0 r1 r2 r3 r4 rf0 rf1 rf2 rf3 rf4
     obtain ⟨r0, r1, r2, r3, r4⟩ := cells5 HRB4.out
     have rf := frozen5 HRB4.out
     have rf0 := rf 0
     have rf1 := rf 1
     have rf2 := rf 2
     have rf3 := rf 3
     have rf4 := rf 4
     clear rf
     clear g4))
 have z := blk5_set HRB4.out (.int .i64 0) (.int .i64 0) (.int .i64 0) (.slice none 0 0) (.slice none 0 0)
 obtain ⟨y0, y1, y2, y3, y4⟩ := cells5 z
 exact bodyPost_ret (v := .tuple #[.agg #[.int .i64 0, .int .i64 0, .int .i64 0, .slice none 0 0, .slice none 0 0], .int .i64 10]) (by simp [results, Tryd.results37, go_sem, y0, y1, y2, y3, y4]) rfl ⟨rfl, grown_past HW4.out (grown5 _ w.heap.size _ _ _ _ _) (Nat.le_refl _)⟩
set_option maxHeartbeats 2000000 in
set_option maxRecDepth 100000 in
theorem front_shape (B q : Nat) (rest : List Int) (w : World) (hR : RdAt w B q rest) (hl : rest.length ≤ 200000000000000) (hm : rest.take 4 = [83, 72, 65, 76]) (h5 : 10 ≤ rest.length) (hv : rest.getD 4 0 = 1) (b p s : Nat) (hb : rest.getD 5 0 + 256 * rest.getD 6 0 = (b : Int)) (hp : rest.getD 7 0 + 256 * rest.getD 8 0 = (p : Int)) (hs : rest.getD 9 0 = (s : Int)) (hf : Fits (b : Int) (p : Int) (s : Int) = false) :
  Calls Tryd.prog 37 #[.pointer (some ⟨q, 0, none⟩)] w fun e w' => e = .returned (.tuple #[.agg #[.int .i64 0, .int .i64 0, .int .i64 0, .slice none 0 0, .slice none 0 0], .int .i64 40]) ∧ w.grownBy w' (some q) := by
 have hqlt := hR.lt
 have kc := Joins.run_convert_bytes_const_at (P := Tryd.prog) (w.alloc (.cells #[.int .i64 0, .int .i64 0, .int .i64 0, .slice none 0 0, .slice none 0 0] 35)) 32 5 #[.int .u8 83, .int .u8 72, .int .u8 65, .int .u8 76] 4 4 (w.heap.size + 1) (by simp) Tryd.underlying32 Tryd.underlying5
 have hR1 : RdAt ((w.alloc (.cells #[.int .i64 0, .int .i64 0, .int .i64 0, .slice none 0 0, .slice none 0 0] 35)).alloc (.cells #[.int .u8 83, .int .u8 72, .int .u8 65, .int .u8 76] 5 (4, 5))) B q rest := (hR.below (below_alloc w _)).below (below_alloc _ _)
 have hmg : Reads ((w.alloc (.cells #[.int .i64 0, .int .i64 0, .int .i64 0, .slice none 0 0, .slice none 0 0] 35)).alloc (.cells #[.int .u8 83, .int .u8 72, .int .u8 65, .int .u8 76] 5 (4, 5))) (some ⟨w.heap.size + 1, 0, none⟩) 4 [83, 72, 65, 76] := reads_lit _ 83 72 65 76 (4, 5) (by decide) (by decide) (by decide) (by decide) _ (by have h9 := heap_alloc_new (w.alloc (.cells #[.int .i64 0, .int .i64 0, .int .i64 0, .slice none 0 0, .slice none 0 0] 35)) (.cells #[.int .u8 83, .int .u8 72, .int .u8 65, .int .u8 76] 5 (4, 5)); rw [World.size_alloc] at h9; exact h9)
 have hrb : ((w.alloc (.cells #[.int .i64 0, .int .i64 0, .int .i64 0, .slice none 0 0, .slice none 0 0] 35)).alloc (.cells #[.int .u8 83, .int .u8 72, .int .u8 65, .int .u8 76] 5 (4, 5))).heap[w.heap.size]? = some (.cells #[.int .i64 0, .int .i64 0, .int .i64 0, .slice none 0 0, .slice none 0 0] 35 (0, 0)) := by
  rw [Below.heap_alloc _ _ _ (by simp)]; exact heap_alloc_new _ _
 have hw1 : w.grownBy ((w.alloc (.cells #[.int .i64 0, .int .i64 0, .int .i64 0, .slice none 0 0, .slice none 0 0] 35)).alloc (.cells #[.int .u8 83, .int .u8 72, .int .u8 65, .int .u8 76] 5 (4, 5))) (some q) := grownBy_trans (World.grownBy_alloc w _ _) (World.grownBy_alloc _ _ _)
 have HR1 : Hid _ := hR1
 have HRB1 : Hid (((w.alloc (.cells #[.int .i64 0, .int .i64 0, .int .i64 0, .slice none 0 0, .slice none 0 0] 35)).alloc (.cells #[.int .u8 83, .int .u8 72, .int .u8 65, .int .u8 76] 5 (4, 5))).heap[w.heap.size]? = some (.cells #[.int .i64 0, .int .i64 0, .int .i64 0, .slice none 0 0, .slice none 0 0] 35 (0, 0))) := hrb
 have HW1 : Hid (w.grownBy ((w.alloc (.cells #[.int .i64 0, .int .i64 0, .int .i64 0, .slice none 0 0, .slice none 0 0] 35)).alloc (.cells #[.int .u8 83, .int .u8 72, .int .u8 65, .int .u8 76] 5 (4, 5))) (some q)) := hw1
 obtain ⟨xb, xo, xc, xh, xr, xl, xm, _⟩ := hR1
 have xg : (w.alloc (.cells #[.int .i64 0, .int .i64 0, .int .i64 0, .slice none 0 0, .slice none 0 0] 35)).heap[q]? = some (.cells #[.slice (some ⟨xb, xo, none⟩) rest.length xc] 97 (0, 0)) := (Below.heap_alloc (w.alloc (.cells #[.int .i64 0, .int .i64 0, .int .i64 0, .slice none 0 0, .slice none 0 0] 35)) (.cells #[.int .u8 83, .int .u8 72, .int .u8 65, .int .u8 76] 5 (4, 5)) q (by simp; omega)).symm.trans xh
 have xcell : (w.alloc (.cells #[.int .i64 0, .int .i64 0, .int .i64 0, .slice none 0 0, .slice none 0 0] 35)).cell? ⟨q, 0, none⟩ = some (.slice (some ⟨xb, xo, none⟩) rest.length xc) := by simp only [World.cell?, xg]; rfl
 obtain ⟨r0, r1, r2, r3, r4⟩ := cells5 hrb
 have rf := frozen5 hrb
 have rf0 := rf 0
 have rf1 := rf 1
 have rf2 := rf 2
 have rf3 := rf 3
 have rf4 := rf 4
 have HXR : Hid _ := xr
 have HMG : Hid _ := hmg
 clear hR hrb hw1 xh xg xr hmg rf
 have hd : decide (rest.take 4 = [83, 72, 65, 76]) = true := decide_eq_true hm
 have hl4 : 4 ≤ rest.length := by have := congrArg List.length hm; simp at this; omega
 clear hm
 obtain ⟨V, hV⟩ : ∃ V, getL (rest.drop 4) 0 1 = V := ⟨_, rfl⟩
 have hV' : rest.getD 4 0 = V := by rw [← hV, getL_drop]; simp [getL]
 have HV : Hid (getL (rest.drop 4) 0 1 = V) := hV
 rw [hV'] at hv
 clear hV hV'
 subst hv
 obtain ⟨ge0, ge1, ge2⟩ := geo_getD rest
 rw [hb] at ge0
 rw [hp] at ge1
 rw [hs] at ge2
 have HG0 : Hid (geoB (rest.drop 5) = (b : Int)) := ge0
 have HG1 : Hid (geoP (rest.drop 5) = (p : Int)) := ge1
 have HG2 : Hid (geoS (rest.drop 5) = (s : Int)) := ge2
 have HFI : Hid (Fits (b : Int) (p : Int) (s : Int) = false) := hf
 have HGS : Hid (spE (b : Int) (p : Int) (s : Int) = 40) := by unfold Hid spE; rw [hf]; rfl
 clear ge0 ge1 ge2 hb hp hs
 clear hf
 go_enter Tryd.func37, Tryd.ntmps37
 go_wp2_with (first
  | (go_at_call 65; refine (hasPrefix_any xb xo rest.length xc _ 4 4 rest [83, 72, 65, 76] _ hl xl xm (by omega) HXR.out HMG.out).mono ?_; rintro e u0 ⟨rfl, hu0⟩; rw [hu0, hd]; clear xcell)
  | (go_at_call 66; refine (take_ok B q 4 rest _ HR1.out hl (by omega)).mono ?_; rintro e u2 ⟨_, _, _, rfl, _, _, _, _, rd2, g2⟩
     have HRD2 : Hid (RdAt u2 B q (rest.drop 4)) := rd2
     have HRB2 : Hid (u2.heap[w.heap.size]? = some (.cells #[.int .i64 0, .int .i64 0, .int .i64 0, .slice none 0 0, .slice none 0 0] 35 (0, 0))) := (g2.block w.heap.size (Array.getElem?_eq_some_iff.1 HRB1.out).1 (fun e => by have e' := Option.some.inj e; omega)).trans HRB1.out
     have HW2 : Hid (w.grownBy u2 (some q)) := grownBy_trans HW1.out g2
     clear r0 r1 r2 r3 r4 rf0 rf1 rf2 rf3 rf4
     obtain ⟨r0, r1, r2, r3, r4⟩ := cells5 HRB2.out
     have rf := frozen5 HRB2.out
     have rf0 := rf 0
     have rf1 := rf 1
     have rf2 := rf 2
     have rf3 := rf 3
     have rf4 := rf 4
     clear rf
     clear rd2 g2)
  | (go_at_call 67; refine (num_ok B q 1 (rest.drop 4) _ HRD2.out (by rw [List.length_drop]; omega) (by rw [List.length_drop]; omega) (by omega) (by omega)).mono ?_; rintro e u3 ⟨rfl, rd3, g3⟩; rw [HV.out]; rw [List.drop_drop] at rd3
     have HRD3 : Hid (RdAt u3 B q (rest.drop 5)) := rd3
     have HRB3 : Hid (u3.heap[w.heap.size]? = some (.cells #[.int .i64 0, .int .i64 0, .int .i64 0, .slice none 0 0, .slice none 0 0] 35 (0, 0))) := (g3.block w.heap.size (Array.getElem?_eq_some_iff.1 HRB2.out).1 (fun e => by have e' := Option.some.inj e; omega)).trans HRB2.out
     have HW3 : Hid (w.grownBy u3 (some q)) := grownBy_trans HW2.out g3
     clear r0 r1 r2 r3 r4 rf0 rf1 rf2 rf3 rf4
     obtain ⟨r0, r1, r2, r3, r4⟩ := cells5 HRB3.out
     have rf := frozen5 HRB3.out
     have rf0 := rf 0
     have rf1 := rf 1
     have rf2 := rf 2
     have rf3 := rf 3
     have rf4 := rf 4
     clear rf
     clear rd3 g3)
  | (go_at_call 68; refine (geo_ok B q (rest.drop 5) _ HRD3.out (by rw [List.length_drop]; omega) (by rw [List.length_drop]; omega)).mono ?_; rintro e u4 ⟨rfl, rd4, g4⟩; rw [HG0.out, HG1.out, HG2.out, HFI.out, if_neg (by simp), HGS.out]; rw [List.drop_drop] at rd4
     have HRD4 : Hid (RdAt (u4.alloc (.cells #[.int .i64 0, .int .i64 0, .int .i64 0] 30)) B q (rest.drop 10)) := rd4.below (below_alloc u4 _)
     have HGB4 : Hid ((u4.alloc (.cells #[.int .i64 0, .int .i64 0, .int .i64 0] 30)).heap[u4.heap.size]? = some (.cells #[.int .i64 0, .int .i64 0, .int .i64 0] 30 (0, 0))) := heap_alloc_new u4 _
     have HS4 : Hid (w.heap.size < u4.heap.size) := by have h8 := (Array.getElem?_eq_some_iff.1 HRB3.out).1; have h9 := g4.size; unfold Hid; omega
     have HRB4 : Hid ((u4.alloc (.cells #[.int .i64 0, .int .i64 0, .int .i64 0] 30)).heap[w.heap.size]? = some (.cells #[.int .i64 0, .int .i64 0, .int .i64 0, .slice none 0 0, .slice none 0 0] 35 (0, 0))) := (Below.heap_alloc _ _ _ (by have h8 := (Array.getElem?_eq_some_iff.1 HRB3.out).1; have h9 := g4.size; omega)).trans ((g4.block w.heap.size (Array.getElem?_eq_some_iff.1 HRB3.out).1 (fun e => by have e' := Option.some.inj e; omega)).trans HRB3.out)
     have HW4 : Hid (w.grownBy (u4.alloc (.cells #[.int .i64 0, .int .i64 0, .int .i64 0] 30)) (some q)) := grownBy_trans (grownBy_trans HW3.out g4) (World.grownBy_alloc _ _ _)
     clear r0 r1 r2 r3 r4 rf0 rf1 rf2 rf3 rf4
     obtain ⟨r0, r1, r2, r3, r4⟩ := cells5 HRB4.out
     have rf := frozen5 HRB4.out
     have rf0 := rf 0
     have rf1 := rf 1
     have rf2 := rf 2
     have rf3 := rf 3
     have rf4 := rf 4
     clear rf
     clear g4 rd4))
 have z := blk5_set HRB4.out (.int .i64 0) (.int .i64 0) (.int .i64 0) (.slice none 0 0) (.slice none 0 0)
 obtain ⟨y0, y1, y2, y3, y4⟩ := cells5 z
 exact bodyPost_ret (v := .tuple #[.agg #[.int .i64 0, .int .i64 0, .int .i64 0, .slice none 0 0, .slice none 0 0], .int .i64 40]) (by simp [results, Tryd.results37, go_sem, y0, y1, y2, y3, y4]) rfl ⟨rfl, grown_past HW4.out (grown5 _ w.heap.size _ _ _ _ _) (Nat.le_refl _)⟩
set_option maxHeartbeats 2000000 in
set_option maxRecDepth 100000 in
theorem front_sm (B q : Nat) (rest : List Int) (w : World) (hR : RdAt w B q rest) (hl : rest.length ≤ 200000000000000) (hm : rest.take 4 = [83, 72, 65, 76]) (h5 : 10 ≤ rest.length) (hv : rest.getD 4 0 = 1) (b p s : Nat) (hb : rest.getD 5 0 + 256 * rest.getD 6 0 = (b : Int)) (hp : rest.getD 7 0 + 256 * rest.getD 8 0 = (p : Int)) (hs : rest.getD 9 0 = (s : Int)) (hf : Fits (b : Int) (p : Int) (s : Int) = true) (hm10 : rest.length < 10 + (b + 7) / 8) :
  Calls Tryd.prog 37 #[.pointer (some ⟨q, 0, none⟩)] w fun e w' => e = .returned (.tuple #[.agg #[.int .i64 0, .int .i64 0, .int .i64 0, .slice none 0 0, .slice none 0 0], .int .i64 10]) ∧ w.grownBy w' (some q) := by
 have hqlt := hR.lt
 have kc := Joins.run_convert_bytes_const_at (P := Tryd.prog) (w.alloc (.cells #[.int .i64 0, .int .i64 0, .int .i64 0, .slice none 0 0, .slice none 0 0] 35)) 32 5 #[.int .u8 83, .int .u8 72, .int .u8 65, .int .u8 76] 4 4 (w.heap.size + 1) (by simp) Tryd.underlying32 Tryd.underlying5
 have hR1 : RdAt ((w.alloc (.cells #[.int .i64 0, .int .i64 0, .int .i64 0, .slice none 0 0, .slice none 0 0] 35)).alloc (.cells #[.int .u8 83, .int .u8 72, .int .u8 65, .int .u8 76] 5 (4, 5))) B q rest := (hR.below (below_alloc w _)).below (below_alloc _ _)
 have hmg : Reads ((w.alloc (.cells #[.int .i64 0, .int .i64 0, .int .i64 0, .slice none 0 0, .slice none 0 0] 35)).alloc (.cells #[.int .u8 83, .int .u8 72, .int .u8 65, .int .u8 76] 5 (4, 5))) (some ⟨w.heap.size + 1, 0, none⟩) 4 [83, 72, 65, 76] := reads_lit _ 83 72 65 76 (4, 5) (by decide) (by decide) (by decide) (by decide) _ (by have h9 := heap_alloc_new (w.alloc (.cells #[.int .i64 0, .int .i64 0, .int .i64 0, .slice none 0 0, .slice none 0 0] 35)) (.cells #[.int .u8 83, .int .u8 72, .int .u8 65, .int .u8 76] 5 (4, 5)); rw [World.size_alloc] at h9; exact h9)
 have hrb : ((w.alloc (.cells #[.int .i64 0, .int .i64 0, .int .i64 0, .slice none 0 0, .slice none 0 0] 35)).alloc (.cells #[.int .u8 83, .int .u8 72, .int .u8 65, .int .u8 76] 5 (4, 5))).heap[w.heap.size]? = some (.cells #[.int .i64 0, .int .i64 0, .int .i64 0, .slice none 0 0, .slice none 0 0] 35 (0, 0)) := by
  rw [Below.heap_alloc _ _ _ (by simp)]; exact heap_alloc_new _ _
 have hw1 : w.grownBy ((w.alloc (.cells #[.int .i64 0, .int .i64 0, .int .i64 0, .slice none 0 0, .slice none 0 0] 35)).alloc (.cells #[.int .u8 83, .int .u8 72, .int .u8 65, .int .u8 76] 5 (4, 5))) (some q) := grownBy_trans (World.grownBy_alloc w _ _) (World.grownBy_alloc _ _ _)
 have HR1 : Hid _ := hR1
 have HRB1 : Hid (((w.alloc (.cells #[.int .i64 0, .int .i64 0, .int .i64 0, .slice none 0 0, .slice none 0 0] 35)).alloc (.cells #[.int .u8 83, .int .u8 72, .int .u8 65, .int .u8 76] 5 (4, 5))).heap[w.heap.size]? = some (.cells #[.int .i64 0, .int .i64 0, .int .i64 0, .slice none 0 0, .slice none 0 0] 35 (0, 0))) := hrb
 have HW1 : Hid (w.grownBy ((w.alloc (.cells #[.int .i64 0, .int .i64 0, .int .i64 0, .slice none 0 0, .slice none 0 0] 35)).alloc (.cells #[.int .u8 83, .int .u8 72, .int .u8 65, .int .u8 76] 5 (4, 5))) (some q)) := hw1
 obtain ⟨xb, xo, xc, xh, xr, xl, xm, _⟩ := hR1
 have xg : (w.alloc (.cells #[.int .i64 0, .int .i64 0, .int .i64 0, .slice none 0 0, .slice none 0 0] 35)).heap[q]? = some (.cells #[.slice (some ⟨xb, xo, none⟩) rest.length xc] 97 (0, 0)) := (Below.heap_alloc (w.alloc (.cells #[.int .i64 0, .int .i64 0, .int .i64 0, .slice none 0 0, .slice none 0 0] 35)) (.cells #[.int .u8 83, .int .u8 72, .int .u8 65, .int .u8 76] 5 (4, 5)) q (by simp; omega)).symm.trans xh
 have xcell : (w.alloc (.cells #[.int .i64 0, .int .i64 0, .int .i64 0, .slice none 0 0, .slice none 0 0] 35)).cell? ⟨q, 0, none⟩ = some (.slice (some ⟨xb, xo, none⟩) rest.length xc) := by simp only [World.cell?, xg]; rfl
 obtain ⟨r0, r1, r2, r3, r4⟩ := cells5 hrb
 have rf := frozen5 hrb
 have rf0 := rf 0
 have rf1 := rf 1
 have rf2 := rf 2
 have rf3 := rf 3
 have rf4 := rf 4
 have HXR : Hid _ := xr
 have HMG : Hid _ := hmg
 clear hR hrb hw1 xh xg xr hmg rf
 have hd : decide (rest.take 4 = [83, 72, 65, 76]) = true := decide_eq_true hm
 have hl4 : 4 ≤ rest.length := by have := congrArg List.length hm; simp at this; omega
 clear hm
 obtain ⟨V, hV⟩ : ∃ V, getL (rest.drop 4) 0 1 = V := ⟨_, rfl⟩
 have hV' : rest.getD 4 0 = V := by rw [← hV, getL_drop]; simp [getL]
 have HV : Hid (getL (rest.drop 4) 0 1 = V) := hV
 rw [hV'] at hv
 clear hV hV'
 subst hv
 obtain ⟨ge0, ge1, ge2⟩ := geo_getD rest
 rw [hb] at ge0
 rw [hp] at ge1
 rw [hs] at ge2
 have HG0 : Hid (geoB (rest.drop 5) = (b : Int)) := ge0
 have HG1 : Hid (geoP (rest.drop 5) = (p : Int)) := ge1
 have HG2 : Hid (geoS (rest.drop 5) = (s : Int)) := ge2
 have HFI : Hid (Fits (b : Int) (p : Int) (s : Int) = true) := hf
 have HGS : Hid (spE (b : Int) (p : Int) (s : Int) = 0) := by unfold Hid spE; rw [hf]; rfl
 clear ge0 ge1 ge2 hb hp hs
 obtain ⟨w1, w2, w3, w4, w5, w6, w7⟩ := fits_nat hf
 clear hf
 go_enter Tryd.func37, Tryd.ntmps37
 go_wp2_with (first
  | (go_at_call 65; refine (hasPrefix_any xb xo rest.length xc _ 4 4 rest [83, 72, 65, 76] _ hl xl xm (by omega) HXR.out HMG.out).mono ?_; rintro e u0 ⟨rfl, hu0⟩; rw [hu0, hd]; clear xcell)
  | (go_at_call 66; refine (take_ok B q 4 rest _ HR1.out hl (by omega)).mono ?_; rintro e u2 ⟨_, _, _, rfl, _, _, _, _, rd2, g2⟩
     have HRD2 : Hid (RdAt u2 B q (rest.drop 4)) := rd2
     have HRB2 : Hid (u2.heap[w.heap.size]? = some (.cells #[.int .i64 0, .int .i64 0, .int .i64 0, .slice none 0 0, .slice none 0 0] 35 (0, 0))) := (g2.block w.heap.size (Array.getElem?_eq_some_iff.1 HRB1.out).1 (fun e => by have e' := Option.some.inj e; omega)).trans HRB1.out
     have HW2 : Hid (w.grownBy u2 (some q)) := grownBy_trans HW1.out g2
     clear r0 r1 r2 r3 r4 rf0 rf1 rf2 rf3 rf4
     obtain ⟨r0, r1, r2, r3, r4⟩ := cells5 HRB2.out
     have rf := frozen5 HRB2.out
     have rf0 := rf 0
     have rf1 := rf 1
     have rf2 := rf 2
     have rf3 := rf 3
     have rf4 := rf 4
     clear rf
     clear rd2 g2)
  | (go_at_call 67; refine (num_ok B q 1 (rest.drop 4) _ HRD2.out (by rw [List.length_drop]; omega) (by rw [List.length_drop]; omega) (by omega) (by omega)).mono ?_; rintro e u3 ⟨rfl, rd3, g3⟩; rw [HV.out]; rw [List.drop_drop] at rd3
     have HRD3 : Hid (RdAt u3 B q (rest.drop 5)) := rd3
     have HRB3 : Hid (u3.heap[w.heap.size]? = some (.cells #[.int .i64 0, .int .i64 0, .int .i64 0, .slice none 0 0, .slice none 0 0] 35 (0, 0))) := (g3.block w.heap.size (Array.getElem?_eq_some_iff.1 HRB2.out).1 (fun e => by have e' := Option.some.inj e; omega)).trans HRB2.out
     have HW3 : Hid (w.grownBy u3 (some q)) := grownBy_trans HW2.out g3
     clear r0 r1 r2 r3 r4 rf0 rf1 rf2 rf3 rf4
     obtain ⟨r0, r1, r2, r3, r4⟩ := cells5 HRB3.out
     have rf := frozen5 HRB3.out
     have rf0 := rf 0
     have rf1 := rf 1
     have rf2 := rf 2
     have rf3 := rf 3
     have rf4 := rf 4
     clear rf
     clear rd3 g3)
  | (go_at_call 68; refine (geo_ok B q (rest.drop 5) _ HRD3.out (by rw [List.length_drop]; omega) (by rw [List.length_drop]; omega)).mono ?_; rintro e u4 ⟨rfl, rd4, g4⟩; rw [HG0.out, HG1.out, HG2.out, HFI.out, if_pos rfl, HGS.out]; rw [List.drop_drop] at rd4
     have HRD4 : Hid (RdAt (u4.alloc (.cells #[.int .i64 (b : Int), .int .i64 (p : Int), .int .i64 (s : Int)] 30)) B q (rest.drop 10)) := rd4.below (below_alloc u4 _)
     have HGB4 : Hid ((u4.alloc (.cells #[.int .i64 (b : Int), .int .i64 (p : Int), .int .i64 (s : Int)] 30)).heap[u4.heap.size]? = some (.cells #[.int .i64 (b : Int), .int .i64 (p : Int), .int .i64 (s : Int)] 30 (0, 0))) := heap_alloc_new u4 _
     have HS4 : Hid (w.heap.size < u4.heap.size) := by have h8 := (Array.getElem?_eq_some_iff.1 HRB3.out).1; have h9 := g4.size; unfold Hid; omega
     have HRB4 : Hid ((u4.alloc (.cells #[.int .i64 (b : Int), .int .i64 (p : Int), .int .i64 (s : Int)] 30)).heap[w.heap.size]? = some (.cells #[.int .i64 0, .int .i64 0, .int .i64 0, .slice none 0 0, .slice none 0 0] 35 (0, 0))) := (Below.heap_alloc _ _ _ (by have h8 := (Array.getElem?_eq_some_iff.1 HRB3.out).1; have h9 := g4.size; omega)).trans ((g4.block w.heap.size (Array.getElem?_eq_some_iff.1 HRB3.out).1 (fun e => by have e' := Option.some.inj e; omega)).trans HRB3.out)
     have HW4 : Hid (w.grownBy (u4.alloc (.cells #[.int .i64 (b : Int), .int .i64 (p : Int), .int .i64 (s : Int)] 30)) (some q)) := grownBy_trans (grownBy_trans HW3.out g4) (World.grownBy_alloc _ _ _)
     clear r0 r1 r2 r3 r4 rf0 rf1 rf2 rf3 rf4
     obtain ⟨r0, r1, r2, r3, r4⟩ := cells5 HRB4.out
     have rf := frozen5 HRB4.out
     have rf0 := rf 0
     have rf1 := rf 1
     have rf2 := rf 2
     have rf3 := rf 3
     have rf4 := rf 4
     clear rf
     clear g4 rd4)
  | (go_at_call 69; refine (marks_short B q b (rest.drop 10) _ HRD4.out (by rw [List.length_drop]; omega) (by rw [List.length_drop]; omega) (by omega)).mono ?_; rintro e u5 ⟨rfl, hu5⟩; rw [hu5]))
 have z := blk5_set HRB4.out (.int .i64 0) (.int .i64 0) (.int .i64 0) (.slice none 0 0) (.slice none 0 0)
 obtain ⟨y0, y1, y2, y3, y4⟩ := cells5 z
 exact bodyPost_ret (v := .tuple #[.agg #[.int .i64 0, .int .i64 0, .int .i64 0, .slice none 0 0, .slice none 0 0], .int .i64 10]) (by simp [results, Tryd.results37, go_sem, y0, y1, y2, y3, y4]) rfl ⟨rfl, grown_past HW4.out (grown5 _ w.heap.size _ _ _ _ _) (Nat.le_refl _)⟩
set_option maxHeartbeats 2000000 in
set_option maxRecDepth 100000 in
theorem front_mk (B q : Nat) (rest : List Int) (w : World) (hR : RdAt w B q rest) (hl : rest.length ≤ 200000000000000) (hm : rest.take 4 = [83, 72, 65, 76]) (h5 : 10 ≤ rest.length) (hv : rest.getD 4 0 = 1) (b p s : Nat) (hb : rest.getD 5 0 + 256 * rest.getD 6 0 = (b : Int)) (hp : rest.getD 7 0 + 256 * rest.getD 8 0 = (p : Int)) (hs : rest.getD 9 0 = (s : Int)) (hf : Fits (b : Int) (p : Int) (s : Int) = true) (hm10 : 10 + (b + 7) / 8 ≤ rest.length) (hk : bitsOf (unbits b ((rest.drop 10).take ((b + 7) / 8))) ≠ (rest.drop 10).take ((b + 7) / 8)) :
  Calls Tryd.prog 37 #[.pointer (some ⟨q, 0, none⟩)] w fun e w' => e = .returned (.tuple #[.agg #[.int .i64 0, .int .i64 0, .int .i64 0, .slice none 0 0, .slice none 0 0], .int .i64 47]) ∧ w.grownBy w' (some q) := by
 have hqlt := hR.lt
 have kc := Joins.run_convert_bytes_const_at (P := Tryd.prog) (w.alloc (.cells #[.int .i64 0, .int .i64 0, .int .i64 0, .slice none 0 0, .slice none 0 0] 35)) 32 5 #[.int .u8 83, .int .u8 72, .int .u8 65, .int .u8 76] 4 4 (w.heap.size + 1) (by simp) Tryd.underlying32 Tryd.underlying5
 have hR1 : RdAt ((w.alloc (.cells #[.int .i64 0, .int .i64 0, .int .i64 0, .slice none 0 0, .slice none 0 0] 35)).alloc (.cells #[.int .u8 83, .int .u8 72, .int .u8 65, .int .u8 76] 5 (4, 5))) B q rest := (hR.below (below_alloc w _)).below (below_alloc _ _)
 have hmg : Reads ((w.alloc (.cells #[.int .i64 0, .int .i64 0, .int .i64 0, .slice none 0 0, .slice none 0 0] 35)).alloc (.cells #[.int .u8 83, .int .u8 72, .int .u8 65, .int .u8 76] 5 (4, 5))) (some ⟨w.heap.size + 1, 0, none⟩) 4 [83, 72, 65, 76] := reads_lit _ 83 72 65 76 (4, 5) (by decide) (by decide) (by decide) (by decide) _ (by have h9 := heap_alloc_new (w.alloc (.cells #[.int .i64 0, .int .i64 0, .int .i64 0, .slice none 0 0, .slice none 0 0] 35)) (.cells #[.int .u8 83, .int .u8 72, .int .u8 65, .int .u8 76] 5 (4, 5)); rw [World.size_alloc] at h9; exact h9)
 have hrb : ((w.alloc (.cells #[.int .i64 0, .int .i64 0, .int .i64 0, .slice none 0 0, .slice none 0 0] 35)).alloc (.cells #[.int .u8 83, .int .u8 72, .int .u8 65, .int .u8 76] 5 (4, 5))).heap[w.heap.size]? = some (.cells #[.int .i64 0, .int .i64 0, .int .i64 0, .slice none 0 0, .slice none 0 0] 35 (0, 0)) := by
  rw [Below.heap_alloc _ _ _ (by simp)]; exact heap_alloc_new _ _
 have hw1 : w.grownBy ((w.alloc (.cells #[.int .i64 0, .int .i64 0, .int .i64 0, .slice none 0 0, .slice none 0 0] 35)).alloc (.cells #[.int .u8 83, .int .u8 72, .int .u8 65, .int .u8 76] 5 (4, 5))) (some q) := grownBy_trans (World.grownBy_alloc w _ _) (World.grownBy_alloc _ _ _)
 have HR1 : Hid _ := hR1
 have HRB1 : Hid (((w.alloc (.cells #[.int .i64 0, .int .i64 0, .int .i64 0, .slice none 0 0, .slice none 0 0] 35)).alloc (.cells #[.int .u8 83, .int .u8 72, .int .u8 65, .int .u8 76] 5 (4, 5))).heap[w.heap.size]? = some (.cells #[.int .i64 0, .int .i64 0, .int .i64 0, .slice none 0 0, .slice none 0 0] 35 (0, 0))) := hrb
 have HW1 : Hid (w.grownBy ((w.alloc (.cells #[.int .i64 0, .int .i64 0, .int .i64 0, .slice none 0 0, .slice none 0 0] 35)).alloc (.cells #[.int .u8 83, .int .u8 72, .int .u8 65, .int .u8 76] 5 (4, 5))) (some q)) := hw1
 obtain ⟨xb, xo, xc, xh, xr, xl, xm, _⟩ := hR1
 have xg : (w.alloc (.cells #[.int .i64 0, .int .i64 0, .int .i64 0, .slice none 0 0, .slice none 0 0] 35)).heap[q]? = some (.cells #[.slice (some ⟨xb, xo, none⟩) rest.length xc] 97 (0, 0)) := (Below.heap_alloc (w.alloc (.cells #[.int .i64 0, .int .i64 0, .int .i64 0, .slice none 0 0, .slice none 0 0] 35)) (.cells #[.int .u8 83, .int .u8 72, .int .u8 65, .int .u8 76] 5 (4, 5)) q (by simp; omega)).symm.trans xh
 have xcell : (w.alloc (.cells #[.int .i64 0, .int .i64 0, .int .i64 0, .slice none 0 0, .slice none 0 0] 35)).cell? ⟨q, 0, none⟩ = some (.slice (some ⟨xb, xo, none⟩) rest.length xc) := by simp only [World.cell?, xg]; rfl
 obtain ⟨r0, r1, r2, r3, r4⟩ := cells5 hrb
 have rf := frozen5 hrb
 have rf0 := rf 0
 have rf1 := rf 1
 have rf2 := rf 2
 have rf3 := rf 3
 have rf4 := rf 4
 have HXR : Hid _ := xr
 have HMG : Hid _ := hmg
 clear hR hrb hw1 xh xg xr hmg rf
 have hd : decide (rest.take 4 = [83, 72, 65, 76]) = true := decide_eq_true hm
 have hl4 : 4 ≤ rest.length := by have := congrArg List.length hm; simp at this; omega
 clear hm
 obtain ⟨V, hV⟩ : ∃ V, getL (rest.drop 4) 0 1 = V := ⟨_, rfl⟩
 have hV' : rest.getD 4 0 = V := by rw [← hV, getL_drop]; simp [getL]
 have HV : Hid (getL (rest.drop 4) 0 1 = V) := hV
 rw [hV'] at hv
 clear hV hV'
 subst hv
 obtain ⟨ge0, ge1, ge2⟩ := geo_getD rest
 rw [hb] at ge0
 rw [hp] at ge1
 rw [hs] at ge2
 have HG0 : Hid (geoB (rest.drop 5) = (b : Int)) := ge0
 have HG1 : Hid (geoP (rest.drop 5) = (p : Int)) := ge1
 have HG2 : Hid (geoS (rest.drop 5) = (s : Int)) := ge2
 have HFI : Hid (Fits (b : Int) (p : Int) (s : Int) = true) := hf
 have HGS : Hid (spE (b : Int) (p : Int) (s : Int) = 0) := by unfold Hid spE; rw [hf]; rfl
 clear ge0 ge1 ge2 hb hp hs
 obtain ⟨w1, w2, w3, w4, w5, w6, w7⟩ := fits_nat hf
 clear hf
 have HMK : Hid _ := hk
 clear hk
 go_enter Tryd.func37, Tryd.ntmps37
 go_wp2_with (first
  | (go_at_call 65; refine (hasPrefix_any xb xo rest.length xc _ 4 4 rest [83, 72, 65, 76] _ hl xl xm (by omega) HXR.out HMG.out).mono ?_; rintro e u0 ⟨rfl, hu0⟩; rw [hu0, hd]; clear xcell)
  | (go_at_call 66; refine (take_ok B q 4 rest _ HR1.out hl (by omega)).mono ?_; rintro e u2 ⟨_, _, _, rfl, _, _, _, _, rd2, g2⟩
     have HRD2 : Hid (RdAt u2 B q (rest.drop 4)) := rd2
     have HRB2 : Hid (u2.heap[w.heap.size]? = some (.cells #[.int .i64 0, .int .i64 0, .int .i64 0, .slice none 0 0, .slice none 0 0] 35 (0, 0))) := (g2.block w.heap.size (Array.getElem?_eq_some_iff.1 HRB1.out).1 (fun e => by have e' := Option.some.inj e; omega)).trans HRB1.out
     have HW2 : Hid (w.grownBy u2 (some q)) := grownBy_trans HW1.out g2
     clear r0 r1 r2 r3 r4 rf0 rf1 rf2 rf3 rf4
     obtain ⟨r0, r1, r2, r3, r4⟩ := cells5 HRB2.out
     have rf := frozen5 HRB2.out
     have rf0 := rf 0
     have rf1 := rf 1
     have rf2 := rf 2
     have rf3 := rf 3
     have rf4 := rf 4
     clear rf
     clear rd2 g2)
  | (go_at_call 67; refine (num_ok B q 1 (rest.drop 4) _ HRD2.out (by rw [List.length_drop]; omega) (by rw [List.length_drop]; omega) (by omega) (by omega)).mono ?_; rintro e u3 ⟨rfl, rd3, g3⟩; rw [HV.out]; rw [List.drop_drop] at rd3
     have HRD3 : Hid (RdAt u3 B q (rest.drop 5)) := rd3
     have HRB3 : Hid (u3.heap[w.heap.size]? = some (.cells #[.int .i64 0, .int .i64 0, .int .i64 0, .slice none 0 0, .slice none 0 0] 35 (0, 0))) := (g3.block w.heap.size (Array.getElem?_eq_some_iff.1 HRB2.out).1 (fun e => by have e' := Option.some.inj e; omega)).trans HRB2.out
     have HW3 : Hid (w.grownBy u3 (some q)) := grownBy_trans HW2.out g3
     clear r0 r1 r2 r3 r4 rf0 rf1 rf2 rf3 rf4
     obtain ⟨r0, r1, r2, r3, r4⟩ := cells5 HRB3.out
     have rf := frozen5 HRB3.out
     have rf0 := rf 0
     have rf1 := rf 1
     have rf2 := rf 2
     have rf3 := rf 3
     have rf4 := rf 4
     clear rf
     clear rd3 g3)
  | (go_at_call 68; refine (geo_ok B q (rest.drop 5) _ HRD3.out (by rw [List.length_drop]; omega) (by rw [List.length_drop]; omega)).mono ?_; rintro e u4 ⟨rfl, rd4, g4⟩; rw [HG0.out, HG1.out, HG2.out, HFI.out, if_pos rfl, HGS.out]; rw [List.drop_drop] at rd4
     have HRD4 : Hid (RdAt (u4.alloc (.cells #[.int .i64 (b : Int), .int .i64 (p : Int), .int .i64 (s : Int)] 30)) B q (rest.drop 10)) := rd4.below (below_alloc u4 _)
     have HGB4 : Hid ((u4.alloc (.cells #[.int .i64 (b : Int), .int .i64 (p : Int), .int .i64 (s : Int)] 30)).heap[u4.heap.size]? = some (.cells #[.int .i64 (b : Int), .int .i64 (p : Int), .int .i64 (s : Int)] 30 (0, 0))) := heap_alloc_new u4 _
     have HS4 : Hid (w.heap.size < u4.heap.size) := by have h8 := (Array.getElem?_eq_some_iff.1 HRB3.out).1; have h9 := g4.size; unfold Hid; omega
     have HRB4 : Hid ((u4.alloc (.cells #[.int .i64 (b : Int), .int .i64 (p : Int), .int .i64 (s : Int)] 30)).heap[w.heap.size]? = some (.cells #[.int .i64 0, .int .i64 0, .int .i64 0, .slice none 0 0, .slice none 0 0] 35 (0, 0))) := (Below.heap_alloc _ _ _ (by have h8 := (Array.getElem?_eq_some_iff.1 HRB3.out).1; have h9 := g4.size; omega)).trans ((g4.block w.heap.size (Array.getElem?_eq_some_iff.1 HRB3.out).1 (fun e => by have e' := Option.some.inj e; omega)).trans HRB3.out)
     have HW4 : Hid (w.grownBy (u4.alloc (.cells #[.int .i64 (b : Int), .int .i64 (p : Int), .int .i64 (s : Int)] 30)) (some q)) := grownBy_trans (grownBy_trans HW3.out g4) (World.grownBy_alloc _ _ _)
     clear r0 r1 r2 r3 r4 rf0 rf1 rf2 rf3 rf4
     obtain ⟨r0, r1, r2, r3, r4⟩ := cells5 HRB4.out
     have rf := frozen5 HRB4.out
     have rf0 := rf 0
     have rf1 := rf 1
     have rf2 := rf 2
     have rf3 := rf 3
     have rf4 := rf 4
     clear rf
     clear g4 rd4)
  | (go_at_call 69; refine (marks_ok B q b (rest.drop 10) _ HRD4.out (by rw [List.length_drop]; omega) (by rw [List.length_drop]; omega) (by omega) (by omega)).mono ?_; rintro e u5 ⟨rd5, g5, hm5⟩
     obtain rfl : e = .returned (.tuple #[.slice none 0 0, .int .i64 47]) := (by rcases hm5 with ⟨h, _⟩ | ⟨_, h⟩; exact absurd h HMK.out; exact h)
     clear hm5
     have HRD5 : Hid (RdAt u5 B q (rest.drop (10 + (b + 7) / 8))) := by have h9 := rd5; rw [List.drop_drop] at h9; exact h9
     have HRB5 : Hid (u5.heap[w.heap.size]? = some (.cells #[.int .i64 0, .int .i64 0, .int .i64 0, .slice none 0 0, .slice none 0 0] 35 (0, 0))) := (g5.block w.heap.size (Array.getElem?_eq_some_iff.1 HRB4.out).1 (fun e => by have e' := Option.some.inj e; omega)).trans HRB4.out
     have HGB5 : Hid (u5.heap[u4.heap.size]? = some (.cells #[.int .i64 (b : Int), .int .i64 (p : Int), .int .i64 (s : Int)] 30 (0, 0))) := (g5.block u4.heap.size (Array.getElem?_eq_some_iff.1 HGB4.out).1 (fun e => by have e' := Option.some.inj e; have := HS4.out; omega)).trans HGB4.out
     have HW5 : Hid (w.grownBy u5 (some q)) := grownBy_trans HW4.out g5
     clear r0 r1 r2 r3 r4 rf0 rf1 rf2 rf3 rf4
     obtain ⟨r0, r1, r2, r3, r4⟩ := cells5 HRB5.out
     obtain ⟨k0, k1, k2, _⟩ := blk3_cells HGB5.out
     have rf := frozen5 HRB5.out
     have rf0 := rf 0
     have rf1 := rf 1
     have rf2 := rf 2
     have rf3 := rf 3
     have rf4 := rf 4
     clear rf
     clear g5 rd5))
 have z := blk5_set HRB5.out (.int .i64 0) (.int .i64 0) (.int .i64 0) (.slice none 0 0) (.slice none 0 0)
 obtain ⟨y0, y1, y2, y3, y4⟩ := cells5 z
 exact bodyPost_ret (v := .tuple #[.agg #[.int .i64 0, .int .i64 0, .int .i64 0, .slice none 0 0, .slice none 0 0], .int .i64 47]) (by simp [results, Tryd.results37, go_sem, y0, y1, y2, y3, y4]) rfl ⟨rfl, grown_past HW5.out (grown5 _ w.heap.size _ _ _ _ _) (Nat.le_refl _)⟩
set_option maxHeartbeats 2000000 in
set_option maxRecDepth 100000 in
theorem front_ok (B q : Nat) (rest : List Int) (w : World) (hR : RdAt w B q rest) (hl : rest.length ≤ 200000000000000) (hm : rest.take 4 = [83, 72, 65, 76]) (h5 : 10 ≤ rest.length) (hv : rest.getD 4 0 = 1) (b p s : Nat) (hb : rest.getD 5 0 + 256 * rest.getD 6 0 = (b : Int)) (hp : rest.getD 7 0 + 256 * rest.getD 8 0 = (p : Int)) (hs : rest.getD 9 0 = (s : Int)) (hf : Fits (b : Int) (p : Int) (s : Int) = true) (hm10 : 10 + (b + 7) / 8 ≤ rest.length) (hk : bitsOf (unbits b ((rest.drop 10).take ((b + 7) / 8))) = (rest.drop 10).take ((b + 7) / 8)) :
  Calls Tryd.prog 37 #[.pointer (some ⟨q, 0, none⟩)] w fun e w' => ∃ g, e = .returned (.tuple #[.agg #[.int .i64 (b : Int), .int .i64 (p : Int), .int .i64 (s : Int), .slice none 0 0, .slice (some ⟨g, 0, none⟩) b b], .int .i64 0]) ∧ OwnB w' w.heap.size g b b (unbits b ((rest.drop 10).take ((b + 7) / 8))) ∧ RdAt w' B q (rest.drop (10 + (b + 7) / 8)) ∧ w.grownBy w' (some q) := by
 have hqlt := hR.lt
 have kc := Joins.run_convert_bytes_const_at (P := Tryd.prog) (w.alloc (.cells #[.int .i64 0, .int .i64 0, .int .i64 0, .slice none 0 0, .slice none 0 0] 35)) 32 5 #[.int .u8 83, .int .u8 72, .int .u8 65, .int .u8 76] 4 4 (w.heap.size + 1) (by simp) Tryd.underlying32 Tryd.underlying5
 have hR1 : RdAt ((w.alloc (.cells #[.int .i64 0, .int .i64 0, .int .i64 0, .slice none 0 0, .slice none 0 0] 35)).alloc (.cells #[.int .u8 83, .int .u8 72, .int .u8 65, .int .u8 76] 5 (4, 5))) B q rest := (hR.below (below_alloc w _)).below (below_alloc _ _)
 have hmg : Reads ((w.alloc (.cells #[.int .i64 0, .int .i64 0, .int .i64 0, .slice none 0 0, .slice none 0 0] 35)).alloc (.cells #[.int .u8 83, .int .u8 72, .int .u8 65, .int .u8 76] 5 (4, 5))) (some ⟨w.heap.size + 1, 0, none⟩) 4 [83, 72, 65, 76] := reads_lit _ 83 72 65 76 (4, 5) (by decide) (by decide) (by decide) (by decide) _ (by have h9 := heap_alloc_new (w.alloc (.cells #[.int .i64 0, .int .i64 0, .int .i64 0, .slice none 0 0, .slice none 0 0] 35)) (.cells #[.int .u8 83, .int .u8 72, .int .u8 65, .int .u8 76] 5 (4, 5)); rw [World.size_alloc] at h9; exact h9)
 have hrb : ((w.alloc (.cells #[.int .i64 0, .int .i64 0, .int .i64 0, .slice none 0 0, .slice none 0 0] 35)).alloc (.cells #[.int .u8 83, .int .u8 72, .int .u8 65, .int .u8 76] 5 (4, 5))).heap[w.heap.size]? = some (.cells #[.int .i64 0, .int .i64 0, .int .i64 0, .slice none 0 0, .slice none 0 0] 35 (0, 0)) := by
  rw [Below.heap_alloc _ _ _ (by simp)]; exact heap_alloc_new _ _
 have hw1 : w.grownBy ((w.alloc (.cells #[.int .i64 0, .int .i64 0, .int .i64 0, .slice none 0 0, .slice none 0 0] 35)).alloc (.cells #[.int .u8 83, .int .u8 72, .int .u8 65, .int .u8 76] 5 (4, 5))) (some q) := grownBy_trans (World.grownBy_alloc w _ _) (World.grownBy_alloc _ _ _)
 have HR1 : Hid _ := hR1
 have HRB1 : Hid (((w.alloc (.cells #[.int .i64 0, .int .i64 0, .int .i64 0, .slice none 0 0, .slice none 0 0] 35)).alloc (.cells #[.int .u8 83, .int .u8 72, .int .u8 65, .int .u8 76] 5 (4, 5))).heap[w.heap.size]? = some (.cells #[.int .i64 0, .int .i64 0, .int .i64 0, .slice none 0 0, .slice none 0 0] 35 (0, 0))) := hrb
 have HW1 : Hid (w.grownBy ((w.alloc (.cells #[.int .i64 0, .int .i64 0, .int .i64 0, .slice none 0 0, .slice none 0 0] 35)).alloc (.cells #[.int .u8 83, .int .u8 72, .int .u8 65, .int .u8 76] 5 (4, 5))) (some q)) := hw1
 obtain ⟨xb, xo, xc, xh, xr, xl, xm, _⟩ := hR1
 have xg : (w.alloc (.cells #[.int .i64 0, .int .i64 0, .int .i64 0, .slice none 0 0, .slice none 0 0] 35)).heap[q]? = some (.cells #[.slice (some ⟨xb, xo, none⟩) rest.length xc] 97 (0, 0)) := (Below.heap_alloc (w.alloc (.cells #[.int .i64 0, .int .i64 0, .int .i64 0, .slice none 0 0, .slice none 0 0] 35)) (.cells #[.int .u8 83, .int .u8 72, .int .u8 65, .int .u8 76] 5 (4, 5)) q (by simp; omega)).symm.trans xh
 have xcell : (w.alloc (.cells #[.int .i64 0, .int .i64 0, .int .i64 0, .slice none 0 0, .slice none 0 0] 35)).cell? ⟨q, 0, none⟩ = some (.slice (some ⟨xb, xo, none⟩) rest.length xc) := by simp only [World.cell?, xg]; rfl
 obtain ⟨r0, r1, r2, r3, r4⟩ := cells5 hrb
 have rf := frozen5 hrb
 have rf0 := rf 0
 have rf1 := rf 1
 have rf2 := rf 2
 have rf3 := rf 3
 have rf4 := rf 4
 have HXR : Hid _ := xr
 have HMG : Hid _ := hmg
 clear hR hrb hw1 xh xg xr hmg rf
 have hd : decide (rest.take 4 = [83, 72, 65, 76]) = true := decide_eq_true hm
 have hl4 : 4 ≤ rest.length := by have := congrArg List.length hm; simp at this; omega
 clear hm
 obtain ⟨V, hV⟩ : ∃ V, getL (rest.drop 4) 0 1 = V := ⟨_, rfl⟩
 have hV' : rest.getD 4 0 = V := by rw [← hV, getL_drop]; simp [getL]
 have HV : Hid (getL (rest.drop 4) 0 1 = V) := hV
 rw [hV'] at hv
 clear hV hV'
 subst hv
 obtain ⟨ge0, ge1, ge2⟩ := geo_getD rest
 rw [hb] at ge0
 rw [hp] at ge1
 rw [hs] at ge2
 have HG0 : Hid (geoB (rest.drop 5) = (b : Int)) := ge0
 have HG1 : Hid (geoP (rest.drop 5) = (p : Int)) := ge1
 have HG2 : Hid (geoS (rest.drop 5) = (s : Int)) := ge2
 have HFI : Hid (Fits (b : Int) (p : Int) (s : Int) = true) := hf
 have HGS : Hid (spE (b : Int) (p : Int) (s : Int) = 0) := by unfold Hid spE; rw [hf]; rfl
 clear ge0 ge1 ge2 hb hp hs
 obtain ⟨w1, w2, w3, w4, w5, w6, w7⟩ := fits_nat hf
 clear hf
 have HMK : Hid _ := hk
 clear hk
 go_enter Tryd.func37, Tryd.ntmps37
 go_wp2_with (first
  | (go_at_call 65; refine (hasPrefix_any xb xo rest.length xc _ 4 4 rest [83, 72, 65, 76] _ hl xl xm (by omega) HXR.out HMG.out).mono ?_; rintro e u0 ⟨rfl, hu0⟩; rw [hu0, hd]; clear xcell)
  | (go_at_call 66; refine (take_ok B q 4 rest _ HR1.out hl (by omega)).mono ?_; rintro e u2 ⟨_, _, _, rfl, _, _, _, _, rd2, g2⟩
     have HRD2 : Hid (RdAt u2 B q (rest.drop 4)) := rd2
     have HRB2 : Hid (u2.heap[w.heap.size]? = some (.cells #[.int .i64 0, .int .i64 0, .int .i64 0, .slice none 0 0, .slice none 0 0] 35 (0, 0))) := (g2.block w.heap.size (Array.getElem?_eq_some_iff.1 HRB1.out).1 (fun e => by have e' := Option.some.inj e; omega)).trans HRB1.out
     have HW2 : Hid (w.grownBy u2 (some q)) := grownBy_trans HW1.out g2
     clear r0 r1 r2 r3 r4 rf0 rf1 rf2 rf3 rf4
     obtain ⟨r0, r1, r2, r3, r4⟩ := cells5 HRB2.out
     have rf := frozen5 HRB2.out
     have rf0 := rf 0
     have rf1 := rf 1
     have rf2 := rf 2
     have rf3 := rf 3
     have rf4 := rf 4
     clear rf
     clear rd2 g2)
  | (go_at_call 67; refine (num_ok B q 1 (rest.drop 4) _ HRD2.out (by rw [List.length_drop]; omega) (by rw [List.length_drop]; omega) (by omega) (by omega)).mono ?_; rintro e u3 ⟨rfl, rd3, g3⟩; rw [HV.out]; rw [List.drop_drop] at rd3
     have HRD3 : Hid (RdAt u3 B q (rest.drop 5)) := rd3
     have HRB3 : Hid (u3.heap[w.heap.size]? = some (.cells #[.int .i64 0, .int .i64 0, .int .i64 0, .slice none 0 0, .slice none 0 0] 35 (0, 0))) := (g3.block w.heap.size (Array.getElem?_eq_some_iff.1 HRB2.out).1 (fun e => by have e' := Option.some.inj e; omega)).trans HRB2.out
     have HW3 : Hid (w.grownBy u3 (some q)) := grownBy_trans HW2.out g3
     clear r0 r1 r2 r3 r4 rf0 rf1 rf2 rf3 rf4
     obtain ⟨r0, r1, r2, r3, r4⟩ := cells5 HRB3.out
     have rf := frozen5 HRB3.out
     have rf0 := rf 0
     have rf1 := rf 1
     have rf2 := rf 2
     have rf3 := rf 3
     have rf4 := rf 4
     clear rf
     clear rd3 g3)
  | (go_at_call 68; refine (geo_ok B q (rest.drop 5) _ HRD3.out (by rw [List.length_drop]; omega) (by rw [List.length_drop]; omega)).mono ?_; rintro e u4 ⟨rfl, rd4, g4⟩; rw [HG0.out, HG1.out, HG2.out, HFI.out, if_pos rfl, HGS.out]; rw [List.drop_drop] at rd4
     have HRD4 : Hid (RdAt (u4.alloc (.cells #[.int .i64 (b : Int), .int .i64 (p : Int), .int .i64 (s : Int)] 30)) B q (rest.drop 10)) := rd4.below (below_alloc u4 _)
     have HGB4 : Hid ((u4.alloc (.cells #[.int .i64 (b : Int), .int .i64 (p : Int), .int .i64 (s : Int)] 30)).heap[u4.heap.size]? = some (.cells #[.int .i64 (b : Int), .int .i64 (p : Int), .int .i64 (s : Int)] 30 (0, 0))) := heap_alloc_new u4 _
     have HS4 : Hid (w.heap.size < u4.heap.size) := by have h8 := (Array.getElem?_eq_some_iff.1 HRB3.out).1; have h9 := g4.size; unfold Hid; omega
     have HRB4 : Hid ((u4.alloc (.cells #[.int .i64 (b : Int), .int .i64 (p : Int), .int .i64 (s : Int)] 30)).heap[w.heap.size]? = some (.cells #[.int .i64 0, .int .i64 0, .int .i64 0, .slice none 0 0, .slice none 0 0] 35 (0, 0))) := (Below.heap_alloc _ _ _ (by have h8 := (Array.getElem?_eq_some_iff.1 HRB3.out).1; have h9 := g4.size; omega)).trans ((g4.block w.heap.size (Array.getElem?_eq_some_iff.1 HRB3.out).1 (fun e => by have e' := Option.some.inj e; omega)).trans HRB3.out)
     have HW4 : Hid (w.grownBy (u4.alloc (.cells #[.int .i64 (b : Int), .int .i64 (p : Int), .int .i64 (s : Int)] 30)) (some q)) := grownBy_trans (grownBy_trans HW3.out g4) (World.grownBy_alloc _ _ _)
     clear r0 r1 r2 r3 r4 rf0 rf1 rf2 rf3 rf4
     obtain ⟨r0, r1, r2, r3, r4⟩ := cells5 HRB4.out
     have rf := frozen5 HRB4.out
     have rf0 := rf 0
     have rf1 := rf 1
     have rf2 := rf 2
     have rf3 := rf 3
     have rf4 := rf 4
     clear rf
     clear g4 rd4)
  | (go_at_call 69; refine (marks_ok B q b (rest.drop 10) _ HRD4.out (by rw [List.length_drop]; omega) (by rw [List.length_drop]; omega) (by omega) (by omega)).mono ?_; rintro e u5 ⟨rd5, g5, hm5⟩
     obtain ⟨g5', rfl, own5⟩ : ∃ g, e = .returned (.tuple #[.slice (some ⟨g, 0, none⟩) b b, .int .i64 0]) ∧ OwnB u5 (u4.alloc (.cells #[.int .i64 (b : Int), .int .i64 (p : Int), .int .i64 (s : Int)] 30)).heap.size g b b (unbits b ((rest.drop 10).take ((b + 7) / 8))) := (by rcases hm5 with ⟨_, h⟩ | ⟨h, _⟩; exact h; exact absurd HMK.out h)
     have HOB : Hid _ := own5
     clear own5 hm5
     have HRD5 : Hid (RdAt u5 B q (rest.drop (10 + (b + 7) / 8))) := by have h9 := rd5; rw [List.drop_drop] at h9; exact h9
     have HRB5 : Hid (u5.heap[w.heap.size]? = some (.cells #[.int .i64 0, .int .i64 0, .int .i64 0, .slice none 0 0, .slice none 0 0] 35 (0, 0))) := (g5.block w.heap.size (Array.getElem?_eq_some_iff.1 HRB4.out).1 (fun e => by have e' := Option.some.inj e; omega)).trans HRB4.out
     have HGB5 : Hid (u5.heap[u4.heap.size]? = some (.cells #[.int .i64 (b : Int), .int .i64 (p : Int), .int .i64 (s : Int)] 30 (0, 0))) := (g5.block u4.heap.size (Array.getElem?_eq_some_iff.1 HGB4.out).1 (fun e => by have e' := Option.some.inj e; have := HS4.out; omega)).trans HGB4.out
     have HW5 : Hid (w.grownBy u5 (some q)) := grownBy_trans HW4.out g5
     clear r0 r1 r2 r3 r4 rf0 rf1 rf2 rf3 rf4
     obtain ⟨r0, r1, r2, r3, r4⟩ := cells5 HRB5.out
     obtain ⟨k0, k1, k2, _⟩ := blk3_cells HGB5.out
     have rf := frozen5 HRB5.out
     have rf0 := rf 0
     have rf1 := rf 1
     have rf2 := rf 2
     have rf3 := rf 3
     have rf4 := rf 4
     clear rf
     clear g5 rd5))
 have z := blk5_set HRB5.out (.int .i64 (b : Int)) (.int .i64 (p : Int)) (.int .i64 (s : Int)) (.slice none 0 0) (.slice (some ⟨g5', 0, none⟩) b b)
 have gz := grown5 u5 w.heap.size (.int .i64 (b : Int)) (.int .i64 (p : Int)) (.int .i64 (s : Int)) (.slice none 0 0) (.slice (some ⟨g5', 0, none⟩) b b)
 obtain ⟨y0, y1, y2, y3, y4⟩ := cells5 z
 refine bodyPost_ret (v := .tuple #[.agg #[.int .i64 (b : Int), .int .i64 (p : Int), .int .i64 (s : Int), .slice none 0 0, .slice (some ⟨g5', 0, none⟩) b b], .int .i64 0]) (by simp [results, Tryd.results37, go_sem, y0, y1, y2, y3, y4]) rfl ⟨g5', rfl, ?_, HRD5.out.other gz (fun e => by have e' := Option.some.inj e; omega) (fun k e => by have e' := Option.some.inj e; omega), grown_past HW5.out gz (Nat.le_refl _)⟩
 have hob := HOB.out
 have hne : w.heap.size ≠ g5' := by
  have h9 := (World.ownsRow.lt hob g5' rfl).1
  have := HS4.out
  simp at h9
  omega
 have h8 := World.ownsRow.kept hob gz (Or.inr (by simp [Value.ownBlock]; exact fun e => hne e.symm))
 exact ⟨h8.1, h8.2.elim Or.inl (fun ⟨g, cap, cur, hv, hg, r⟩ => Or.inr ⟨g, cap, cur, hv, by have := HS4.out; simp at hg; omega, r⟩)⟩
end Go.Proofs.YtnmnhgagnfodhaaDoor
