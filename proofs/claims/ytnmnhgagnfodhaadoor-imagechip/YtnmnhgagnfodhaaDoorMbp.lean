/-
  SEAT YtnmnhgagnfodhaaDoor: Zd.
-/
import Derived.Test.YtnmnhgagnfodhaaDoorMbm
import Derived.Test.YtnmnhgagnfodhaaDoorMbo
import Derived.Test.YtnmnhgagnfodhaaDoorMx
import Derived.Test.YtnmnhgagnfodhaaDoorMz
import Derived.Handy
namespace Go.Proofs.YtnmnhgagnfodhaaDoor
open Go.RowKit
set_option linter.unusedVariables false
theorem no_any (x : Int) (w : World) : Calls Tryd.prog 6 #[.int .i64 x] w fun e w' => e = .returned (.int .i64 x) ∧ w' = w := by
 go_enter Tryd.func6, Tryd.ntmps6
 go_wp2
 go_ret
 exact ⟨rfl, rfl⟩
set_option maxHeartbeats 2000000 in
set_option maxRecDepth 100000 in
theorem alike_eq (b p s : Int) (a a' : Option Addr) (n c c' : Nat) (xs : List Int) (d d' : Option Addr) (m k k' : Nat) (ms : List Bool) (w : World) (h : Reads w a n xs) (h' : Reads w a' n xs) (g : ReadsB w d m ms) (g' : ReadsB w d' m ms) (hm : m ≤ 140737488355000) :
  Calls Tryd.prog 13 #[.agg #[.int .i64 b, .int .i64 p, .int .i64 s, .slice a n c, .slice d m k], .agg #[.int .i64 b, .int .i64 p, .int .i64 s, .slice a' n c', .slice d' m k']] w fun e w' => e = .returned (.bool true) ∧ Below w.heap.size w w' := by
 obtain ⟨W, hW⟩ : ∃ W, ((w.alloc (.cells #[.int .i64 b, .int .i64 p, .int .i64 s, .slice a n c, .slice d m k] 35)).alloc (.cells #[.int .i64 b, .int .i64 p, .int .i64 s, .slice a' n c', .slice d' m k'] 35)) = W := ⟨_, rfl⟩
 have hb1 : Below w.heap.size w ((w.alloc (.cells #[.int .i64 b, .int .i64 p, .int .i64 s, .slice a n c, .slice d m k] 35)).alloc (.cells #[.int .i64 b, .int .i64 p, .int .i64 s, .slice a' n c', .slice d' m k'] 35)) := below_trans (below_alloc w _) (below_alloc _ _)
 have x1 : ((w.alloc (.cells #[.int .i64 b, .int .i64 p, .int .i64 s, .slice a n c, .slice d m k] 35)).alloc (.cells #[.int .i64 b, .int .i64 p, .int .i64 s, .slice a' n c', .slice d' m k'] 35)).heap[w.heap.size]? = some (.cells #[.int .i64 b, .int .i64 p, .int .i64 s, .slice a n c, .slice d m k] 35 (0, 0)) := by
  rw [Below.heap_alloc _ _ _ (by simp)]; exact heap_alloc_new _ _
 have x2 : ((w.alloc (.cells #[.int .i64 b, .int .i64 p, .int .i64 s, .slice a n c, .slice d m k] 35)).alloc (.cells #[.int .i64 b, .int .i64 p, .int .i64 s, .slice a' n c', .slice d' m k'] 35)).heap[w.heap.size + 1]? = some (.cells #[.int .i64 b, .int .i64 p, .int .i64 s, .slice a' n c', .slice d' m k'] 35 (0, 0)) := by
  have h9 := heap_alloc_new (w.alloc (.cells #[.int .i64 b, .int .i64 p, .int .i64 s, .slice a n c, .slice d m k] 35)) (.cells #[.int .i64 b, .int .i64 p, .int .i64 s, .slice a' n c', .slice d' m k'] 35); rw [World.size_alloc] at h9; exact h9
 have r1 := h.below hb1
 have r2 := h'.below hb1
 have r3 := g.below hb1
 have r4 := g'.below hb1
 rw [hW] at hb1 x1 x2 r1 r2 r3 r4
 have HB : Hid (Below w.heap.size w W) := hb1
 have HR1 : Hid (Reads W a n xs) := r1
 have HR2 : Hid (Reads W a' n xs) := r2
 have HR3 : Hid (ReadsB W d m ms) := r3
 have HR4 : Hid (ReadsB W d' m ms) := r4
 obtain ⟨c0, c1, c2, c3, c4⟩ := cells5 x1
 obtain ⟨e0, e1, e2, e3, e4⟩ := cells5 x2
 clear h h' g g' hb1 r1 r2 r3 r4 x1 x2
 go_enter Tryd.func13, Tryd.ntmps13
 go_wp2_with (first
  | (go_at_call 17; refine (same_eq _ _ _ _ _ xs _ HR1.out HR2.out).mono ?_; rintro e t1 ⟨rfl, ht1⟩; rw [ht1]; clear ht1))
 go_loopw [5] (fun s5 wr => ∃ j : Nat, j ≤ m ∧ s5 = .int .i64 j ∧ ∃ q, wr = W.drewN q)
  (fun i _ => m - (intOf i).toNat)
 case atStart => exact ⟨0, Nat.zero_le _, rfl, 0, rfl⟩
 case round =>
  obtain ⟨j, hj, rfl, q, rfl⟩ := hrel
  by_cases hlt : j < m
  ·obtain ⟨g1, o1, rfl, hg1, hc1⟩ := HR3.out.pos (by omega)
   obtain ⟨g2, o2, rfl, hg2, hc2⟩ := HR4.out.pos (by omega)
   have k1 := hc1 j hlt
   have k2 := hc2 j hlt
   have d1 : (j : Int) < (m : Int) := by omega
   clear hc1 hc2
   go_wp2
   go_quiet (fail)
   go_wp2
   go_roundw
   case rel => exact ⟨j + 1, by omega, by go_num, _, rfl⟩
   case measure => simp [intOf]; omega
  ·obtain rfl : j = m := by omega
   go_wp2
   go_ret
   exact ⟨rfl, ⟨HB.out.os, HB.out.tape, HB.out.output, HB.out.size, HB.out.block⟩⟩
def hdM : List Bool := [false, false, false, true, false, false, false, false]
def hdI : Img := ⟨8, 4, 1, List.replicate 10016 255, hdM⟩
def hdP : List Int := [83, 72, 65, 76, 1, 8, 0, 4, 0, 1, 8, 0, 32, 0]
theorem chunks_rep (L n : Nat) : chunks L n (List.replicate (n * L) (255 : Int)) = List.replicate n (List.replicate L 255) := by
 have h := chunks_of L (List.replicate n (List.replicate L (255 : Int))) (fun g hg => by rw [List.eq_of_mem_replicate hg, List.length_replicate])
 rw [List.length_replicate, List.flatten_replicate_replicate] at h
 exact h
theorem pgs_one (p : Pc) : pgs [p] = List.replicate p.n p.g := by simp [pgs]
theorem hd_ok : hdI.Ok := by
 refine ⟨by decide, ?_, rfl, ?_⟩
 ·show (List.replicate 10016 (255 : Int)).length = 8 * 4 * (256 * 1 + (54 + 3 * 1))
  rw [List.length_replicate]
 ·intro x hx
  rw [List.eq_of_mem_replicate (show x ∈ List.replicate 10016 (255 : Int) from hx)]
  omega
theorem hd_body : bodyL hdI = hdP := by
 have h1 : chain (hdI.C + hdI.S) Pc.z [⟨0, 32, List.replicate 313 255⟩] := by
  refine ⟨⟨rfl, Or.inl ⟨rfl, by decide, by decide, rfl⟩⟩, trivial⟩
 have h2 : pgs [⟨0, 32, List.replicate 313 255⟩] = chunks (hdI.C + hdI.S) (hdI.b * hdI.p) hdI.cs := by
  show _ = chunks 313 32 (List.replicate (32 * 313) (255 : Int))
  rw [chunks_rep, pgs_one]
 rw [body_chain hdI _ h1 h2]
 rfl
theorem hd_len : (packL hdI).length = 18 := by
 rw [packL, sealL, hd_body, List.length_append]
 rfl
theorem hd_take : (packL hdI).take 14 = hdP := by
 rw [packL, sealL, hd_body]
 exact List.take_left' rfl
theorem reads_alloc (u : World) (zs : List Int) (hb : Byt zs) : Reads (u.alloc (.cells (zs.map (Value.int .u8)).toArray 5)) (some ⟨u.heap.size, 0, none⟩) zs.length zs := by
 refine ⟨rfl, hb, by simp, fun x hx i hi => ?_⟩
 cases hx
 rw [plain_add, Nat.zero_add]
 have h9 := heap_alloc_new u (.cells (zs.map (Value.int .u8)).toArray 5)
 simp only [World.cell?, h9]
 simp [List.getD, List.getElem?_eq_getElem hi]
theorem hd_reads (u : World) : Reads (u.alloc (.cells #[.int .u8 83, .int .u8 72, .int .u8 65, .int .u8 76, .int .u8 1, .int .u8 8, .int .u8 0, .int .u8 4, .int .u8 0, .int .u8 1, .int .u8 8, .int .u8 0, .int .u8 32, .int .u8 0] 5)) (some ⟨u.heap.size, 0, none⟩) 14 hdP := reads_alloc u hdP (by unfold Byt; decide)
theorem hd_marks (u : World) : ReadsB (u.alloc (.cells #[.bool false, .bool false, .bool false, .bool true, .bool false, .bool false, .bool false, .bool false] 4)) (some ⟨u.heap.size, 0, none⟩) 8 hdM := by
 refine ⟨rfl, by simp, fun x hx i hi => ?_⟩
 cases hx
 rw [plain_add, Nat.zero_add]
 match i, hi with
 | 0, _ => simp [hdM]
 | 1, _ => simp [hdM]
 | 2, _ => simp [hdM]
 | 3, _ => simp [hdM]
 | 4, _ => simp [hdM]
 | 5, _ => simp [hdM]
 | 6, _ => simp [hdM]
 | 7, _ => simp [hdM]
theorem read_n (bk off n c : Nat) (bs : List Int) (w : World) (hn : bs.length = n) (hr : Reads w (some ⟨bk, off, none⟩) n bs) (hl : n ≤ 200000000000000) (hnc : n ≤ c) (hc : c ≤ 9223372036854775807) (hbk : bk < w.heap.size) (ht : Tab w) :
  Calls Tryd.prog 12 #[.slice (some ⟨bk, off, none⟩) n c] w fun e w' => RdRes w w' e (readR bs) ∧ Below w.heap.size w w' := by
 subst hn
 exact read_any bk off c bs w hr hl hnc hc hbk ht
set_option maxRecDepth 100000 in
theorem hd_res {w w' : World} {e : Ending} (h : RdRes w w' e (readR (packL hdI))) : ∃ g3 c3 gm, e = .returned (.tuple #[.agg #[.int .i64 8, .int .i64 4, .int .i64 1, .slice (some ⟨g3, 0, none⟩) 10016 c3, .slice (some ⟨gm, 0, none⟩) 8 8], .int .i64 0]) ∧ Own w' w.heap.size g3 10016 c3 (List.replicate 10016 255) ∧ OwnB w' w.heap.size gm 8 8 hdM := by
 rw [back hdI hd_ok] at h
 obtain ⟨g3, c3, gm, he, ho, hm⟩ := h
 have e1 : hdI.cs.length = 10016 := List.length_replicate
 rw [e1] at he ho
 exact ⟨g3, c3, gm, he, ho, hm⟩
set_option maxRecDepth 100000 in
theorem hd_pack (g cp : Nat) (a : Option Addr) (w : World) (hr : Reads w (some ⟨g, 0, none⟩) 10016 (List.replicate 10016 255)) (hm : ReadsB w a 8 hdM) (hg : g < w.heap.size) (h1 : 10016 ≤ cp) (h2 : cp ≤ 9223372036854775807) (ht : Tab w) :
  Calls Tryd.prog 11 #[.agg #[.int .i64 8, .int .i64 4, .int .i64 1, .slice (some ⟨g, 0, none⟩) 10016 cp, .slice a 8 8]] w fun e w' => ∃ g1 p1, e = .returned (.tuple #[.slice (some ⟨g1, 0, none⟩) 18 p1, .int .i64 0]) ∧ Own w' w.heap.size g1 18 p1 (packL hdI) ∧ Below w.heap.size w w' := by
 refine (pack_ok hdI g 0 10016 cp a 8 8 w hd_ok hr hm hg h1 h2 ht).mono ?_
 rintro e w' ⟨g1, p1, he, ho, hb⟩
 rw [hd_len] at he ho
 exact ⟨g1, p1, he, ho, hb⟩
theorem hd_chk : chkE 8 4 1 10016 8 = 0 := by decide
set_option maxHeartbeats 4000000 in
set_option maxRecDepth 100000 in
theorem heads_any (w : World) (ht : Tab w) : Calls Tryd.prog 4 #[] w fun e w' => e = .returned (.bool true) ∧ Below w.heap.size w w' := by
 have HTB : Hid (Tab w) := ht
 clear ht
 go_enter Tryd.func4, Tryd.ntmps4
 go_wp2
 go_loopg [2] 10016 (fun gh s2 wr => ∃ (i : Nat) (v : Value), i ≤ 10016 ∧ 10016 - i ≤ gh ∧ s2 = .int .i64 (i : Int) ∧ Hid (wr.heap[w.heap.size]? = some (.cells #[.int .i64 8, .int .i64 4, .int .i64 1, v, .slice none 0 0] 35 (0, 0))) ∧ Hid (wr.ownsRow (w.heap.size + 1) 5 1 v i ((List.replicate i (255 : Int)).map (Value.int .u8))) ∧ Hid (Below w.heap.size w wr))
 case atStart => exact ⟨0, _, Nat.zero_le _, by omega, rfl, heap_alloc_new _ _, World.ownsRow_nil _ _ _ _, below_alloc _ _⟩
 case round =>
  obtain ⟨i, v, hi, hig, rfl, HX, HO, HB⟩ := hrel
  by_cases hlt : i < 10016
  ·have d1 : (i : Int) < 10016 := by omega
   obtain ⟨c0, c1, c2, c3, c4⟩ := cells5 HX.out
   have HR : Hid (Reads (wr.alloc (.cells #[.int .u8 255] 5)) (some ⟨wr.heap.size, 0, none⟩) 1 [255]) := by
    refine ⟨rfl, by simp, by simp, fun x hx j hj => ?_⟩
    cases hx
    obtain rfl : j = 0 := by omega
    simp [Addr.add]
   have hbw := HB.out.size
   have HW : Hid (w.heap.size + 1 ≤ wr.heap.size) := (Array.getElem?_eq_some_iff.1 HX.out).1
   go_wp2_with (first
    | (at_builtin; refine wpList_append_reads rfl (.tmp 14) (.tmp 15) rfl (w.heap.size + 1) v i (List.replicate i 255) rfl (HO.out.alloc _) _ 1 1 [255] rfl HR.out (by omega) (by have := HW.out; simp; omega) ?_; intro v2 w2 own2 grow2; obtain ⟨g2, cp2, rfl, _⟩ := own_shape own2 (by omega)
       have HO2 : Hid (w2.ownsRow (w.heap.size + 1) 5 1 (.slice (some ⟨g2, 0, none⟩) (i + 1) cp2) (i + 1) ((List.replicate (i + 1) (255 : Int)).map (Value.int .u8))) := by unfold Hid; rw [List.replicate_succ']; exact own2
       have HX2 : Hid (w2.heap[w.heap.size]? = some (.cells #[.int .i64 8, .int .i64 4, .int .i64 1, v, .slice none 0 0] 35 (0, 0))) := (grow2.block _ (by have := HW.out; simp; omega) (fun e => by have := (HO.out.lt _ e.symm).1; omega)).trans ((Below.heap_alloc _ _ _ (by have := HW.out; omega)).trans HX.out)
       have HB2 : Hid (Below w.heap.size w w2) := (HB.out.alloc HB.out.size _).grown grow2 (by simp; omega) (fun q hq => by have := (HO.out.lt _ hq).1; omega)
       clear own2 grow2 c0 c1 c2 c3 c4
       obtain ⟨c0, c1, c2, c3, c4⟩ := cells5 HX2.out
       have f3 := frozen5 HX2.out 3))
   go_roundg (10016 - (i + 1))
   case measure => omega
   case rel =>
    have gS := set_grown w2 w.heap.size 3 (.slice (some ⟨g2, 0, none⟩) (i + 1) cp2)
    refine ⟨i + 1, .slice (some ⟨g2, 0, none⟩) (i + 1) cp2, by omega, Nat.le_refl _, by go_num, ?_, ?_, ?_⟩
    ·exact Joins.block_setCell HX2.out _
    ·exact HO2.out.kept gS (Or.inr fun e => by have := (HO2.out.lt _ e).1; omega)
    ·exact below_grown HB2.out gS (Nat.le_refl _)
  ·obtain rfl : i = 10016 := by omega
   obtain ⟨g, cp, rfl, hcp1, hcp2, hgb, hgl⟩ := own_shape HO.out (by omega)
   obtain ⟨c0, c1, c2, c3, c4⟩ := cells5 HX.out
   have hW : w.heap.size < wr.heap.size := (Array.getElem?_eq_some_iff.1 HX.out).1
   have HW : Hid (w.heap.size < wr.heap.size) := hW
   have HHC : Hid (10016 ≤ cp ∧ cp ≤ maxLen ∧ w.heap.size + 1 ≤ g ∧ g < wr.heap.size) := ⟨hcp1, hcp2, hgb, hgl⟩
   have HRC : Hid (Reads wr (some ⟨g, 0, none⟩) 10016 (List.replicate 10016 255)) := Own.all HO.out (fun x hx => by rw [List.eq_of_mem_replicate hx]; omega)
   have HF : Hid (wr.frozen? ⟨w.heap.size, 4, none⟩ = false) := frozen5 HX.out 4
   clear hW hcp1 hcp2 hgb hgl HO
   have b7 : Below w.heap.size w (wr.alloc (.cells #[.bool false, .bool false, .bool false, .bool true, .bool false, .bool false, .bool false, .bool false] 4)) := HB.out.alloc HB.out.size _
   have gS := set_grown (wr.alloc (.cells #[.bool false, .bool false, .bool false, .bool true, .bool false, .bool false, .bool false, .bool false] 4)) w.heap.size 4 (.slice (some ⟨wr.heap.size, 0, none⟩) 8 8)
   have hx7 : (wr.alloc (.cells #[.bool false, .bool false, .bool false, .bool true, .bool false, .bool false, .bool false, .bool false] 4)).heap[w.heap.size]? = some (.cells #[.int .i64 8, .int .i64 4, .int .i64 1, .slice (some ⟨g, 0, none⟩) 10016 cp, .slice none 0 0] 35 (0, 0)) := (Below.heap_alloc _ _ _ HW.out).trans HX.out
   have f4 := frozen5 hx7 4
   have k4 := (cells5 hx7).2.2.2.2
   have HX7 : Hid (((wr.alloc (.cells #[.bool false, .bool false, .bool false, .bool true, .bool false, .bool false, .bool false, .bool false] 4)).setCell ⟨w.heap.size, 4, none⟩ (.slice (some ⟨wr.heap.size, 0, none⟩) 8 8)).heap[w.heap.size]? = some (.cells #[.int .i64 8, .int .i64 4, .int .i64 1, .slice (some ⟨g, 0, none⟩) 10016 cp, .slice (some ⟨wr.heap.size, 0, none⟩) 8 8] 35 (0, 0))) := Joins.block_setCell hx7 _
   have HB7 : Hid (Below w.heap.size w ((wr.alloc (.cells #[.bool false, .bool false, .bool false, .bool true, .bool false, .bool false, .bool false, .bool false] 4)).setCell ⟨w.heap.size, 4, none⟩ (.slice (some ⟨wr.heap.size, 0, none⟩) 8 8))) := below_grown b7 gS (Nat.le_refl _)
   have HRC7 : Hid (Reads ((wr.alloc (.cells #[.bool false, .bool false, .bool false, .bool true, .bool false, .bool false, .bool false, .bool false] 4)).setCell ⟨w.heap.size, 4, none⟩ (.slice (some ⟨wr.heap.size, 0, none⟩) 8 8)) (some ⟨g, 0, none⟩) 10016 (List.replicate 10016 255)) := by
    have h9 := HHC.out
    have h8 := HRC.out.below (below_alloc wr (.cells #[.bool false, .bool false, .bool false, .bool true, .bool false, .bool false, .bool false, .bool false] 4))
    refine ⟨h8.1, h8.2.1, h8.2.2.1, fun x hx j hj => ?_⟩
    have h7 := h8.2.2.2 x hx j hj
    cases hx
    rw [plain_add] at h7 ⊢
    rw [← h7]
    simp only [World.cell?]
    rw [gS.block g (by simp; omega) (fun e => by have e' := Option.some.inj e; omega)]
   have HRM7 : Hid (ReadsB ((wr.alloc (.cells #[.bool false, .bool false, .bool false, .bool true, .bool false, .bool false, .bool false, .bool false] 4)).setCell ⟨w.heap.size, 4, none⟩ (.slice (some ⟨wr.heap.size, 0, none⟩) 8 8)) (some ⟨wr.heap.size, 0, none⟩) 8 hdM) := by
    have h8 := hd_marks wr
    have h9 := HW.out
    refine ⟨h8.1, h8.2.1, fun x hx j hj => ?_⟩
    have h7 := h8.2.2 x hx j hj
    cases hx
    rw [plain_add] at h7 ⊢
    rw [← h7]
    simp only [World.cell?]
    rw [gS.block wr.heap.size (by simp) (fun e => by have e' := Option.some.inj e; omega)]
   have HT7 : Hid (Tab ((wr.alloc (.cells #[.bool false, .bool false, .bool false, .bool true, .bool false, .bool false, .bool false, .bool false] 4)).setCell ⟨w.heap.size, 4, none⟩ (.slice (some ⟨wr.heap.size, 0, none⟩) 8 8))) := HTB.out.below HB7.out
   have HG7 : Hid (g < ((wr.alloc (.cells #[.bool false, .bool false, .bool false, .bool true, .bool false, .bool false, .bool false, .bool false] 4)).setCell ⟨w.heap.size, 4, none⟩ (.slice (some ⟨wr.heap.size, 0, none⟩) 8 8)).heap.size) := by have h9 := HHC.out; unfold Hid; simp; omega
   obtain ⟨n0, n1, n2, n3, n4⟩ := cells5 HX7.out
   have hcp : 10016 ≤ cp ∧ cp ≤ 9223372036854775807 := by have h9 := HHC.out; simp only [maxLen] at h9; omega
   clear b7 gS hx7 c0 c1 c2 c3 c4
   go_wp2_with (first
    | (go_at_call 11; refine (hd_pack g cp _ _ HRC7.out HRM7.out HG7.out hcp.1 hcp.2 HT7.out).mono ?_; rintro e t1 ⟨g1, p1, rfl, o1, b1⟩
       have HX8 : Hid (t1.heap[w.heap.size]? = some (.cells #[.int .i64 8, .int .i64 4, .int .i64 1, .slice (some ⟨g, 0, none⟩) 10016 cp, .slice (some ⟨wr.heap.size, 0, none⟩) 8 8] 35 (0, 0))) := (b1.block _ (Array.getElem?_eq_some_iff.1 HX7.out).1).trans HX7.out
       have HB8 : Hid (Below w.heap.size w t1) := below_trans HB7.out b1
       have HRC8 : Hid (Reads t1 (some ⟨g, 0, none⟩) 10016 (List.replicate 10016 255)) := HRC7.out.below b1
       have HRM8 : Hid (ReadsB t1 (some ⟨wr.heap.size, 0, none⟩) 8 hdM) := HRM7.out.below b1
       have HO8 : Hid (Reads t1 (some ⟨g1, 0, none⟩) 18 (packL hdI)) := o1.all (pack_byt hdI hd_ok)
       have hp1 := o1.room_le (by omega)
       have hp2 : 18 ≤ p1 ∧ p1 ≤ 9223372036854775807 := by simp only [maxLen] at hp1; omega
       have hp3 : (14 : Int) ≤ (p1 : Int) := by omega
       have hp4 : 14 ≤ p1 := by omega
       have HG8 : Hid (g1 < t1.heap.size) := o1.lt.2
       have HRL : Hid (Reads (t1.alloc (.cells #[.int .u8 83, .int .u8 72, .int .u8 65, .int .u8 76, .int .u8 1, .int .u8 8, .int .u8 0, .int .u8 4, .int .u8 0, .int .u8 1, .int .u8 8, .int .u8 0, .int .u8 32, .int .u8 0] 5)) (some ⟨g1, 0, none⟩) 14 hdP) := by have h9 := (HO8.out.front 14 (by omega)).below (below_alloc t1 (.cells #[.int .u8 83, .int .u8 72, .int .u8 65, .int .u8 76, .int .u8 1, .int .u8 8, .int .u8 0, .int .u8 4, .int .u8 0, .int .u8 1, .int .u8 8, .int .u8 0, .int .u8 32, .int .u8 0] 5)); rw [hd_take] at h9; exact h9
       clear b1 o1 hp1 n0 n1 n2 n3 n4)
    | (go_at_call 6; refine (no_any _ _).mono ?_; rintro e t9 ⟨rfl, ht9⟩; rw [ht9]; clear ht9)
    | (go_at_call 17; refine (same_eq _ _ _ _ _ hdP _ HRL.out (hd_reads t1)).mono ?_; rintro e t9 ⟨rfl, ht9⟩; rw [ht9]; clear ht9)
    | (go_at_call 12; refine (read_n g1 0 18 p1 (packL hdI) _ hd_len (HO8.out.below (below_alloc t1 (.cells #[.int .u8 83, .int .u8 72, .int .u8 65, .int .u8 76, .int .u8 1, .int .u8 8, .int .u8 0, .int .u8 4, .int .u8 0, .int .u8 1, .int .u8 8, .int .u8 0, .int .u8 32, .int .u8 0] 5))) (by omega) hp2.1 hp2.2 (by have := HG8.out; simp; omega) ((HTB.out.below HB8.out).below (below_alloc t1 (.cells #[.int .u8 83, .int .u8 72, .int .u8 65, .int .u8 76, .int .u8 1, .int .u8 8, .int .u8 0, .int .u8 4, .int .u8 0, .int .u8 1, .int .u8 8, .int .u8 0, .int .u8 32, .int .u8 0] 5)))).mono ?_; rintro e t2 ⟨res, b2⟩
       obtain ⟨g3, c3, gm, rfl, o3, m3⟩ := hd_res res
       have b3 : Below t1.heap.size t1 (t2.alloc (.cells #[.int .i64 8, .int .i64 4, .int .i64 1, .slice (some ⟨g3, 0, none⟩) 10016 c3, .slice (some ⟨gm, 0, none⟩) 8 8] 35)) := below_trans (below_trans (below_alloc t1 (.cells #[.int .u8 83, .int .u8 72, .int .u8 65, .int .u8 76, .int .u8 1, .int .u8 8, .int .u8 0, .int .u8 4, .int .u8 0, .int .u8 1, .int .u8 8, .int .u8 0, .int .u8 32, .int .u8 0] 5)) b2) (below_alloc _ _)
       have HX9 : Hid ((t2.alloc (.cells #[.int .i64 8, .int .i64 4, .int .i64 1, .slice (some ⟨g3, 0, none⟩) 10016 c3, .slice (some ⟨gm, 0, none⟩) 8 8] 35)).heap[w.heap.size]? = some (.cells #[.int .i64 8, .int .i64 4, .int .i64 1, .slice (some ⟨g, 0, none⟩) 10016 cp, .slice (some ⟨wr.heap.size, 0, none⟩) 8 8] 35 (0, 0))) := (b3.block _ (Array.getElem?_eq_some_iff.1 HX8.out).1).trans HX8.out
       have HB9 : Hid (Below w.heap.size w (t2.alloc (.cells #[.int .i64 8, .int .i64 4, .int .i64 1, .slice (some ⟨g3, 0, none⟩) 10016 c3, .slice (some ⟨gm, 0, none⟩) 8 8] 35))) := below_trans HB8.out b3
       have HRC9 : Hid (Reads (t2.alloc (.cells #[.int .i64 8, .int .i64 4, .int .i64 1, .slice (some ⟨g3, 0, none⟩) 10016 c3, .slice (some ⟨gm, 0, none⟩) 8 8] 35)) (some ⟨g, 0, none⟩) 10016 (List.replicate 10016 255)) := HRC8.out.below b3
       have HRM9 : Hid (ReadsB (t2.alloc (.cells #[.int .i64 8, .int .i64 4, .int .i64 1, .slice (some ⟨g3, 0, none⟩) 10016 c3, .slice (some ⟨gm, 0, none⟩) 8 8] 35)) (some ⟨wr.heap.size, 0, none⟩) 8 hdM) := HRM8.out.below b3
       have HQ9 : Hid (Reads (t2.alloc (.cells #[.int .i64 8, .int .i64 4, .int .i64 1, .slice (some ⟨g3, 0, none⟩) 10016 c3, .slice (some ⟨gm, 0, none⟩) 8 8] 35)) (some ⟨g3, 0, none⟩) 10016 (List.replicate 10016 255)) := (o3.all (fun x hx => by rw [List.eq_of_mem_replicate hx]; omega)).below (below_alloc _ _)
       have HM9 : Hid (ReadsB (t2.alloc (.cells #[.int .i64 8, .int .i64 4, .int .i64 1, .slice (some ⟨g3, 0, none⟩) 10016 c3, .slice (some ⟨gm, 0, none⟩) 8 8] 35)) (some ⟨gm, 0, none⟩) 8 hdM) := by have h9 := (m3.reads 8 (Nat.le_refl _)).below (below_alloc t2 (.cells #[.int .i64 8, .int .i64 4, .int .i64 1, .slice (some ⟨g3, 0, none⟩) 10016 c3, .slice (some ⟨gm, 0, none⟩) 8 8] 35)); exact h9
       have HN9 : Hid ((t2.alloc (.cells #[.int .i64 8, .int .i64 4, .int .i64 1, .slice (some ⟨g3, 0, none⟩) 10016 c3, .slice (some ⟨gm, 0, none⟩) 8 8] 35)).heap[t2.heap.size]? = some (.cells #[.int .i64 8, .int .i64 4, .int .i64 1, .slice (some ⟨g3, 0, none⟩) 10016 c3, .slice (some ⟨gm, 0, none⟩) 8 8] 35 (0, 0))) := heap_alloc_new _ _
       clear res b2 o3 m3 b3
       obtain ⟨n0, n1, n2, n3, n4⟩ := cells5 HX9.out
       obtain ⟨y0, y1, y2, y3, y4⟩ := cells5 HN9.out)
    | (go_at_call 13; refine (alike_eq 8 4 1 _ _ 10016 _ _ (List.replicate 10016 255) _ _ 8 _ _ hdM _ HQ9.out HRC9.out HM9.out HRM9.out (by omega)).mono ?_; rintro e t3 ⟨rfl, b4⟩
       have HXA : Hid (t3.heap[w.heap.size]? = some (.cells #[.int .i64 8, .int .i64 4, .int .i64 1, .slice (some ⟨g, 0, none⟩) 10016 cp, .slice (some ⟨wr.heap.size, 0, none⟩) 8 8] 35 (0, 0))) := (b4.block _ (Array.getElem?_eq_some_iff.1 HX9.out).1).trans HX9.out
       have HBA : Hid (Below w.heap.size w t3) := below_trans HB9.out b4
       clear b4 n0 n1 n2 n3 n4 y0 y1 y2 y3 y4
       obtain ⟨n0, n1, n2, n3, n4⟩ := cells5 HXA.out)
    | (go_at_call 18; refine (check_any 8 4 1 _ _ 10016 _ 8 _ _ (by omega) (by omega)).mono ?_; rintro e t4 ⟨rfl, b5⟩; rw [hd_chk]
       have HBB : Hid (Below w.heap.size w t4) := below_trans HBA.out b5
       clear b5 n0 n1 n2 n3 n4))
   go_ret
   exact ⟨rfl, HBB.out⟩
theorem box2i {w u : World} {b q s b' q' s' : Int} {vc vm vc' vm' : Value} (h : ((w.alloc (.cells #[.int .i64 b, .int .i64 q, .int .i64 s, vc, vm] 35)).alloc (.cells #[.int .i64 b', .int .i64 q', .int .i64 s', vc', vm'] 35)).grownBy u none) :
  (u.cell? ⟨w.heap.size, 0, none⟩ = some (.int .i64 b) ∧ u.cell? ⟨w.heap.size, 1, none⟩ = some (.int .i64 q) ∧ u.cell? ⟨w.heap.size, 2, none⟩ = some (.int .i64 s) ∧ u.cell? ⟨w.heap.size, 3, none⟩ = some vc ∧ u.cell? ⟨w.heap.size, 4, none⟩ = some vm) ∧
  (u.cell? ⟨w.heap.size + 1, 0, none⟩ = some (.int .i64 b') ∧ u.cell? ⟨w.heap.size + 1, 1, none⟩ = some (.int .i64 q') ∧ u.cell? ⟨w.heap.size + 1, 2, none⟩ = some (.int .i64 s') ∧ u.cell? ⟨w.heap.size + 1, 3, none⟩ = some vc' ∧ u.cell? ⟨w.heap.size + 1, 4, none⟩ = some vm') := by
 have e1 : (w.alloc (.cells #[.int .i64 b, .int .i64 q, .int .i64 s, vc, vm] 35)).heap.size = w.heap.size + 1 := by simp
 have a0 : ((w.alloc (.cells #[.int .i64 b, .int .i64 q, .int .i64 s, vc, vm] 35)).alloc (.cells #[.int .i64 b', .int .i64 q', .int .i64 s', vc', vm'] 35)).heap[w.heap.size]? = some (.cells #[.int .i64 b, .int .i64 q, .int .i64 s, vc, vm] 35) := by
  rw [Below.heap_alloc _ _ _ (by simp)]; exact heap_alloc_new _ _
 have a1 : ((w.alloc (.cells #[.int .i64 b, .int .i64 q, .int .i64 s, vc, vm] 35)).alloc (.cells #[.int .i64 b', .int .i64 q', .int .i64 s', vc', vm'] 35)).heap[w.heap.size + 1]? = some (.cells #[.int .i64 b', .int .i64 q', .int .i64 s', vc', vm'] 35) := by
  rw [← e1]; exact heap_alloc_new _ _
 have c0 := (h.block w.heap.size (by simp; omega) (by simp)).trans a0
 have c1 := (h.block (w.heap.size + 1) (by simp) (by simp)).trans a1
 clear h a0 a1 e1
 refine ⟨⟨?_, ?_, ?_, ?_, ?_⟩, ⟨?_, ?_, ?_, ?_, ?_⟩⟩
 all_goals first | (simp [World.cell?, c0]; done) | (simp [World.cell?, c1]; done)
def difE (b q s b' q' s' E1 E2 : Int) : Int := if E1 = 0 then (if E2 = 0 then (if b = b' ∧ q = q' ∧ s = s' then 0 else 40) else E2) else E1
set_option maxHeartbeats 2000000 in
set_option maxRecDepth 100000 in
theorem diff_err (b q s b' q' s' : Int) (a1 a2 a3 a4 : Option Addr) (n1 c1 n2 c2 n3 c3 n4 c4 : Nat) (w : World) (h1 : n1 ≤ 140737488355000) (h2 : n2 ≤ 140737488355000) (h3 : n3 ≤ 140737488355000) (h4 : n4 ≤ 140737488355000)
  (hE : difE b q s b' q' s' (chkE b q s n1 n2) (chkE b' q' s' n3 n4) ≠ 0) :
  Calls Tryd.prog 9 #[.agg #[.int .i64 b, .int .i64 q, .int .i64 s, .slice a1 n1 c1, .slice a2 n2 c2], .agg #[.int .i64 b', .int .i64 q', .int .i64 s', .slice a3 n3 c3, .slice a4 n4 c4]] w fun e w' =>
   e = .returned (.tuple #[.slice none 0 0, .int .i64 (difE b q s b' q' s' (chkE b q s n1 n2) (chkE b' q' s' n3 n4))]) ∧ Below w.heap.size w w' := by
 obtain ⟨E1, hE1⟩ : ∃ E, chkE b q s n1 n2 = E := ⟨_, rfl⟩
 obtain ⟨E2, hE2⟩ : ∃ E, chkE b' q' s' n3 n4 = E := ⟨_, rfl⟩
 rw [hE1, hE2] at hE ⊢
 have HE1 : Hid _ := hE1
 have HE2 : Hid _ := hE2
 have HN : Hid (n1 ≤ 140737488355000 ∧ n2 ≤ 140737488355000 ∧ n3 ≤ 140737488355000 ∧ n4 ≤ 140737488355000) := ⟨h1, h2, h3, h4⟩
 have HB0 : Hid (Below w.heap.size w ((w.alloc (.cells #[.int .i64 b, .int .i64 q, .int .i64 s, .slice a1 n1 c1, .slice a2 n2 c2] 35)).alloc (.cells #[.int .i64 b', .int .i64 q', .int .i64 s', .slice a3 n3 c3, .slice a4 n4 c4] 35))) := (below_alloc w _).alloc (below_alloc w _).size _
 clear hE1 hE2 h1 h2 h3 h4
 cases k1 : (E1 == 0) with
 | false =>
  have k1' : ¬ E1 = 0 := by simpa using k1
  have k2 : (E1 != 0) = true := by simpa using k1'
  have hd : difE b q s b' q' s' E1 E2 = E1 := by unfold difE; rw [if_neg k1']
  rw [hd]
  clear hE hd k1'
  go_enter Tryd.func9, Tryd.ntmps9
  go_wp2_with (go_at_call 18; refine (check_any b q s a1 a2 n1 c1 n2 c2 _ HN.out.1 HN.out.2.1).mono ?_; rintro e u1 ⟨rfl, b1⟩; rw [HE1.out]; obtain ⟨⟨x0, x1, x2, x3, x4⟩, y0, y1, y2, y3, y4⟩ := box2i (grown_of b1 none))
  go_ret2
  exact ⟨rfl, below_trans HB0.out b1⟩
 | true =>
  have k1' : E1 = 0 := by simpa using k1
  subst k1'
  cases k3 : (E2 == 0) with
  | false =>
   have k3' : ¬ E2 = 0 := by simpa using k3
   have k4 : (E2 != 0) = true := by simpa using k3'
   have hd : difE b q s b' q' s' 0 E2 = E2 := by unfold difE; rw [if_pos rfl, if_neg k3']
   rw [hd]
   clear hE hd k3'
   go_enter Tryd.func9, Tryd.ntmps9
   go_wp2_with (first
    | (go_at_call 18; have zz := M1; refine (check_any b' q' s' a3 a4 n3 c3 n4 c4 _ HN.out.2.2.1 HN.out.2.2.2).mono ?_; rintro e u2 ⟨rfl, b2⟩; rw [HE2.out]; clear x0 x1 x2 x3 x4 y0 y1 y2 y3 y4; obtain ⟨⟨x0, x1, x2, x3, x4⟩, y0, y1, y2, y3, y4⟩ := box2i (grownBy_trans (grown_of b1 none) (grown_of b2 none)))
    | (go_at_call 18; refine (check_any b q s a1 a2 n1 c1 n2 c2 _ HN.out.1 HN.out.2.1).mono ?_; rintro e u1 ⟨rfl, b1⟩; rw [HE1.out]; obtain ⟨⟨x0, x1, x2, x3, x4⟩, y0, y1, y2, y3, y4⟩ := box2i (grown_of b1 none); have M1 : Hid True := trivial))
   go_ret2
   exact ⟨rfl, below_trans HB0.out (below_trans b1 b2)⟩
  | true =>
   have k3' : E2 = 0 := by simpa using k3
   subst k3'
   have hne : ¬ (b = b' ∧ q = q' ∧ s = s') := fun e => hE (by unfold difE; rw [if_pos rfl, if_pos rfl, if_pos e])
   have hd : difE b q s b' q' s' 0 0 = 40 := by unfold difE; rw [if_pos rfl, if_pos rfl, if_neg hne]
   rw [hd]
   clear hE hd
   go_enter Tryd.func9, Tryd.ntmps9
   go_wp2_with (first
    | (go_at_call 18; have zz := M1; refine (check_any b' q' s' a3 a4 n3 c3 n4 c4 _ HN.out.2.2.1 HN.out.2.2.2).mono ?_; rintro e u2 ⟨rfl, b2⟩; rw [HE2.out]; clear x0 x1 x2 x3 x4 y0 y1 y2 y3 y4; obtain ⟨⟨x0, x1, x2, x3, x4⟩, y0, y1, y2, y3, y4⟩ := box2i (grownBy_trans (grown_of b1 none) (grown_of b2 none)))
    | (go_at_call 18; refine (check_any b q s a1 a2 n1 c1 n2 c2 _ HN.out.1 HN.out.2.1).mono ?_; rintro e u1 ⟨rfl, b1⟩; rw [HE1.out]; obtain ⟨⟨x0, x1, x2, x3, x4⟩, y0, y1, y2, y3, y4⟩ := box2i (grown_of b1 none); have M1 : Hid True := trivial))
   all_goals
    go_ret2
    exact ⟨rfl, below_trans HB0.out (below_trans b1 b2)⟩
theorem chk_nat {b p s : Int} {n m : Nat} (hE : chkE b p s n m = 0) : ∃ b' p' s' : Nat, b = (b' : Int) ∧ p = (p' : Int) ∧ s = (s' : Int) ∧ Fits (b' : Int) (p' : Int) (s' : Int) = true ∧ n = b' * p' * (256 * s' + (54 + 3 * s')) ∧ m = b' := by
 unfold chkE at hE
 split at hE
 ·rename_i hf
  split at hE
  ·rename_i h2
   have h0 := of_decide_eq_true hf
   obtain ⟨b', rfl⟩ := Int.eq_ofNat_of_zero_le (show 0 ≤ b by omega)
   obtain ⟨p', rfl⟩ := Int.eq_ofNat_of_zero_le (show 0 ≤ p by omega)
   obtain ⟨s', rfl⟩ := Int.eq_ofNat_of_zero_le (show 0 ≤ s by omega)
   refine ⟨b', p', s', rfl, rfl, rfl, hf, ?_, by omega⟩
   have h3 := h2.1
   unfold pgL at h3
   have e : (b' : Int) * (p' : Int) * (256 * (s' : Int) + (54 + 3 * (s' : Int))) = ((b' * p' * (256 * s' + (54 + 3 * s')) : Nat) : Int) := by
    have e2 : (256 * (s' : Int) + (54 + 3 * (s' : Int))) = ((256 * s' + (54 + 3 * s') : Nat) : Int) := by omega
    rw [e2, ← Int.natCast_mul, ← Int.natCast_mul]
   rw [e] at h3
   exact Int.ofNat.inj h3
  ·cases hE
 ·cases hE
theorem difE_zero {b q s b' q' s' E1 E2 : Int} (h : difE b q s b' q' s' E1 E2 = 0) : E1 = 0 ∧ E2 = 0 ∧ b = b' ∧ q = q' ∧ s = s' := by
 unfold difE at h
 split at h
 ·rename_i h1
  split at h
  ·rename_i h2
   split at h
   ·rename_i h3
    exact ⟨h1, h2, h3.1, h3.2.1, h3.2.2⟩
   ·cases h
  ·rename_i h2
   exact absurd h h2
 ·rename_i h1
  exact absurd h h1
def difD (b q s E : Int) (xs ys : List Int) (ms ns : List Bool) : List Pl := if E = 0 then dfL xs ys ms ns (256 * s.toNat + (54 + 3 * s.toNat)) q.toNat (b.toNat * q.toNat) else []
theorem dfL_len (xs ys : List Int) (ms ns : List Bool) (L p : Nat) : ∀ N, (dfL xs ys ms ns L p N).length ≤ 2 * N
 | 0 => by simp [dfL]
 | N + 1 => by
  have h1 := dfL_len xs ys ms ns L p N
  have h2 := dfN_len xs ys ms ns L p N
  have e : dfL xs ys ms ns L p (N + 1) = dfL xs ys ms ns L p N ++ dfN xs ys ms ns L p N := by unfold dfL; rw [List.range_succ, List.flatMap_append, List.flatMap_singleton]
  rw [e, List.length_append]
  omega
theorem diff_any (b q s b' q' s' : Int) (a1 a2 a3 a4 : Option Addr) (n1 c1 n2 c2 n3 c3 n4 c4 : Nat) (xs ys : List Int) (ms ns : List Bool) (w : World) (h1 : n1 ≤ 140737488355000) (h2 : n2 ≤ 140737488355000) (h3 : n3 ≤ 140737488355000) (h4 : n4 ≤ 140737488355000) (r1 : Reads w a1 n1 xs) (r2 : ReadsB w a2 n2 ms) (r3 : Reads w a3 n3 ys) (r4 : ReadsB w a4 n4 ns) (k1 : n1 ≤ c1 ∧ c1 ≤ 9223372036854775807) (k3 : n3 ≤ c3 ∧ c3 ≤ 9223372036854775807) :
  Calls Tryd.prog 9 #[.agg #[.int .i64 b, .int .i64 q, .int .i64 s, .slice a1 n1 c1, .slice a2 n2 c2], .agg #[.int .i64 b', .int .i64 q', .int .i64 s', .slice a3 n3 c3, .slice a4 n4 c4]] w fun e w' => ∃ v, e = .returned (.tuple #[v, .int .i64 (difE b q s b' q' s' (chkE b q s n1 n2) (chkE b' q' s' n3 n4))]) ∧ w'.ownsRow w.heap.size 45 2 v (difD b q s (difE b q s b' q' s' (chkE b q s n1 n2) (chkE b' q' s' n3 n4)) xs ys ms ns).length (flatP (difD b q s (difE b q s b' q' s' (chkE b q s n1 n2) (chkE b' q' s' n3 n4)) xs ys ms ns)) ∧ Below w.heap.size w w' := by
 by_cases hE : difE b q s b' q' s' (chkE b q s n1 n2) (chkE b' q' s' n3 n4) = 0
 ·rw [hE]
  obtain ⟨e1, e2, e3, e4, e5⟩ := difE_zero hE
  subst e3 e4 e5
  obtain ⟨b0, p0, s0, rfl, rfl, rfl, hf, hn, hm⟩ := chk_nat e1
  obtain ⟨b9, p9, s9, i1, i2, i3, _, hn', hm'⟩ := chk_nat e2
  have j1 := Int.ofNat.inj i1
  have j2 := Int.ofNat.inj i2
  have j3 := Int.ofNat.inj i3
  subst j1 j2 j3
  obtain rfl : n3 = n1 := by rw [hn, hn']
  obtain rfl : n4 = n2 := by rw [hm, hm']
  obtain ⟨q1, q2, q3, q4, q5, q6, q7⟩ := fits_nat hf
  have hp : 0 < n3 := by rw [hn]; exact Nat.mul_pos (Nat.mul_pos (by omega) (by omega)) (by omega)
  obtain ⟨bk, off, rfl, _⟩ := r1.pos hp
  obtain ⟨bk2, off2, rfl, _⟩ := r3.pos hp
  have hd : difD (b0 : Int) (p0 : Int) (s0 : Int) 0 xs ys ms ns = dfL xs ys ms ns (256 * s0 + (54 + 3 * s0)) p0 (b0 * p0) := by
   unfold difD
   rw [if_pos rfl]
   simp only [Int.toNat_natCast]
  rw [hd]
  exact diff_ok b0 p0 s0 bk off n3 c1 a2 n4 c2 bk2 off2 c3 a4 c4 xs ys ms ns (b0 * p0) (256 * s0 + (54 + 3 * s0)) w hf e1 rfl rfl hn hm r1 r3 r2 r4 k1.1 k1.2 k3.1 k3.2
 ·refine (diff_err b q s b' q' s' a1 a2 a3 a4 n1 c1 n2 c2 n3 c3 n4 c4 w h1 h2 h3 h4 hE).mono ?_
  rintro e w' ⟨rfl, hb⟩
  refine ⟨_, rfl, ?_, hb⟩
  unfold difD
  rw [if_neg hE]
  exact World.ownsRow_nil _ _ _ _
theorem dfN_mem {xs ys : List Int} {ms ns : List Bool} {L p k : Nat} {q : Pl} : q ∈ dfN xs ys ms ns L p k ↔ (k % p = 0 ∧ ms.getD (k / p) false ≠ ns.getD (k / p) false ∧ q = ⟨((k / p : Nat) : Int), -1⟩) ∨ (pgK xs L k ≠ pgK ys L k ∧ q = ⟨((k / p : Nat) : Int), ((k % p : Nat) : Int)⟩) := by
 unfold dfN
 rw [List.mem_append]
 constructor
 ·rintro (h | h)
  ·split at h
   ·next hh => exact Or.inl ⟨hh.1, hh.2, List.mem_singleton.1 h⟩
   ·cases h
  ·split at h
   ·cases h
   ·next hh => exact Or.inr ⟨hh, List.mem_singleton.1 h⟩
 ·rintro (⟨h1, h2, h3⟩ | ⟨h1, h2⟩)
  ·left
   rw [if_pos ⟨h1, h2⟩, h3]
   exact List.mem_singleton.2 rfl
  ·right
   rw [if_neg h1, h2]
   exact List.mem_singleton.2 rfl
theorem dfL_mem {xs ys : List Int} {ms ns : List Bool} {L p N : Nat} {q : Pl} : q ∈ dfL xs ys ms ns L p N ↔ ∃ k, k < N ∧ q ∈ dfN xs ys ms ns L p k := by
 unfold dfL
 rw [List.mem_flatMap]
 constructor
 ·rintro ⟨k, h1, h2⟩
  exact ⟨k, List.mem_range.1 h1, h2⟩
 ·rintro ⟨k, h1, h2⟩
  exact ⟨k, List.mem_range.2 h1, h2⟩
theorem same_dec (a a' : Option Addr) (n n' c c' : Nat) (xs ys : List Int) (w : World) (h : Reads w a n xs) (h' : Reads w a' n' ys) :
  Calls Tryd.prog 17 #[.slice a n c, .slice a' n' c'] w fun e w' => e = .returned (.bool (decide (xs = ys))) ∧ w' = w := by
 have e1 := conv a n c xs w h
 have e2 := conv a' n' c' ys w h'
 have HE : Hid _ := str_eq h.2.1 h'.2.1
 clear h h'
 go_enter Tryd.func17, Tryd.ntmps17
 go_wp2
 go_ret
 refine ⟨?_, rfl⟩
 exact ret_bool HE.out
theorem pack_len (M : Img) (h : M.Ok) : (packL M).length ≤ 900000000 := by
 obtain ⟨q1, q2, q3, q4, q5, q6, q7⟩ := fits_nat h.1
 have hb := packS_bound M.C (M.C + M.S) (chunks (M.C + M.S) (M.b * M.p) M.cs) ⟨headL M.b M.p M.s M.ms, 0, 0⟩ [] (chunks_len _ _ _ h.2.1) (by omega) (by rw [head_len]; omega) (by simp)
 have h2 := hb.2.1
 rw [chunks_count] at h2
 simp only at h2
 rw [head_len, h.2.2.1] at h2
 have h3 : M.b * M.p * (3 + (M.C + M.S)) ≤ 65536 * 2200 := Nat.mul_le_mul q7 (by unfold Img.C Img.S; omega)
 rw [packL, sealL, List.length_append]
 have h4 : (bodyL M).length ≤ 10 + (M.b + 7) / 8 + M.b * M.p * (3 + (M.C + M.S)) := h2
 have h5 : (le4 (sumL (nats (bodyL M)))).length = 4 := rfl
 omega
theorem img_of {b p s : Int} {n m : Nat} {zs : List Int} {bs : List Bool} (hE : chkE b p s n m = 0) (hz : zs.length = n) (hb : bs.length = m) (hby : Byt zs) :
  ∃ M : Img, M.Ok ∧ b = (M.b : Int) ∧ p = (M.p : Int) ∧ s = (M.s : Int) ∧ M.cs = zs ∧ M.ms = bs ∧ M.b = m := by
 unfold chkE at hE
 split at hE
 ·rename_i hf
  split at hE
  ·rename_i h2
   have h0 := of_decide_eq_true hf
   obtain ⟨b', rfl⟩ := Int.eq_ofNat_of_zero_le (show 0 ≤ b by omega)
   obtain ⟨p', rfl⟩ := Int.eq_ofNat_of_zero_le (show 0 ≤ p by omega)
   obtain ⟨s', rfl⟩ := Int.eq_ofNat_of_zero_le (show 0 ≤ s by omega)
   refine ⟨⟨b', p', s', zs, bs⟩, ⟨hf, ?_, ?_, hby⟩, rfl, rfl, rfl, rfl, rfl, by simp only; omega⟩
   ·have h3 := h2.1
    rw [hz]
    unfold pgL at h3
    have e : (b' : Int) * (p' : Int) * (256 * (s' : Int) + (54 + 3 * (s' : Int))) = ((b' * p' * (256 * s' + (54 + 3 * s')) : Nat) : Int) := by
     have e2 : (256 * (s' : Int) + (54 + 3 * (s' : Int))) = ((256 * s' + (54 + 3 * s') : Nat) : Int) := by omega
     rw [e2, ← Int.natCast_mul, ← Int.natCast_mul]
    rw [e] at h3
    exact Int.ofNat.inj h3
   ·rw [hb]; have := h2.2; simp only; omega
  ·cases hE
 ·cases hE
theorem packs_n {M : Img} (hok : M.Ok) {b p s : Int} {n m : Nat} {zs : List Int} {bs : List Bool} (hMb : b = (M.b : Int)) (hMp : p = (M.p : Int)) (hMs : s = (M.s : Int)) (hMc : M.cs = zs) (hMm : M.ms = bs) (hMn : M.b = m) {a a' : Option Addr} {c c' : Nat} (w : World) (hr : Reads w a n zs) (hrb : ReadsB w a' m bs) (hp : 0 < n) (hnc : n ≤ c) (hc : c ≤ 9223372036854775807) (ht : Tab w) :
  Calls Tryd.prog 11 #[.agg #[.int .i64 b, .int .i64 p, .int .i64 s, .slice a n c, .slice a' m c']] w fun e w' => ∃ g cap, e = .returned (.tuple #[.slice (some ⟨g, 0, none⟩) (packL M).length cap, .int .i64 0]) ∧ Own w' w.heap.size g (packL M).length cap (packL M) ∧ Below w.heap.size w w' := by
 subst hMb hMp hMs hMc hMm hMn
 obtain ⟨bk, off, rfl, hbk, _⟩ := hr.pos hp
 exact pack_ok M bk off n c a' M.b c' w hok hr hrb hbk hnc hc ht
theorem res_of {M : Img} (hok : M.Ok) {b p s : Int} {n m : Nat} {zs : List Int} {bs : List Bool} (hMb : b = (M.b : Int)) (hMp : p = (M.p : Int)) (hMs : s = (M.s : Int)) (hMc : M.cs = zs) (hMm : M.ms = bs) (hMn : M.b = m) (hz : zs.length = n) {w w' : World} {e : Ending} (h : RdRes w w' e (readR (packL M))) :
  ∃ g3 c3 gm, e = .returned (.tuple #[.agg #[.int .i64 b, .int .i64 p, .int .i64 s, .slice (some ⟨g3, 0, none⟩) n c3, .slice (some ⟨gm, 0, none⟩) m m], .int .i64 0]) ∧ Own w' w.heap.size g3 n c3 zs ∧ OwnB w' w.heap.size gm m m bs := by
 rw [back M hok] at h
 subst hMb hMp hMs hMc hMm hMn hz
 exact h
end Go.Proofs.YtnmnhgagnfodhaaDoor
