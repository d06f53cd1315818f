/-
  SEAT YtnmnhgagnfodhaaDoor: Nj.
-/
import Derived.Test.YtnmnhgagnfodhaaDoorMa
import Derived.Test.YtnmnhgagnfodhaaDoorMbe
import Derived.Test.YtnmnhgagnfodhaaDoorMz
namespace Go.Proofs.YtnmnhgagnfodhaaDoor
open Go.RowKit
set_option linter.unusedVariables false
theorem chk_ok {M : Img} (h : M.Ok) {n m : Nat} (hn : n = M.cs.length) (hm : m = M.ms.length) : chkE M.b M.p M.s n m = 0 := by
 obtain ⟨h1, h2, h3, h4⟩ := h
 unfold chkE
 rw [if_pos h1, if_pos]
 refine ⟨?_, by rw [hm, h3]⟩
 rw [hn, h2]
 unfold Img.C Img.S pgL
 rw [Int.natCast_mul, Int.natCast_mul, Int.natCast_add, Int.natCast_add, Int.natCast_mul, Int.natCast_mul]
 rfl
theorem cells5 {w : World} {q : Nat} {x0 x1 x2 x3 x4 : Value} {t : TypeId} (h : w.heap[q]? = some (.cells #[x0, x1, x2, x3, x4] t (0, 0))) :
  w.cell? ⟨q, 0, none⟩ = some x0 ∧ w.cell? ⟨q, 1, none⟩ = some x1 ∧ w.cell? ⟨q, 2, none⟩ = some x2 ∧ w.cell? ⟨q, 3, none⟩ = some x3 ∧ w.cell? ⟨q, 4, none⟩ = some x4 := by
 refine ⟨?_, ?_, ?_, ?_, ?_⟩ <;> simp [World.cell?, h]
theorem cells1 {w : World} {q : Nat} {x0 : Value} {t : TypeId} (h : w.heap[q]? = some (.cells #[x0] t (0, 0))) : w.cell? ⟨q, 0, none⟩ = some x0 ∧ w.frozen? ⟨q, 0, none⟩ = false := by
 refine ⟨?_, ?_⟩ <;> simp [World.cell?, World.frozen?, h]
theorem reads_lit (w : World) (x0 x1 x2 x3 : Nat) (f : Nat × Nat) (h0 : x0 < 256) (h1 : x1 < 256) (h2 : x2 < 256) (h3 : x3 < 256) (q : Nat) (h : w.heap[q]? = some (.cells #[.int .u8 (x0 : Int), .int .u8 (x1 : Int), .int .u8 (x2 : Int), .int .u8 (x3 : Int)] 5 f)) : Reads w (some ⟨q, 0, none⟩) 4 [(x0 : Int), (x1 : Int), (x2 : Int), (x3 : Int)] := by
 refine ⟨rfl, fun x hx => ?_, (fun h => by cases h), fun x hx i hi => ?_⟩
 ·simp only [List.mem_cons, List.not_mem_nil, or_false] at hx
  rcases hx with rfl | rfl | rfl | rfl <;> omega
 ·cases hx
  rw [plain_add, Nat.zero_add]
  match i, hi with
  | 0, _ => simp [World.cell?, h]
  | 1, _ => simp [World.cell?, h]
  | 2, _ => simp [World.cell?, h]
  | 3, _ => simp [World.cell?, h]
def noPanic (Q : Exit → Act → World → Prop) : Exit → Act → World → Prop
 | .panic _, _, _ => False
 | e, a, w => Q e a w
theorem noPanic_le {Q : Exit → Act → World → Prop} : ∀ (e : Exit) (a : Act) (w : World), noPanic Q e a w → Q e a w
 | .panic _, _, _, h => h.elim
 | .normal, _, _, h => h
 | .ret, _, _, h => h
 | .exit _, _, _, h => h
 | .goto _, _, _, h => h
 | .outgrown, _, _, h => h
attribute [local go_sem] Oper.semAt_some
set_option maxHeartbeats 4000000 in
set_option maxRecDepth 100000 in
theorem pack_ok (M : Img) (bk off n c : Nat) (a' : Option Addr) (m c' : Nat) (w : World) (hM : M.Ok) (hr : Reads w (some ⟨bk, off, none⟩) n M.cs) (hm : ReadsB w a' m M.ms) (hbk : bk < w.heap.size) (hnc : n ≤ c) (hc : c ≤ 9223372036854775807) (ht : Tab w) :
  Calls Tryd.prog 11 #[.agg #[.int .i64 (M.b : Int), .int .i64 (M.p : Int), .int .i64 (M.s : Int), .slice (some ⟨bk, off, none⟩) n c, .slice a' m c']] w fun e w' => ∃ g cap, e = .returned (.tuple #[.slice (some ⟨g, 0, none⟩) (packL M).length cap, .int .i64 0]) ∧ Own w' w.heap.size g (packL M).length cap (packL M) ∧ Below w.heap.size w w' := by
 have hnl := hr.1
 have hml := hm.1
 have hE : chkE M.b M.p M.s n m = 0 := chk_ok hM hnl.symm hml.symm
 obtain ⟨q1, q2, q3, q4, q5, q6, q7⟩ := fits_nat hM.1
 obtain ⟨hF, hcs, hms, hby⟩ := hM
 have hM' : Hid (M.Ok) := ⟨hF, hcs, hms, hby⟩
 obtain ⟨b, p, s, cs, ms⟩ := M
 simp only [Img.C, Img.S] at *
 obtain ⟨N, hN⟩ : ∃ N, b * p = N := ⟨_, rfl⟩
 obtain ⟨L, hL⟩ : ∃ L, 256 * s + (54 + 3 * s) = L := ⟨_, rfl⟩
 obtain ⟨C, hC⟩ : ∃ C, 256 * s = C := ⟨_, rfl⟩
 have hn1 : n = N * L := by rw [← hnl, hcs, hN, hL]
 have hNb : N ≤ 65536 := by omega
 have hLb : L ≤ 2200 := by omega
 have hnb : n ≤ 144179200 := by rw [hn1]; exact Nat.mul_le_mul hNb hLb
 have hmb : m = b := by omega
 have HE : Hid (chkE b p s n m = 0) := hE
 have HR : Hid (Reads w (some ⟨bk, off, none⟩) n cs) := hr
 have HMK : Hid (ReadsB w a' m ms) := hm
 have HT : Hid (Tab w) := ht
 have HFit : Hid (Fits (b : Int) (p : Int) (s : Int) = true) := hF
 have HN : Hid (b * p = N) := hN
 have HL : Hid (256 * s + (54 + 3 * s) = L) := hL
 have HC : Hid (256 * s = C) := hC
 have Hn : Hid (n = N * L) := hn1
 have Hcs : Hid (cs.length = n) := hnl
 have Hms : Hid (ms.length = m) := hml
 have Hmb : Hid (m = b) := hmb
 have hmb2 : m ≤ 4096 := by omega
 clear hE hr hm ht hF hcs hms hby hN hL hC hn1 hnl hml hmb
 have kc := fun (w : World) (C : Array Value) (n c : Nat) => Lib.run_convert_bytes_const (P := Tryd.prog) w 32 5 C n c Tryd.underlying32 Tryd.underlying5
 refine (callsIn_wide (n := 3)).1 ?_
 refine callsIn_of_wp_marks Tryd.func11 rfl trivial ?_ rfl
 refine wpIn_mono ?_ noPanic_le
 simp only [Tryd.ntmps11, List.size_toArray, List.length_cons, List.length_nil, Nat.reduceAdd, Nat.reduceSub, Array.replicate_succ, Array.replicate_zero, List.push_toArray, List.append_toArray, List.nil_append, List.cons_append]
 refine wpIn_wide.2 ?_
 go_upto_region 9 with (first
  | (go_at_call 18; refine (check_any b p s (some ⟨bk, off, none⟩) a' n c m c' _ (by omega) (by omega)).mono ?_; rintro e u1 ⟨rfl, b1⟩; rw [HE.out]; have g1 := grown_of b1 none; obtain ⟨c0, c1, c2, c3, c4⟩ := box5 g1
     have HB1 : Hid _ := b1; clear b1 g1; have T0 : Hid True := trivial)
  | (go_at_call 32; have zz := T0; clear T0 zz
     have hm0 : u1.heap[w.heap.size]? = some (.cells #[.int .i64 (b : Int), .int .i64 (p : Int), .int .i64 (s : Int), .slice (some ⟨bk, off, none⟩) n c, .slice a' m c'] 35 (0, 0)) := (HB1.out.block w.heap.size (by simp)).trans (heap_alloc_new w _)
     have hlt0 := (Array.getElem?_eq_some_iff.1 hm0).1
     have hm1 : (((u1.alloc (.cells #[.int .u8 83, .int .u8 72, .int .u8 65, .int .u8 76] 5 (4, 5))).alloc (.cells #[.slice (some ⟨u1.heap.size, 0, none⟩) 4 4, .int .i64 0, .int .i64 0] 89)).alloc (.cells #[.pointer (some ⟨u1.heap.size + 1, 0, none⟩)] 87)).heap[w.heap.size]? = some (.cells #[.int .i64 (b : Int), .int .i64 (p : Int), .int .i64 (s : Int), .slice (some ⟨bk, off, none⟩) n c, .slice a' m c'] 35 (0, 0)) := by
      rw [Below.heap_alloc _ _ _ (by simp; omega), Below.heap_alloc _ _ _ (by simp; omega), Below.heap_alloc _ _ _ hlt0]; exact hm0
     have hg1 : (((u1.alloc (.cells #[.int .u8 83, .int .u8 72, .int .u8 65, .int .u8 76] 5 (4, 5))).alloc (.cells #[.slice (some ⟨u1.heap.size, 0, none⟩) 4 4, .int .i64 0, .int .i64 0] 89)).alloc (.cells #[.pointer (some ⟨u1.heap.size + 1, 0, none⟩)] 87)).heap[u1.heap.size]? = some (.cells #[.int .u8 83, .int .u8 72, .int .u8 65, .int .u8 76] 5 (4, 5)) := by
      rw [Below.heap_alloc _ _ _ (by simp; omega), Below.heap_alloc _ _ _ (by simp)]; exact heap_alloc_new _ _
     have hq1 : (((u1.alloc (.cells #[.int .u8 83, .int .u8 72, .int .u8 65, .int .u8 76] 5 (4, 5))).alloc (.cells #[.slice (some ⟨u1.heap.size, 0, none⟩) 4 4, .int .i64 0, .int .i64 0] 89)).alloc (.cells #[.pointer (some ⟨u1.heap.size + 1, 0, none⟩)] 87)).heap[u1.heap.size + 1]? = some (.cells #[.slice (some ⟨u1.heap.size, 0, none⟩) 4 4, .int .i64 0, .int .i64 0] 89 (0, 0)) := by
      rw [Below.heap_alloc _ _ _ (by simp)]; have h9 := heap_alloc_new (u1.alloc (.cells #[.int .u8 83, .int .u8 72, .int .u8 65, .int .u8 76] 5 (4, 5))) (.cells #[.slice (some ⟨u1.heap.size, 0, none⟩) 4 4, .int .i64 0, .int .i64 0] 89); rw [World.size_alloc] at h9; exact h9
     have hp1 : (((u1.alloc (.cells #[.int .u8 83, .int .u8 72, .int .u8 65, .int .u8 76] 5 (4, 5))).alloc (.cells #[.slice (some ⟨u1.heap.size, 0, none⟩) 4 4, .int .i64 0, .int .i64 0] 89)).alloc (.cells #[.pointer (some ⟨u1.heap.size + 1, 0, none⟩)] 87)).heap[u1.heap.size + 1 + 1]? = some (.cells #[.pointer (some ⟨u1.heap.size + 1, 0, none⟩)] 87 (0, 0)) := by
      have h9 := heap_alloc_new ((u1.alloc (.cells #[.int .u8 83, .int .u8 72, .int .u8 65, .int .u8 76] 5 (4, 5))).alloc (.cells #[.slice (some ⟨u1.heap.size, 0, none⟩) 4 4, .int .i64 0, .int .i64 0] 89)) (.cells #[.pointer (some ⟨u1.heap.size + 1, 0, none⟩)] 87); rw [World.size_alloc, World.size_alloc] at h9; exact h9
     have hBu : w.heap.size ≤ u1.heap.size := by omega
     have hBW1 : Below w.heap.size w (((u1.alloc (.cells #[.int .u8 83, .int .u8 72, .int .u8 65, .int .u8 76] 5 (4, 5))).alloc (.cells #[.slice (some ⟨u1.heap.size, 0, none⟩) 4 4, .int .i64 0, .int .i64 0] 89)).alloc (.cells #[.pointer (some ⟨u1.heap.size + 1, 0, none⟩)] 87)) := ((((below_alloc w _).trans (HB1.out.mono (by simp))).alloc hBu _).alloc (by simp; omega) _).alloc (by simp; omega) _
     have HBW1 : Hid _ := hBW1
     refine (number_first w.heap.size (u1.heap.size + 1) 4 ⟨u1.heap.size, 0, none⟩ [83, 72, 65, 76] 0 0 1 1 _ hq1 (reads_lit _ 83 72 65 76 (4, 5) (by decide) (by decide) (by decide) (by decide) _ hg1) (by omega) (by omega) (by omega) (by omega) (by omega) (by omega)).mono ?_
     rintro e u2 ⟨rfl, wr, kw⟩
     have WR2 : Hid (WrAt u2 w.heap.size (u1.heap.size + 1) ⟨([83, 72, 65, 76] ++ leN 1 1), 0, 0⟩) := wr
     have KW2 : Hid (Kw w.heap.size (((u1.alloc (.cells #[.int .u8 83, .int .u8 72, .int .u8 65, .int .u8 76] 5 (4, 5))).alloc (.cells #[.slice (some ⟨u1.heap.size, 0, none⟩) 4 4, .int .i64 0, .int .i64 0] 89)).alloc (.cells #[.pointer (some ⟨u1.heap.size + 1, 0, none⟩)] 87)) u2) := kw
     have HM2 : Hid (u2.heap[w.heap.size]? = some (.cells #[.int .i64 (b : Int), .int .i64 (p : Int), .int .i64 (s : Int), .slice (some ⟨bk, off, none⟩) n c, .slice a' m c'] 35 (0, 0))) := Kw.blk kw hm1 (by decide) (by decide)
     have HP2 : Hid (u2.heap[u1.heap.size + 1 + 1]? = some (.cells #[.pointer (some ⟨u1.heap.size + 1, 0, none⟩)] 87 (0, 0))) := Kw.blk kw hp1 (by decide) (by decide)
     clear wr kw c0 c1 c2 c3 c4 hm0 hm1 hg1 hq1 hp1 hlt0 hBW1
     obtain ⟨c0, c1, c2, c3, c4⟩ := cells5 HM2.out
     obtain ⟨d0, f0⟩ := cells1 HP2.out
     have T2 : Hid True := trivial)
  | (go_at_call 32; have zz := T2; clear T2 zz
     refine (number_any w.heap.size (u1.heap.size + 1) ⟨([83, 72, 65, 76] ++ leN 1 1), 0, 0⟩ 2 (b : Int) _ WR2.out (by simp only [List.length_append, List.length_cons, List.length_nil, leN_length]; omega) (by omega) (by omega) (by omega) (by omega)).mono ?_
     rintro e u3 ⟨rfl, wr, kw⟩
     have WR3 : Hid (WrAt u3 w.heap.size (u1.heap.size + 1) ⟨(([83, 72, 65, 76] ++ leN 1 1) ++ leN 2 (b : Int)), 0, 0⟩) := wr
     have KW3 : Hid (Kw w.heap.size (((u1.alloc (.cells #[.int .u8 83, .int .u8 72, .int .u8 65, .int .u8 76] 5 (4, 5))).alloc (.cells #[.slice (some ⟨u1.heap.size, 0, none⟩) 4 4, .int .i64 0, .int .i64 0] 89)).alloc (.cells #[.pointer (some ⟨u1.heap.size + 1, 0, none⟩)] 87)) u3) := KW2.out.trans kw
     have HM3 : Hid (u3.heap[w.heap.size]? = some (.cells #[.int .i64 (b : Int), .int .i64 (p : Int), .int .i64 (s : Int), .slice (some ⟨bk, off, none⟩) n c, .slice a' m c'] 35 (0, 0))) := Kw.blk kw HM2.out (by decide) (by decide)
     have HP3 : Hid (u3.heap[u1.heap.size + 1 + 1]? = some (.cells #[.pointer (some ⟨u1.heap.size + 1, 0, none⟩)] 87 (0, 0))) := Kw.blk kw HP2.out (by decide) (by decide)
     clear wr kw c0 c1 c2 c3 c4 d0 f0
     obtain ⟨c0, c1, c2, c3, c4⟩ := cells5 HM3.out
     obtain ⟨d0, f0⟩ := cells1 HP3.out
     have T3 : Hid True := trivial)
  | (go_at_call 32; have zz := T3; clear T3 zz
     refine (number_any w.heap.size (u1.heap.size + 1) ⟨(([83, 72, 65, 76] ++ leN 1 1) ++ leN 2 (b : Int)), 0, 0⟩ 2 (p : Int) _ WR3.out (by simp only [List.length_append, List.length_cons, List.length_nil, leN_length]; omega) (by omega) (by omega) (by omega) (by omega)).mono ?_
     rintro e u4 ⟨rfl, wr, kw⟩
     have WR4 : Hid (WrAt u4 w.heap.size (u1.heap.size + 1) ⟨((([83, 72, 65, 76] ++ leN 1 1) ++ leN 2 (b : Int)) ++ leN 2 (p : Int)), 0, 0⟩) := wr
     have KW4 : Hid (Kw w.heap.size (((u1.alloc (.cells #[.int .u8 83, .int .u8 72, .int .u8 65, .int .u8 76] 5 (4, 5))).alloc (.cells #[.slice (some ⟨u1.heap.size, 0, none⟩) 4 4, .int .i64 0, .int .i64 0] 89)).alloc (.cells #[.pointer (some ⟨u1.heap.size + 1, 0, none⟩)] 87)) u4) := KW3.out.trans kw
     have HM4 : Hid (u4.heap[w.heap.size]? = some (.cells #[.int .i64 (b : Int), .int .i64 (p : Int), .int .i64 (s : Int), .slice (some ⟨bk, off, none⟩) n c, .slice a' m c'] 35 (0, 0))) := Kw.blk kw HM3.out (by decide) (by decide)
     have HP4 : Hid (u4.heap[u1.heap.size + 1 + 1]? = some (.cells #[.pointer (some ⟨u1.heap.size + 1, 0, none⟩)] 87 (0, 0))) := Kw.blk kw HP3.out (by decide) (by decide)
     clear wr kw c0 c1 c2 c3 c4 d0 f0
     obtain ⟨c0, c1, c2, c3, c4⟩ := cells5 HM4.out
     obtain ⟨d0, f0⟩ := cells1 HP4.out
     have T4 : Hid True := trivial)
  | (go_at_call 32; have zz := T4; clear T4 zz
     refine (number_any w.heap.size (u1.heap.size + 1) ⟨((([83, 72, 65, 76] ++ leN 1 1) ++ leN 2 (b : Int)) ++ leN 2 (p : Int)), 0, 0⟩ 1 (s : Int) _ WR4.out (by simp only [List.length_append, List.length_cons, List.length_nil, leN_length]; omega) (by omega) (by omega) (by omega) (by omega)).mono ?_
     rintro e u5 ⟨rfl, wr, kw⟩
     have WR5 : Hid (WrAt u5 w.heap.size (u1.heap.size + 1) ⟨(((([83, 72, 65, 76] ++ leN 1 1) ++ leN 2 (b : Int)) ++ leN 2 (p : Int)) ++ leN 1 (s : Int)), 0, 0⟩) := wr
     have KW5 : Hid (Kw w.heap.size (((u1.alloc (.cells #[.int .u8 83, .int .u8 72, .int .u8 65, .int .u8 76] 5 (4, 5))).alloc (.cells #[.slice (some ⟨u1.heap.size, 0, none⟩) 4 4, .int .i64 0, .int .i64 0] 89)).alloc (.cells #[.pointer (some ⟨u1.heap.size + 1, 0, none⟩)] 87)) u5) := KW4.out.trans kw
     have HM5 : Hid (u5.heap[w.heap.size]? = some (.cells #[.int .i64 (b : Int), .int .i64 (p : Int), .int .i64 (s : Int), .slice (some ⟨bk, off, none⟩) n c, .slice a' m c'] 35 (0, 0))) := Kw.blk kw HM4.out (by decide) (by decide)
     have HP5 : Hid (u5.heap[u1.heap.size + 1 + 1]? = some (.cells #[.pointer (some ⟨u1.heap.size + 1, 0, none⟩)] 87 (0, 0))) := Kw.blk kw HP4.out (by decide) (by decide)
     clear wr kw c0 c1 c2 c3 c4 d0 f0
     obtain ⟨c0, c1, c2, c3, c4⟩ := cells5 HM5.out
     obtain ⟨d0, f0⟩ := cells1 HP5.out
     have T5 : Hid True := trivial))
 obtain ⟨g5, cc5, hq5, own5, hBq, by5⟩ := WR5.out
 have hl5 : (((([83, 72, 65, 76] ++ leN 1 1) ++ leN 2 (b : Int)) ++ leN 2 (p : Int)) ++ leN 1 (s : Int)).length = 10 := by simp only [List.length_append, List.length_cons, List.length_nil, leN_length]
 simp only [hl5] at hq5 own5
 have HQ5 : Hid (u5.heap[u1.heap.size + 1]? = some (.cells #[.slice (some ⟨g5, 0, none⟩) 10 cc5, .int .i64 0, .int .i64 0] 89 (0, 0))) := hq5
 have HO5 : Hid (Own u5 w.heap.size g5 10 cc5 (((([83, 72, 65, 76] ++ leN 1 1) ++ leN 2 (b : Int)) ++ leN 2 (p : Int)) ++ leN 1 (s : Int))) := own5
 have HY5 : Hid (Byt (((([83, 72, 65, 76] ++ leN 1 1) ++ leN 2 (b : Int)) ++ leN 2 (p : Int)) ++ leN 1 (s : Int))) := by5
 clear hq5 own5 by5 hl5
 obtain ⟨L5, hL5⟩ : ∃ L5 : List Int, (((([83, 72, 65, 76] ++ leN 1 1) ++ leN 2 (b : Int)) ++ leN 2 (p : Int)) ++ leN 1 (s : Int)) = L5 := ⟨_, rfl⟩
 rw [hL5] at HO5 HY5
 have HL5 : Hid ((((([83, 72, 65, 76] ++ leN 1 1) ++ leN 2 (b : Int)) ++ leN 2 (p : Int)) ++ leN 1 (s : Int)) = L5) := hL5
 clear hL5 WR5 WR4 WR3 WR2
 have hB5 : w.heap.size ≤ u5.heap.size := Nat.le_trans HBW1.out.size KW5.out.bel.size
 have HMK5 : Hid (ReadsB u5.drew a' m ms) := by
  obtain ⟨k1, k2, k3⟩ := HMK.out
  refine ⟨k1, k2, fun x hx i hi => ?_⟩
  have h1 := k3 x hx i hi
  have h2 := (HBW1.out.trans KW5.out.bel).cell (block_lt_of_cell h1)
  exact h2.trans h1
 obtain ⟨i0, hi0, hz0, hz1, hz2⟩ := info_parts info5
 refine wp_region_held_drew (S := (fun x : World => x.cell? ⟨u1.heap.size + 1 + 1, 0, none⟩ = some (.pointer (some ⟨u1.heap.size + 1, 0, none⟩)) ∧ x.cell? ⟨w.heap.size, 4, none⟩ = some (.slice a' m c'))) (by kernel_rfl) (⟨(cells1 HP5.out).1, (cells5 HM5.out).2.2.2.2⟩) (fun hHeld => ?_)
 refine tk 0 ?_
 refine tk 1 ?_
 refine tk 2 ?_
 refine tk 3 ?_
 refine tk 5 ?_
 refine tk 6 ?_
 refine wpAnyH_two (S' := (fun x : World => x.cell? ⟨u1.heap.size + 1, 0, none⟩ = some (.slice (some ⟨g5, 0, none⟩) 10 cc5))) (i := 4) (j := 7) (oi := { dst := some 39, op := Op.load 32 (Operand.tmp 38), type := 32, pos := "pack.go:47", after := #[{ on := 3, ground := Ground.data }], guard := none }) (oj := { dst := some 42, op := Op.call { callee := Callee.value (Operand.func 33), args := #[Operand.tmp 41], argTypes := #[33] }, type := 32, pos := "pack.go:47", after := #[{ on := 6, ground := Ground.data }], guard := none }) (v := ?v4p) rfl rfl (by decide) (by kernel_rfl) (by kernel_rfl) [4, 7] (by simp) (by kernel_rfl) (by kernel_rfl) (by kernel_rfl) (fun _ _ _ h => h) (Or.inl ⟨by rfl, ?y4p⟩) hHeld ((blk3_cells HQ5.out).1) ?r4p
 case y4p => (intro x hx; (try dsimp only at hx); go_simp; try with_reducible rfl)
 intro K hK
 try simp only [Act.put, zSt, zS0, zS1]
 go_simp
 go_at_call 33
 refine (bits_any a' m c' ms _ (by omega) HMK5.out).mono ?_
 rintro e u6 ⟨g6, rfl, own6, b6⟩
 have HO6 : Hid (Own u6 u5.heap.size g6 ((m + 7) / 8) ((m + 7) / 8) (bitsOf ms)) := own6
 have HB6 : Hid (Below u5.heap.size u5 u6) := ((Below.refl u5.heap.size u5).drew).trans b6
 have HQ6 : Hid _ := (HB6.out.block (u1.heap.size + 1) (Array.getElem?_eq_some_iff.1 HQ5.out).1).trans HQ5.out
 have HM6 : Hid _ := (HB6.out.block w.heap.size (Array.getElem?_eq_some_iff.1 HM5.out).1).trans HM5.out
 have HP6 : Hid _ := (HB6.out.block (u1.heap.size + 1 + 1) (Array.getElem?_eq_some_iff.1 HP5.out).1).trans HP5.out
 clear own6 b6
 have hSnew := And.intro (cells1 HP6.out).1 (cells5 HM6.out).2.2.2.2
 have hS2new := (blk3_cells HQ6.out).1
 go_wp2_with fail
 refine hK.out _ _ hSnew hS2new ?_
 clear hHeld
 have hHeld := hSnew
 clear hK K hSnew hS2new
 try simp only [Act.put, zSt, zS0, zS1]
 refine rd 8 (fun K hK => ?_)
 refine step_append_src (by rfl) (.tmp 39) (.tmp 42) 32 (by rfl) w.heap.size 5 i0 _ 1 1 Tryd.underlying32 hi0 hz0 hz1 hz2 rfl (by decide) (.slice (some ⟨g5, 0, none⟩) 10 cc5) 10 (L5.map (Value.int .u8)) (by rfl) (Own.below HO5.out HB6.out) (some ⟨g6, 0, none⟩) ((m + 7) / 8) ((m + 7) / 8) ((bitsOf ms).map (Value.int .u8)) (by rfl) (Reads.rv (Own.all HO6.out (bitsOf_byt ms))) (ints_oneCell _ _) (by simp only [maxLen]; omega) (by omega) (Nat.le_trans hB5 HB6.out.size) ?_
 intro v7 u7 own7 grow7
 obtain ⟨g7, cc7, rfl⟩ : ∃ g7 c7, v7 = .slice (some ⟨g7, 0, none⟩) (10 + (m + 7) / 8) c7 := by obtain ⟨g7, c7, h7, _⟩ := own_shape own7 (by omega); exact ⟨g7, c7, h7⟩
 have HQ7 : Hid (u7.heap[u1.heap.size + 1]? = some (.cells #[.slice (some ⟨g5, 0, none⟩) 10 cc5, .int .i64 0, .int .i64 0] 89 (0, 0))) := (grow7.block (u1.heap.size + 1) (Array.getElem?_eq_some_iff.1 HQ6.out).1 (fun e => (Own.ne (Own.below HO5.out HB6.out) HQ6.out (by decide)) (by cases e; rfl))).trans HQ6.out
 have HO7 : Hid (Own u7 w.heap.size g7 (10 + (m + 7) / 8) cc7 (L5 ++ bitsOf ms)) := by have h9 := own7; rw [← List.map_append] at h9; exact h9
 have KW7 : Hid (Kw w.heap.size u6 u7) := Kw.of_own (Own.below HO5.out HB6.out) (Nat.le_trans hB5 HB6.out.size) grow7
 have HM7 : Hid (u7.heap[w.heap.size]? = some (.cells #[.int .i64 (b : Int), .int .i64 (p : Int), .int .i64 (s : Int), .slice (some ⟨bk, off, none⟩) n c, .slice a' m c'] 35 (0, 0))) := Kw.blk KW7.out HM6.out (by decide) (by decide)
 have HP7 : Hid (u7.heap[u1.heap.size + 1 + 1]? = some (.cells #[.pointer (some ⟨u1.heap.size + 1, 0, none⟩)] 87 (0, 0))) := Kw.blk KW7.out HP6.out (by decide) (by decide)
 clear own7 grow7
 obtain ⟨e0, e1, e2, f1, f2, f3⟩ := blk3_cells HQ7.out
 have hSnew := And.intro (cells1 HP7.out).1 (cells5 HM7.out).2.2.2.2
 clear hHeld
 refine hK.out _ _ hSnew (fun hHeld => ?_)
 clear hK K hSnew
 try simp only [Act.put, zSt, zS0, zS1]
 refine tk 9 ?_
 refine tk 10 ?_
 refine rd 11 (fun K hK => ?_)
 go_simp
 go_wp2_with fail
 have KW8 : Hid (Kw w.heap.size u7 (u7.setCell ⟨u1.heap.size + 1, 0, none⟩ (.slice (some ⟨g7, 0, none⟩) (10 + (m + 7) / 8) cc7))) := Kw.of_box HQ7.out hBq (Nat.le_trans (Nat.le_trans hB5 HB6.out.size) KW7.out.bel.size) (grownBy_setCell' u7 (u1.heap.size + 1) _)
 have HM8 : Hid ((u7.setCell ⟨u1.heap.size + 1, 0, none⟩ (.slice (some ⟨g7, 0, none⟩) (10 + (m + 7) / 8) cc7)).heap[w.heap.size]? = some (.cells #[.int .i64 (b : Int), .int .i64 (p : Int), .int .i64 (s : Int), .slice (some ⟨bk, off, none⟩) n c, .slice a' m c'] 35 (0, 0))) := Kw.blk KW8.out HM7.out (by decide) (by decide)
 have HP8 : Hid ((u7.setCell ⟨u1.heap.size + 1, 0, none⟩ (.slice (some ⟨g7, 0, none⟩) (10 + (m + 7) / 8) cc7)).heap[u1.heap.size + 1 + 1]? = some (.cells #[.pointer (some ⟨u1.heap.size + 1, 0, none⟩)] 87 (0, 0))) := Kw.blk KW8.out HP7.out (by decide) (by decide)
 have HQ8 : Hid ((u7.setCell ⟨u1.heap.size + 1, 0, none⟩ (.slice (some ⟨g7, 0, none⟩) (10 + (m + 7) / 8) cc7)).heap[u1.heap.size + 1]? = some (.cells #[.slice (some ⟨g7, 0, none⟩) (10 + (m + 7) / 8) cc7, .int .i64 0, .int .i64 0] 89 (0, 0))) := blk3_0 HQ7.out _
 have HO8 : Hid (Own (u7.setCell ⟨u1.heap.size + 1, 0, none⟩ (.slice (some ⟨g7, 0, none⟩) (10 + (m + 7) / 8) cc7)) w.heap.size g7 (10 + (m + 7) / 8) cc7 (L5 ++ bitsOf ms)) := Own.apart HO7.out (set_grown u7 _ 0 _) (Own.ne HO7.out HQ7.out (by decide)).symm
 clear e0 e1 e2 f1 f2 f3
 have hSnew := And.intro (cells1 HP8.out).1 (cells5 HM8.out).2.2.2.2
 clear hHeld
 refine hK.out _ _ hSnew (fun hHeld => ?_)
 clear hK K hSnew
 try simp only [Act.put, zSt, zS0, zS1]
 refine wpAnyH_done (by kernel_rfl) ?_ _
 obtain ⟨u8, hu8⟩ : ∃ u8, (u7.setCell ⟨u1.heap.size + 1, 0, none⟩ (.slice (some ⟨g7, 0, none⟩) (10 + (m + 7) / 8) cc7)) = u8 := ⟨_, rfl⟩
 rw [hu8] at HM8 HP8 HQ8 HO8 KW8 ⊢
 clear hu8 c0 c1 c2 c3 c4 d0 f0 hHeld HQ7 HO7 HM7 HP7 HM6 HP6 HQ6 HO6 HM5 HP5 HQ5 HO5 HMK5 HM4 HM3 HM2 HP4 HP3 HP2 KW4 KW3 KW2
 have HM9 : Hid ((u8.alloc (.cells #[.slice none 0 0] 32)).heap[w.heap.size]? = some (.cells #[.int .i64 (b : Int), .int .i64 (p : Int), .int .i64 (s : Int), .slice (some ⟨bk, off, none⟩) n c, .slice a' m c'] 35 (0, 0))) := (Below.heap_alloc _ _ _ (Array.getElem?_eq_some_iff.1 HM8.out).1).trans HM8.out
 have HP9 : Hid ((u8.alloc (.cells #[.slice none 0 0] 32)).heap[u1.heap.size + 1 + 1]? = some (.cells #[.pointer (some ⟨u1.heap.size + 1, 0, none⟩)] 87 (0, 0))) := (Below.heap_alloc _ _ _ (Array.getElem?_eq_some_iff.1 HP8.out).1).trans HP8.out
 obtain ⟨c0, c1, c2, c3, c4⟩ := cells5 HM9.out
 go_wp2_with (go_at_call 29; refine (pages_any b p s (some ⟨bk, off, none⟩) n c a' m c' _).mono ?_; rintro e u9 ⟨rfl, hu9⟩; rw [hu9]; clear hu9)
 have hBu8 : w.heap.size ≤ u8.heap.size := Nat.le_trans (Nat.le_trans (Nat.le_trans hB5 HB6.out.size) KW7.out.bel.size) KW8.out.bel.size
 have HB8 : Hid (Below w.heap.size w u8) := (((HBW1.out.trans KW5.out.bel).trans (HB6.out.mono hB5)).trans KW7.out.bel).trans KW8.out.bel
 have HB9 : Hid (Below w.heap.size w ((u8.alloc (.cells #[.slice none 0 0] 32)).alloc (.cells #[.int .i64 (b : Int), .int .i64 (p : Int), .int .i64 (s : Int), .slice (some ⟨bk, off, none⟩) n c, .slice a' m c'] 35))) := (HB8.out.alloc hBu8 _).alloc (by simp; omega) _
 have hWr9 : WrAt ((u8.alloc (.cells #[.slice none 0 0] 32)).alloc (.cells #[.int .i64 (b : Int), .int .i64 (p : Int), .int .i64 (s : Int), .slice (some ⟨bk, off, none⟩) n c, .slice a' m c'] 35)) w.heap.size (u1.heap.size + 1) ⟨L5 ++ bitsOf ms, 0, 0⟩ := by
  have h8 : WrAt u8 w.heap.size (u1.heap.size + 1) ⟨L5 ++ bitsOf ms, 0, 0⟩ := by
   refine ⟨g7, cc7, ?_, ?_, hBq, ?_⟩
   ·simp only [List.length_append, bitsOf_length, Hms.out, ← HL5.out, List.length_cons, List.length_nil, leN_length]
    exact HQ8.out
   ·have h9 := HO8.out
    have hl : (L5 ++ bitsOf ms).length = 10 + (m + 7) / 8 := by simp only [List.length_append, bitsOf_length, Hms.out, ← HL5.out, List.length_cons, List.length_nil, leN_length]
    simp only [hl]
    exact h9
   ·intro x hx
    rcases List.mem_append.1 hx with h | h
    ·exact HY5.out x h
    ·exact bitsOf_byt ms x h
  exact h8.below (((Below.refl _ u8).alloc (Nat.le_refl _) _).alloc (by simp) _)
 have hM10 : ((u8.alloc (.cells #[.slice none 0 0] 32)).alloc (.cells #[.int .i64 (b : Int), .int .i64 (p : Int), .int .i64 (s : Int), .slice (some ⟨bk, off, none⟩) n c, .slice a' m c'] 35)).heap[w.heap.size]? = some (.cells #[.int .i64 (b : Int), .int .i64 (p : Int), .int .i64 (s : Int), .slice (some ⟨bk, off, none⟩) n c, .slice a' m c'] 35 (0, 0)) := (Below.heap_alloc _ _ _ (by have := (Array.getElem?_eq_some_iff.1 HM9.out).1; exact this)).trans HM9.out
 have hP10 : ((u8.alloc (.cells #[.slice none 0 0] 32)).alloc (.cells #[.int .i64 (b : Int), .int .i64 (p : Int), .int .i64 (s : Int), .slice (some ⟨bk, off, none⟩) n c, .slice a' m c'] 35)).heap[u1.heap.size + 1 + 1]? = some (.cells #[.pointer (some ⟨u1.heap.size + 1, 0, none⟩)] 87 (0, 0)) := (Below.heap_alloc _ _ _ (by have := (Array.getElem?_eq_some_iff.1 HP9.out).1; exact this)).trans HP9.out
 have hA10 : ((u8.alloc (.cells #[.slice none 0 0] 32)).alloc (.cells #[.int .i64 (b : Int), .int .i64 (p : Int), .int .i64 (s : Int), .slice (some ⟨bk, off, none⟩) n c, .slice a' m c'] 35)).heap[u8.heap.size]? = some (.cells #[.slice none 0 0] 32 (0, 0)) := by
  rw [Below.heap_alloc _ _ _ (by simp)]; exact heap_alloc_new _ _
 have hBm10 : ((u8.alloc (.cells #[.slice none 0 0] 32)).alloc (.cells #[.int .i64 (b : Int), .int .i64 (p : Int), .int .i64 (s : Int), .slice (some ⟨bk, off, none⟩) n c, .slice a' m c'] 35)).heap[u8.heap.size + 1]? = some (.cells #[.int .i64 (b : Int), .int .i64 (p : Int), .int .i64 (s : Int), .slice (some ⟨bk, off, none⟩) n c, .slice a' m c'] 35 (0, 0)) := by
  have h9 := heap_alloc_new (u8.alloc (.cells #[.slice none 0 0] 32)) (.cells #[.int .i64 (b : Int), .int .i64 (p : Int), .int .i64 (s : Int), .slice (some ⟨bk, off, none⟩) n c, .slice a' m c'] 35); rw [World.size_alloc] at h9; exact h9
 have hl0 : (L5 ++ bitsOf ms).length = 10 + (m + 7) / 8 := by simp only [List.length_append, bitsOf_length, Hms.out, ← HL5.out, List.length_cons, List.length_nil, leN_length]
 have Hl0 : Hid ((L5 ++ bitsOf ms).length = 10 + (m + 7) / 8) := hl0
 have hbp : ((b : Int) * (p : Int)) = (N : Int) := by rw [← HN.out]; exact (Int.natCast_mul b p).symm
 have hLs : (L : Int) = 256 * (s : Int) + (54 + 3 * (s : Int)) := by have := HL.out; omega
 have hLp : 0 < L := by have := HL.out; omega
 have hCL : C < L := by have := HL.out; have := HC.out; omega
 have HSEQ : Hid (SeqStopsK Fence.wide 2 Tryd.prog 59 #[.pointer (some ⟨u8.heap.size + 1, 0, none⟩)] (encW bk off L c N) (Kpg w.heap.size (u8.heap.size + 1)) (fun ys => ys = List.finRange N) (fun pre => pre <+: List.finRange N) N ((u8.alloc (.cells #[.slice none 0 0] 32)).alloc (.cells #[.int .i64 (b : Int), .int .i64 (p : Int), .int .i64 (s : Int), .slice (some ⟨bk, off, none⟩) n c, .slice a' m c'] 35))) :=
  pages_stops 2 (u8.heap.size + 1) w.heap.size b p s bk off n c a' m c' N L HFit.out hbp hLs Hn.out hnc hc ((u8.alloc (.cells #[.slice none 0 0] 32)).alloc (.cells #[.int .i64 (b : Int), .int .i64 (p : Int), .int .i64 (s : Int), .slice (some ⟨bk, off, none⟩) n c, .slice a' m c'] 35)) hBm10
 have HBm9 : Hid _ := hBm10
 clear hl0 hbp hLs hBm10 c0 c1 c2 c3 c4
 refine (wpIn_wide (n := 3)).1 ?_
 refine' wpIn_rangeFunc_ownG (n := 3) rfl (show 1 ≤ 3 by decide) (gf := 59) (lb := #[.pointer (some ⟨u8.heap.size + 1, 0, none⟩)]) rfl trivial (enters_of Tryd.func59 (by kernel_rfl) rfl)
  HSEQ.out kpg_t (kpg_b (by simp; omega) (by simp)) (Below.refl _ _) (fun _ => rfl)
  (fun pre W => WrAt W w.heap.size (u1.heap.size + 1) (packS C ⟨L5 ++ bitsOf ms, 0, 0⟩ [] (pre.map fun k => pgK cs L k.val)) ∧ (W.heap[w.heap.size]? = some (.cells #[.int .i64 (b : Int), .int .i64 (p : Int), .int .i64 (s : Int), .slice (some ⟨bk, off, none⟩) n c, .slice a' m c'] 35 (0, 0)) ∧ (W.heap[u1.heap.size + 1 + 1]? = some (.cells #[.pointer (some ⟨u1.heap.size + 1, 0, none⟩)] 87 (0, 0)) ∧ ((∃ a9 n9 c9, W.heap[u8.heap.size]? = some (.cells #[.slice a9 n9 c9] 32 (0, 0)) ∧ Reads w a9 n9 ((pre.map fun k => pgK cs L k.val).getLast?.getD []) ∧ ∀ x, a9 = some x → x.block < w.heap.size) ∧ (W.heap[u8.heap.size + 1]? = some (.cells #[.int .i64 (b : Int), .int .i64 (p : Int), .int .i64 (s : Int), .slice (some ⟨bk, off, none⟩) n c, .slice a' m c'] 35 (0, 0)) ∧ Below w.heap.size w W)))))
  (fun _ _ _ => False)
  (OwnFrom.and (Go.Own.from (wrAt_own _ _ _) _) (OwnFrom.and (Go.Own.from (blk_own _ _ _ _) _) (OwnFrom.and (Go.Own.from (blk_own _ _ _ _) _) (OwnFrom.and (Go.Own.from (fun s X Y row hs hg hrow => by
   obtain ⟨a9, n9, c9, h1, h2⟩ := hs
   exact ⟨a9, n9, c9, blk_own (β := Unit) _ _ _ _ () X Y row h1 hg hrow, h2⟩) _) (OwnFrom.and (Go.Own.from (blk_own _ _ _ _) _) (ownFrom_below (Nat.le_refl _) (by simp; omega)))))))
  (fun _ _ _ _ _ hs _ _ => hs)
  ⟨hWr9, hM10, hP10, ⟨none, 0, 0, hA10, ⟨rfl, (fun x hx => by cases hx), (fun _ => rfl), (fun x hx => by cases hx)⟩, (fun x hx => by cases hx)⟩, HBm9.out, HB9.out⟩
  _ ?assign ?body ?done ?stop
 case assign =>
  intro l x W K hK
  gi_wp2
  exact hK
 case body =>
  rintro l pre x W ⟨hWr, hM, hP, ⟨a9, n9, c9, hA, hR9, hlow9⟩, hBm, hB⟩ hlt
  have hxN := x.isLt
  obtain ⟨st, hst⟩ : ∃ st, packS C ⟨L5 ++ bitsOf ms, 0, 0⟩ [] (pre.map fun k => pgK cs L k.val) = st := ⟨_, rfl⟩
  have hbd := packS_bound C L (pre.map fun k => pgK cs L k.val) ⟨L5 ++ bitsOf ms, 0, 0⟩ [] (by
   intro g hg
   obtain ⟨k, _, rfl⟩ := List.mem_map.1 hg
   exact pgK_len (by rw [Hcs.out]; exact Hn.out) k.isLt) (by omega) (by have := Hl0.out; simp only [this]; omega) (Nat.zero_le _)
  rw [hst] at hbd hWr
  have HBd : Hid (st.laid.length ≤ 900000000 ∧ 2 ≤ st.laid.length ∧ st.count ≤ 65535) := by
   obtain ⟨b1, b2, b3⟩ := hbd
   have h0 := Hl0.out
   simp only [h0] at b1 b2
   have h1 : (pre.map fun k => pgK cs L k.val).length * (3 + L) ≤ 65536 * 2203 := Nat.mul_le_mul (by simp; omega) (by omega)
   exact ⟨by omega, by omega, b3⟩
  have hxL : Hid (L ≤ c - x.val * L) := by
   have h1 := Nat.mul_le_mul_right L (show x.val + 1 ≤ N from hxN)
   rw [Nat.succ_mul] at h1
   have h2 := Hn.out
   unfold Hid
   omega
  have HLc : Hid (L ≤ c - x.val * L) := hxL
  have HRx : Hid (Reads w (some ⟨bk, off + x.val * L, none⟩) L (pgK cs L x.val)) := HR.out.page Hn.out hxN hLp
  have HWr : Hid (WrAt W w.heap.size (u1.heap.size + 1) st) := hWr
  have HMr : Hid (W.heap[w.heap.size]? = some (.cells #[.int .i64 (b : Int), .int .i64 (p : Int), .int .i64 (s : Int), .slice (some ⟨bk, off, none⟩) n c, .slice a' m c'] 35 (0, 0))) := hM
  have HPr : Hid (W.heap[u1.heap.size + 1 + 1]? = some (.cells #[.pointer (some ⟨u1.heap.size + 1, 0, none⟩)] 87 (0, 0))) := hP
  have HAr : Hid (W.heap[u8.heap.size]? = some (.cells #[.slice a9 n9 c9] 32 (0, 0))) := hA
  have HBr : Hid (Below w.heap.size w W) := hB
  have HR9 : Hid (Reads w a9 n9 ((pre.map fun k => pgK cs L k.val).getLast?.getD [])) := hR9
  have HBmr : Hid (W.heap[u8.heap.size + 1]? = some (.cells #[.int .i64 (b : Int), .int .i64 (p : Int), .int .i64 (s : Int), .slice (some ⟨bk, off, none⟩) n c, .slice a' m c'] 35 (0, 0))) := hBm
  have HST : Hid (packS C ⟨L5 ++ bitsOf ms, 0, 0⟩ [] (pre.map fun k => pgK cs L k.val) = st) := hst
  have hC256 : 256 * (s : Int) = (C : Int) := by have := HC.out; omega
  clear hbd hWr hM hP hA hB hBm hR9 hst hxL
  refine wpIn_block ?_
  refine wpIn_seq ?_
  refine wpIn_region_round (S := (fun x : World => x.cell? ⟨u1.heap.size + 1 + 1, 0, none⟩ = some (.pointer (some ⟨u1.heap.size + 1, 0, none⟩)) ∧ x.cell? ⟨u8.heap.size, 0, none⟩ = some (.slice a9 n9 c9) ∧ x.cell? ⟨w.heap.size, 0, none⟩ = some (.int .i64 (b : Int)) ∧ x.cell? ⟨w.heap.size, 1, none⟩ = some (.int .i64 (p : Int)) ∧ x.cell? ⟨w.heap.size, 2, none⟩ = some (.int .i64 (s : Int)))) (by kernel_rfl) (by kernel_rfl) (fun h => by obtain ⟨_, _, h⟩ := h; exact h) (⟨(cells1 HPr.out).1, (cells1 HAr.out).1, (cells5 HMr.out).1, (cells5 HMr.out).2.1, (cells5 HMr.out).2.2.1⟩) (fun hHeld => ?_)
  refine tk 0 ?_
  refine tk 1 ?_
  refine tk 2 ?_
  refine tk 3 ?_
  refine tk 4 ?_
  refine rd 5 (fun K hK => ?_)
  go_simp
  go_at_call 35
  refine (dataBytes_any b p s _ (by omega) (by omega)).mono ?_
  rintro e v1 ⟨rfl, b1⟩
  rw [hC256]
  have HV1 : Hid (Below W.heap.size W v1) := ((Below.refl W.heap.size W).drew).trans b1
  have HM1 : Hid (v1.heap[w.heap.size]? = some (.cells #[.int .i64 (b : Int), .int .i64 (p : Int), .int .i64 (s : Int), .slice (some ⟨bk, off, none⟩) n c, .slice a' m c'] 35 (0, 0))) := (HV1.out.block _ (Array.getElem?_eq_some_iff.1 HMr.out).1).trans HMr.out
  have HP1 : Hid (v1.heap[u1.heap.size + 1 + 1]? = some (.cells #[.pointer (some ⟨u1.heap.size + 1, 0, none⟩)] 87 (0, 0))) := (HV1.out.block _ (Array.getElem?_eq_some_iff.1 HPr.out).1).trans HPr.out
  have HA1 : Hid (v1.heap[u8.heap.size]? = some (.cells #[.slice a9 n9 c9] 32 (0, 0))) := (HV1.out.block _ (Array.getElem?_eq_some_iff.1 HAr.out).1).trans HAr.out
  have HW1 : Hid (WrAt v1 w.heap.size (u1.heap.size + 1) st) := HWr.out.below HV1.out
  have HBV : Hid (Below w.heap.size w v1) := HBr.out.trans (HV1.out.mono (HBr.out.size))
  clear b1
  have hSnew := And.intro (cells1 HP1.out).1 (And.intro (cells1 HA1.out).1 (And.intro (cells5 HM1.out).1 (And.intro (cells5 HM1.out).2.1 (cells5 HM1.out).2.2.1)))
  go_wp2_with fail
  clear hHeld
  refine hK.out _ _ hSnew (fun hHeld => ?_)
  clear hK K hSnew
  try simp only [Act.put, zSt, zS0, zS1]
  refine rd 6 (fun K hK => ?_)
  go_simp
  go_at_call 34
  refine (page_any w.heap.size (u1.heap.size + 1) bk (off + x.val * L) L (c - x.val * L) C a9 n9 c9 (pgK cs L x.val) ((pre.map fun k => pgK cs L k.val).getLast?.getD []) st _ HW1.out HBd.out.1 HBd.out.2.1 HBd.out.2.2 (HRx.out.low (fun y hy => by cases hy; exact hbk) HBV.out) (Reads.low HR9.out hlow9 HBV.out) hbk hCL HLc.out (by omega) (by omega)).mono ?_
  rintro e v2 ⟨rfl, wr2, kw2⟩
  have HW2 : Hid _ := wr2
  have HK2 : Hid (Kw w.heap.size v1 v2) := kw2
  clear wr2 kw2
  have HM2 : Hid (v2.heap[w.heap.size]? = some (.cells #[.int .i64 (b : Int), .int .i64 (p : Int), .int .i64 (s : Int), .slice (some ⟨bk, off, none⟩) n c, .slice a' m c'] 35 (0, 0))) := Kw.blk HK2.out HM1.out (by decide) (by decide)
  have HP2 : Hid (v2.heap[u1.heap.size + 1 + 1]? = some (.cells #[.pointer (some ⟨u1.heap.size + 1, 0, none⟩)] 87 (0, 0))) := Kw.blk HK2.out HP1.out (by decide) (by decide)
  have HA2 : Hid (v2.heap[u8.heap.size]? = some (.cells #[.slice a9 n9 c9] 32 (0, 0))) := Kw.blk HK2.out HA1.out (by decide) (by decide)
  have hSnew := And.intro (cells1 HP2.out).1 (And.intro (cells1 HA2.out).1 (And.intro (cells5 HM2.out).1 (And.intro (cells5 HM2.out).2.1 (cells5 HM2.out).2.2.1)))
  go_wp2_with fail
  clear hHeld
  refine hK.out _ _ hSnew (fun hHeld => ?_)
  clear hK K hSnew
  try simp only [Act.put, zSt, zS0, zS1]
  refine wpAnyH_done (by kernel_rfl) ?_ _
  have fA := (cells1 HA2.out).2
  have cA := (cells1 HA2.out).1
  gi_wp2
  have hs1 : W.heap.size ≤ v1.heap.size := HV1.out.size
  have hBm1 : v1.heap[u8.heap.size + 1]? = some (.cells #[.int .i64 (b : Int), .int .i64 (p : Int), .int .i64 (s : Int), .slice (some ⟨bk, off, none⟩) n c, .slice a' m c'] 35 (0, 0)) := (HV1.out.block _ (Array.getElem?_eq_some_iff.1 HBmr.out).1).trans HBmr.out
  have hBm2 : v2.heap[u8.heap.size + 1]? = some (.cells #[.int .i64 (b : Int), .int .i64 (p : Int), .int .i64 (s : Int), .slice (some ⟨bk, off, none⟩) n c, .slice a' m c'] 35 (0, 0)) := Kw.blk HK2.out hBm1 (by decide) (by decide)
  have hgs : v2.grownBy (v2.setCell ⟨u8.heap.size, 0, none⟩ (.slice (some ⟨bk, off + x.val * L, none⟩) L (c - x.val * L))) (some u8.heap.size) := grownBy_setCell' v2 _ _
  have hBm3 := blk_other hBm2 HA2.out (by decide) hgs
  have hbe : Below w.heap.size W (v2.setCell ⟨u8.heap.size, 0, none⟩ (.slice (some ⟨bk, off + x.val * L, none⟩) L (c - x.val * L))) := ((HV1.out.mono HBr.out.size).trans HK2.out.bel).setCell (p := ⟨u8.heap.size, 0, none⟩) hBu8 _
  refine ⟨KeepsOthers.from (((Kw.of_below (B := w.heap.size) HBr.out.size HV1.out).others.trans HK2.out.others).trans (KeepsOthers.setCell _ _ _)) _, ⟨hbe, fun o ho => by rw [HBmr.out] at ho; cases ho; exact hBm3⟩, ?_, blk_other HM2.out HA2.out (by decide) hgs, blk_other HP2.out HA2.out (by decide) hgs, ⟨some ⟨bk, off + x.val * L, none⟩, L, c - x.val * L, blk1_set HA2.out _, ?_, fun y hy => by cases hy; exact hbk⟩, hBm3, HBr.out.trans hbe⟩
  ·rw [List.map_append, List.map_cons, List.map_nil, packS_snoc, HST.out]
   exact WrAt.other HW2.out HA2.out (by decide) (by decide) hgs
  ·rw [List.map_append, List.map_cons, List.map_nil, List.getLast?_append]
   exact HRx.out
 case done =>
  rintro D ys W hD rfl ⟨hWr, hM, hP, ⟨a9, n9, c9, hA, hR9, hlow9⟩, hBm, hB⟩ hK
  obtain ⟨st, hst⟩ : ∃ st, packS C ⟨L5 ++ bitsOf ms, 0, 0⟩ [] ((List.finRange N).map fun k => pgK cs L k.val) = st := ⟨_, rfl⟩
  have hbd := packS_bound C L ((List.finRange N).map fun k => pgK cs L k.val) ⟨L5 ++ bitsOf ms, 0, 0⟩ [] (by
   intro g hg
   obtain ⟨k, _, rfl⟩ := List.mem_map.1 hg
   exact pgK_len (by rw [Hcs.out]; exact Hn.out) k.isLt) (by omega) (by have := Hl0.out; simp only [this]; omega) (Nat.zero_le _)
  rw [hst] at hbd hWr
  have hlen9 : st.laid.length ≤ 900000000 := by
   obtain ⟨b1, b2, b3⟩ := hbd
   have h0 := Hl0.out
   simp only [h0] at b1 b2
   have h1 : ((List.finRange N).map fun k => pgK cs L k.val).length * (3 + L) ≤ 65536 * 2203 := Nat.mul_le_mul (by simp; omega) (by omega)
   omega
  have HBODY : Hid (st.laid = bodyL ⟨b, p, s, cs, ms⟩) := by
   unfold Hid bodyL
   simp only [Img.C, Img.S]
   have e1 : L5 ++ bitsOf ms = headL b p s ms := by
    rw [← HL5.out, show leN 1 1 = [(1 : Int)] from leN1 1 (by omega), leN2 b (by omega), leN2 p (by omega), leN1 s (by omega)]
    simp only [headL, List.append_assoc, List.cons_append, List.nil_append]
   rw [← hst, pages_chunks, e1, HN.out, HL.out, HC.out]
  have HWr : Hid (WrAt W w.heap.size (u1.heap.size + 1) st) := hWr
  obtain ⟨gx, cx, hqx, ownx, _, byx⟩ := hWr
  obtain ⟨LN, hLN⟩ : ∃ LN, st.laid.length = LN := ⟨_, rfl⟩
  rw [hLN] at hqx ownx hlen9
  obtain ⟨SM, hSM⟩ : ∃ SM, sumL (nats st.laid) = SM := ⟨_, rfl⟩
  have hSMl : SM < 4294967296 := by rw [← hSM]; exact sumL_lt byx
  have HSM : Hid (sumL (nats st.laid) = SM) := hSM
  have HLN : Hid (st.laid.length = LN) := hLN
  have HPr : Hid (W.heap[u1.heap.size + 1 + 1]? = some (.cells #[.pointer (some ⟨u1.heap.size + 1, 0, none⟩)] 87 (0, 0))) := hP
  have HQx : Hid _ := hqx
  have HOd : Hid (Own W.drew w.heap.size gx LN cx st.laid) := Own.drew1 ownx
  have HYx : Hid (Byt st.laid) := byx
  have HWd : Hid (WrAt W.drew w.heap.size (u1.heap.size + 1) st) := HWr.out.below (Below.refl _ _).drew
  have HTd : Hid (Tab W.drew) := (HT.out.below hB.drew)
  have HBr : Hid (Below w.heap.size w W) := hB
  have HKD : Hid _ := hK
  have wsm : IntKind.i64.wrap (SM : Int) = (SM : Int) := by rw [IntKind.wrap_i64]; omega
  have hlst : st.laid.length ≤ 900000000 := by rw [hLN]; exact hlen9
  have HLst : Hid (st.laid.length ≤ 900000000) := hlst
  clear hbd hM hP hA hB hBm hR9 hst hqx ownx byx hSM hLN hlow9 hK hlst
  go_upto_region 15 with fail
  have cq0 := (blk3_cells HQx.out).1
  refine wp_region_held_drew (S := (fun x : World => x.cell? ⟨u1.heap.size + 1 + 1, 0, none⟩ = some (.pointer (some ⟨u1.heap.size + 1, 0, none⟩)))) (by kernel_rfl) ((cells1 HPr.out).1) (fun hHeld => ?_)
  refine tk 0 ?_
  refine tk 1 ?_
  refine tk 2 ?_
  refine tk 3 ?_
  refine rd 4 (fun K hK => ?_)
  go_simp
  go_wp2_with fail
  refine hK.out _ _ hHeld (fun hHeld4 => ?_)
  clear hK K
  clear hHeld4
  try simp only [Act.put, zSt, zS0, zS1]
  refine rd 5 (fun K hK => ?_)
  go_simp
  go_at_call 36
  refine (sum_any (some ⟨gx, 0, none⟩) LN cx st.laid _ (by omega) (Own.all HOd.out HYx.out) HTd.out).mono ?_
  rintro e v1 ⟨rfl, hv1⟩
  rw [← hv1]
  rw [HSM.out]
  clear hv1 v1
  have hSnew := hHeld
  go_wp2_with fail
  clear hHeld
  refine hK.out _ _ hSnew (fun hHeld => ?_)
  clear hK K hSnew
  try simp only [Act.put, zSt, zS0, zS1]
  refine tk 6 ?_
  refine rd 7 (fun K hK => ?_)
  go_simp
  go_at_call 32
  refine (number_any w.heap.size (u1.heap.size + 1) st 4 (SM : Int) _ HWd.out (by have := HLst.out; omega) (by omega) (by omega) (by omega) (by omega)).mono ?_
  rintro e v2 ⟨rfl, wr2, kw2⟩
  obtain ⟨gy, cy, hqy, owny, _, _⟩ := wr2
  have HQy : Hid _ := hqy
  have HOy : Hid (Own v2 w.heap.size gy (st.laid ++ leN 4 (SM : Int)).length cy (st.laid ++ leN 4 (SM : Int))) := owny
  have HKy : Hid (Kw w.heap.size W.drew v2) := kw2
  have HPy : Hid (v2.heap[u1.heap.size + 1 + 1]? = some (.cells #[.pointer (some ⟨u1.heap.size + 1, 0, none⟩)] 87 (0, 0))) := Kw.blk HKy.out HPr.out (by decide) (by decide)
  clear hqy owny kw2
  have hSnew := (cells1 HPy.out).1
  go_wp2_with fail
  clear hHeld
  refine hK.out _ _ hSnew (fun hHeld => ?_)
  clear hK K hSnew
  try simp only [Act.put, zSt, zS0, zS1]
  refine wpAnyH_done (by kernel_rfl) ?_ _
  obtain ⟨z0, z1, z2, z3, z4, z5⟩ := blk3_cells HQy.out
  have zp := (cells1 HPy.out).1
  go_wp2
  have e9 : st.laid ++ leN 4 (SM : Int) = packL ⟨b, p, s, cs, ms⟩ := by rw [packL, sealL, ← HBODY.out, HSM.out, leN4]
  have hl9 : st.laid.length + (leN 4 (SM : Int)).length = (packL ⟨b, p, s, cs, ms⟩).length := by rw [← e9, List.length_append]
  have hKv : v2.heap[D]? = some (.deferred (some [])) := HKy.out.oth D _ HKD.out (fun cs f e => by cases e) (fun cs f e => by cases e)
  have hD' : w.heap.size ≤ D := by simp at hD; omega
  have oy := HOy.out
  rw [e9] at oy
  rw [hl9]
  refine ⟨by simp, .inl ⟨_, _, rfl, run_takeDeferred hKv, ?_⟩⟩
  refine ⟨.tuple #[.slice (some ⟨gy, 0, none⟩) (packL ⟨b, p, s, cs, ms⟩).length cy, .int .i64 0], by simp [results, Tryd.results11, go_sem], gy, cy, rfl, ownsRow_putObj oy _ hKv rfl, ?_⟩
  exact (HBr.out.trans ((Below.refl _ W).drew.trans HKy.out.bel)).trans (belowK_b (w := w) (Nat.le_refl _) v2 D _ _ hD' hKv rfl rfl)
 case stop =>
  rintro D c pre W _ _ h _
  exact h.elim
end Go.Proofs.YtnmnhgagnfodhaaDoor
