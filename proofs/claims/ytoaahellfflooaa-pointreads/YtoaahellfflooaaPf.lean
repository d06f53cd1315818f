/-
  SEAT Ytoaahellfflooaa: an object is read.
-/
import Derived.Test.YtoaahellfflooaaPe
namespace Go.Proofs.Ytoaahellfflooaa
open Go.RowKit
set_option linter.unusedVariables false

set_option maxHeartbeats 4000000 in
set_option maxRecDepth 100000 in
theorem obj_t4 (B q : Nat) (rest : List Int) (w : World) (hR : RdAt w B q rest) (hl : rest.length ≤ 140737488355000) (id : Int) (r1 r2 : List Int) (h1 : Hid (numR 4 rest = some (id, r1))) (hl1 : Hid (r1.length ≤ 140737488355000)) (h2 : Hid (flagR r1 = some (true, r2))) (hl2 : Hid (r2.length ≤ 140737488355000)) (n : Nat) (r3 : List Int) (h3 : Hid (numR 1 r2 = some ((n : Int), r3))) (hl3 : Hid (r3.length ≤ 140737488355000)) (hn : n ≤ 255) (h4 : Hid (n ≤ r3.length)) (k p : Int) (N : ByteArray) (z m st sh : Int) (T : ByteArray) (E : Int) (HND : Hid (nodeR (r3.take n) = (⟨k, p, N, z, m, st, sh, T⟩, E))) (HNR : Hid (Nr (r3.take n) n k p N z m st sh T E)) (hE : E = 0) (hl4 : Hid ((r3.drop n).length ≤ 140737488355000)) :
    Calls Try.prog 39 #[.pointer (some ⟨q, 0, none⟩)] w (Left w B q (objR rest) (ObV w)) := by
  have HS0 := hide (B1.one (ty := 55) (z := #[.int .i64 0, .bool false, .int .i64 0, .int .i64 0, .string ⟨#[]⟩, .int .i64 0, .int .i64 0, .int .u64 0, .int .i64 0, .string ⟨#[]⟩, .int .i64 0, .int .i64 0, .slice none 0 0]) hR)
  have HL0 := hide hl
  clear hR hl
  go_enter Try.func39, Try.ntmps39
  go_wp2_with (first
    | (have h9 := HS0; clear h9; go_at_call 35; refine (whole_any B q 4 rest _ HS0.out.rd HL0.out (by omega) (by omega)).mono ?_; intro e u1 lf
       rw [h1.out] at lf; obtain ⟨val, rfl, rfl, rd, g⟩ := lf
       have hb := HS0.out.call g rd
       have HS1 := hide (hb.made #[.int .i64 id, .bool false, .int .i64 0, .int .i64 0, .string ⟨#[]⟩, .int .i64 0, .int .i64 0, .int .u64 0, .int .i64 0, .string ⟨#[]⟩, .int .i64 0, .int .i64 0, .slice none 0 0])
       clear HS0 rd g hb)
    | (have h9 := HS1; clear h9; go_at_call 53; refine (flag_any B q r1 _ HS1.out.rd hl1.out).mono ?_; intro e u2 lf
       rw [h2.out] at lf; obtain ⟨val, rfl, rfl, rd, g⟩ := lf
       have hb := HS1.out.call g rd
       have c2_1 : (u2).cell? ⟨u1.heap.size, 1, none⟩ = some (.bool false) := blk_cell hb.box 1 rfl
       have f2_1 : (u2).frozen? ⟨u1.heap.size, 1, none⟩ = false := blk_free hb.box 1
       have HS2 : Hid (Bx w (u2.setCell ⟨u1.heap.size, 1, none⟩ (.bool true)) B q 55 #[.int .i64 0, .bool false, .int .i64 0, .int .i64 0, .string ⟨#[]⟩, .int .i64 0, .int .i64 0, .int .u64 0, .int .i64 0, .string ⟨#[]⟩, .int .i64 0, .int .i64 0, .slice none 0 0] u1.heap.size #[.int .i64 id, .bool true, .int .i64 0, .int .i64 0, .string ⟨#[]⟩, .int .i64 0, .int .i64 0, .int .u64 0, .int .i64 0, .string ⟨#[]⟩, .int .i64 0, .int .i64 0, .slice none 0 0] r2) := hb.store 1 (.bool true)
       clear HS1 rd g hb)
    | (have h9 := HS2; clear h9; go_at_call 35; refine (whole_any B q 1 r2 _ HS2.out.rd hl2.out (by omega) (by omega)).mono ?_; intro e u3 lf
       rw [h3.out] at lf; obtain ⟨val, rfl, rfl, rd, g⟩ := lf
       have HS3 := hide (HS2.out.call g rd)
       clear HS2 rd g)
    | (have h9 := HS3; clear h9; go_at_call 52; refine (row_ok B q n r3 _ HS3.out.rd hl3.out h4.out).mono ?_; rintro e u4 ⟨b, off, cp, rfl, rr, hc1, hc2, _, rd, g⟩
       have hb := HS3.out.call g rd
       have HRR := hide rr
       have HC1 := hide hc1
       have HC2 := hide hc2
       have HS4 := hide hb
       clear HS3 rd g hb rr hc1 hc2)
    | (have h9 := HS4; clear h9; go_at_call 54; refine (HNR.out.c14 _ _ _ HRR.out HC1.out HC2.out).mono ?_; rintro e u5 ⟨rfl, b5⟩
       have hb := HS4.out.below b5
       have hba := hb.alloc (.cells #[.int .i64 k, .int .i64 p, .string N, .int .i64 z, .int .i64 m, .int .u64 st, .int .i64 sh, .string T] 50)
       have c5_2 : (u5.alloc (.cells #[.int .i64 k, .int .i64 p, .string N, .int .i64 z, .int .i64 m, .int .u64 st, .int .i64 sh, .string T] 50)).cell? ⟨u1.heap.size, 2, none⟩ = some (.int .i64 0) := blk_cell hba.box 2 rfl
       have c5_3 : (u5.alloc (.cells #[.int .i64 k, .int .i64 p, .string N, .int .i64 z, .int .i64 m, .int .u64 st, .int .i64 sh, .string T] 50)).cell? ⟨u1.heap.size, 3, none⟩ = some (.int .i64 0) := blk_cell hba.box 3 rfl
       have c5_4 : (u5.alloc (.cells #[.int .i64 k, .int .i64 p, .string N, .int .i64 z, .int .i64 m, .int .u64 st, .int .i64 sh, .string T] 50)).cell? ⟨u1.heap.size, 4, none⟩ = some (.string ⟨#[]⟩) := blk_cell hba.box 4 rfl
       have c5_5 : (u5.alloc (.cells #[.int .i64 k, .int .i64 p, .string N, .int .i64 z, .int .i64 m, .int .u64 st, .int .i64 sh, .string T] 50)).cell? ⟨u1.heap.size, 5, none⟩ = some (.int .i64 0) := blk_cell hba.box 5 rfl
       have c5_6 : (u5.alloc (.cells #[.int .i64 k, .int .i64 p, .string N, .int .i64 z, .int .i64 m, .int .u64 st, .int .i64 sh, .string T] 50)).cell? ⟨u1.heap.size, 6, none⟩ = some (.int .i64 0) := blk_cell hba.box 6 rfl
       have c5_7 : (u5.alloc (.cells #[.int .i64 k, .int .i64 p, .string N, .int .i64 z, .int .i64 m, .int .u64 st, .int .i64 sh, .string T] 50)).cell? ⟨u1.heap.size, 7, none⟩ = some (.int .u64 0) := blk_cell hba.box 7 rfl
       have c5_8 : (u5.alloc (.cells #[.int .i64 k, .int .i64 p, .string N, .int .i64 z, .int .i64 m, .int .u64 st, .int .i64 sh, .string T] 50)).cell? ⟨u1.heap.size, 8, none⟩ = some (.int .i64 0) := blk_cell hba.box 8 rfl
       have c5_9 : (u5.alloc (.cells #[.int .i64 k, .int .i64 p, .string N, .int .i64 z, .int .i64 m, .int .u64 st, .int .i64 sh, .string T] 50)).cell? ⟨u1.heap.size, 9, none⟩ = some (.string ⟨#[]⟩) := blk_cell hba.box 9 rfl
       have f5_2 : (u5.alloc (.cells #[.int .i64 k, .int .i64 p, .string N, .int .i64 z, .int .i64 m, .int .u64 st, .int .i64 sh, .string T] 50)).frozen? ⟨u1.heap.size, 2, none⟩ = false := blk_free hba.box 2
       have f5_3 : (u5.alloc (.cells #[.int .i64 k, .int .i64 p, .string N, .int .i64 z, .int .i64 m, .int .u64 st, .int .i64 sh, .string T] 50)).frozen? ⟨u1.heap.size, 3, none⟩ = false := blk_free hba.box 3
       have f5_4 : (u5.alloc (.cells #[.int .i64 k, .int .i64 p, .string N, .int .i64 z, .int .i64 m, .int .u64 st, .int .i64 sh, .string T] 50)).frozen? ⟨u1.heap.size, 4, none⟩ = false := blk_free hba.box 4
       have f5_5 : (u5.alloc (.cells #[.int .i64 k, .int .i64 p, .string N, .int .i64 z, .int .i64 m, .int .u64 st, .int .i64 sh, .string T] 50)).frozen? ⟨u1.heap.size, 5, none⟩ = false := blk_free hba.box 5
       have f5_6 : (u5.alloc (.cells #[.int .i64 k, .int .i64 p, .string N, .int .i64 z, .int .i64 m, .int .u64 st, .int .i64 sh, .string T] 50)).frozen? ⟨u1.heap.size, 6, none⟩ = false := blk_free hba.box 6
       have f5_7 : (u5.alloc (.cells #[.int .i64 k, .int .i64 p, .string N, .int .i64 z, .int .i64 m, .int .u64 st, .int .i64 sh, .string T] 50)).frozen? ⟨u1.heap.size, 7, none⟩ = false := blk_free hba.box 7
       have f5_8 : (u5.alloc (.cells #[.int .i64 k, .int .i64 p, .string N, .int .i64 z, .int .i64 m, .int .u64 st, .int .i64 sh, .string T] 50)).frozen? ⟨u1.heap.size, 8, none⟩ = false := blk_free hba.box 8
       have f5_9 : (u5.alloc (.cells #[.int .i64 k, .int .i64 p, .string N, .int .i64 z, .int .i64 m, .int .u64 st, .int .i64 sh, .string T] 50)).frozen? ⟨u1.heap.size, 9, none⟩ = false := blk_free hba.box 9
       have HS5 := hide (hb.alloc (.cells #[.int .i64 k, .int .i64 p, .string N, .int .i64 z, .int .i64 m, .int .u64 st, .int .i64 sh, .string T] 50))
       have n5 : ¬ u5.heap.size = u1.heap.size := by have := lt_of_block hb.box; omega
       have n6 : ¬ u1.heap.size = u5.heap.size := by have := lt_of_block hb.box; omega
       have HS6 := hide (HS5.out.head (.int .i64 k) (.int .i64 p) (.string N) (.int .i64 z) (.int .i64 m) (.int .u64 st) (.int .i64 sh) (.string T))
       clear HS4 b5 hb hba)
    | (have h9 := HS5; clear h9; go_at_call 55; refine (place_any B q (r3.drop n) _ HS6.out.rd hl4.out).mono ?_; intro e u6 lf
       rcases h6 : placeR (r3.drop n) with _ | ⟨pl, r6⟩
       · rw [h6] at lf; obtain ⟨rfl, g⟩ := lf
         exact ⟨rfl, left_err (by unfold objR headR rowR; simp only [h1.out, h2.out, h3.out, Int.toNat_natCast, if_pos h4.out, HND.out, if_pos hE, h6]) (grown_trans HS6.out.gr g)⟩
       rw [h6] at lf; obtain ⟨val, rfl, rfl, rd, g⟩ := lf
       have H6 := hide h6
       have HLm := hide (placeR_len h6 hl4.out)
       have hb := HS6.out.call g rd
       have c6_10 : (u6).cell? ⟨u1.heap.size, 10, none⟩ = some (.int .i64 0) := blk_cell hb.box 10 rfl
       have c6_11 : (u6).cell? ⟨u1.heap.size, 11, none⟩ = some (.int .i64 0) := blk_cell hb.box 11 rfl
       have f6_10 : (u6).frozen? ⟨u1.heap.size, 10, none⟩ = false := blk_free hb.box 10
       have f6_11 : (u6).frozen? ⟨u1.heap.size, 11, none⟩ = false := blk_free hb.box 11
       have HS7 : Hid (Bx w ((u6.setCell ⟨u1.heap.size, 10, none⟩ (.int .i64 pl.1)).setCell ⟨u1.heap.size, 11, none⟩ (.int .i64 pl.2)) B q 55 #[.int .i64 0, .bool false, .int .i64 0, .int .i64 0, .string ⟨#[]⟩, .int .i64 0, .int .i64 0, .int .u64 0, .int .i64 0, .string ⟨#[]⟩, .int .i64 0, .int .i64 0, .slice none 0 0] u1.heap.size #[.int .i64 id, .bool true, .int .i64 k, .int .i64 p, .string N, .int .i64 z, .int .i64 m, .int .u64 st, .int .i64 sh, .string T, .int .i64 pl.1, .int .i64 pl.2, .slice none 0 0] r6) := (hb.store 10 (.int .i64 pl.1)).store 11 (.int .i64 pl.2)
       clear HS5 HS6 rd g hb h6)
    | (have h9 := HS7; clear h9; go_at_call 56; refine (manyChk_any B q r6 _ HS7.out.rd HLm.out).mono ?_; intro e u9 lf
       rcases h9 : manyR chkR r6 with _ | ⟨ch, r9⟩
       · rw [h9] at lf; obtain ⟨rfl, g⟩ := lf
         exact ⟨rfl, left_err (by unfold objR headR rowR; simp only [h1.out, h2.out, h3.out, Int.toNat_natCast, if_pos h4.out, HND.out, if_pos hE, H6.out, h9]) (grown_trans HS7.out.gr g)⟩
       rw [h9] at lf; obtain ⟨val, rfl, ⟨own, hle⟩, rd, g⟩ := lf
       obtain ⟨va, vc, rfl⟩ := own_slice own
       have H9 := hide h9
       have HLE := hide hle
       have hb := HS7.out.call g rd
       have c9_0 : (u9).cell? ⟨u1.heap.size, 0, none⟩ = some (.int .i64 id) := blk_cell hb.box 0 rfl
       have c9_1 : (u9).cell? ⟨u1.heap.size, 1, none⟩ = some (.bool true) := blk_cell hb.box 1 rfl
       have c9_2 : (u9).cell? ⟨u1.heap.size, 2, none⟩ = some (.int .i64 k) := blk_cell hb.box 2 rfl
       have c9_3 : (u9).cell? ⟨u1.heap.size, 3, none⟩ = some (.int .i64 p) := blk_cell hb.box 3 rfl
       have c9_4 : (u9).cell? ⟨u1.heap.size, 4, none⟩ = some (.string N) := blk_cell hb.box 4 rfl
       have c9_5 : (u9).cell? ⟨u1.heap.size, 5, none⟩ = some (.int .i64 z) := blk_cell hb.box 5 rfl
       have c9_6 : (u9).cell? ⟨u1.heap.size, 6, none⟩ = some (.int .i64 m) := blk_cell hb.box 6 rfl
       have c9_7 : (u9).cell? ⟨u1.heap.size, 7, none⟩ = some (.int .u64 st) := blk_cell hb.box 7 rfl
       have c9_8 : (u9).cell? ⟨u1.heap.size, 8, none⟩ = some (.int .i64 sh) := blk_cell hb.box 8 rfl
       have c9_9 : (u9).cell? ⟨u1.heap.size, 9, none⟩ = some (.string T) := blk_cell hb.box 9 rfl
       have c9_10 : (u9).cell? ⟨u1.heap.size, 10, none⟩ = some (.int .i64 pl.1) := blk_cell hb.box 10 rfl
       have c9_11 : (u9).cell? ⟨u1.heap.size, 11, none⟩ = some (.int .i64 pl.2) := blk_cell hb.box 11 rfl
       have c9_12 : (u9).cell? ⟨u1.heap.size, 12, none⟩ = some (.slice none 0 0) := blk_cell hb.box 12 rfl
       have f9_12 : (u9).frozen? ⟨u1.heap.size, 12, none⟩ = false := blk_free hb.box 12
       have rz0 : (u9).frozen? ⟨w.heap.size, 0, none⟩ = false := blk_free hb.res 0
       have sz0 : (u9).cell? ⟨w.heap.size, 0, none⟩ = some (.int .i64 0) := blk_cell hb.res 0 rfl
       have rz1 : (u9).frozen? ⟨w.heap.size, 1, none⟩ = false := blk_free hb.res 1
       have sz1 : (u9).cell? ⟨w.heap.size, 1, none⟩ = some (.bool false) := blk_cell hb.res 1 rfl
       have rz2 : (u9).frozen? ⟨w.heap.size, 2, none⟩ = false := blk_free hb.res 2
       have sz2 : (u9).cell? ⟨w.heap.size, 2, none⟩ = some (.int .i64 0) := blk_cell hb.res 2 rfl
       have rz3 : (u9).frozen? ⟨w.heap.size, 3, none⟩ = false := blk_free hb.res 3
       have sz3 : (u9).cell? ⟨w.heap.size, 3, none⟩ = some (.int .i64 0) := blk_cell hb.res 3 rfl
       have rz4 : (u9).frozen? ⟨w.heap.size, 4, none⟩ = false := blk_free hb.res 4
       have sz4 : (u9).cell? ⟨w.heap.size, 4, none⟩ = some (.string ⟨#[]⟩) := blk_cell hb.res 4 rfl
       have rz5 : (u9).frozen? ⟨w.heap.size, 5, none⟩ = false := blk_free hb.res 5
       have sz5 : (u9).cell? ⟨w.heap.size, 5, none⟩ = some (.int .i64 0) := blk_cell hb.res 5 rfl
       have rz6 : (u9).frozen? ⟨w.heap.size, 6, none⟩ = false := blk_free hb.res 6
       have sz6 : (u9).cell? ⟨w.heap.size, 6, none⟩ = some (.int .i64 0) := blk_cell hb.res 6 rfl
       have rz7 : (u9).frozen? ⟨w.heap.size, 7, none⟩ = false := blk_free hb.res 7
       have sz7 : (u9).cell? ⟨w.heap.size, 7, none⟩ = some (.int .u64 0) := blk_cell hb.res 7 rfl
       have rz8 : (u9).frozen? ⟨w.heap.size, 8, none⟩ = false := blk_free hb.res 8
       have sz8 : (u9).cell? ⟨w.heap.size, 8, none⟩ = some (.int .i64 0) := blk_cell hb.res 8 rfl
       have rz9 : (u9).frozen? ⟨w.heap.size, 9, none⟩ = false := blk_free hb.res 9
       have sz9 : (u9).cell? ⟨w.heap.size, 9, none⟩ = some (.string ⟨#[]⟩) := blk_cell hb.res 9 rfl
       have rz10 : (u9).frozen? ⟨w.heap.size, 10, none⟩ = false := blk_free hb.res 10
       have sz10 : (u9).cell? ⟨w.heap.size, 10, none⟩ = some (.int .i64 0) := blk_cell hb.res 10 rfl
       have rz11 : (u9).frozen? ⟨w.heap.size, 11, none⟩ = false := blk_free hb.res 11
       have sz11 : (u9).cell? ⟨w.heap.size, 11, none⟩ = some (.int .i64 0) := blk_cell hb.res 11 rfl
       have rz12 : (u9).frozen? ⟨w.heap.size, 12, none⟩ = false := blk_free hb.res 12
       have sz12 : (u9).cell? ⟨w.heap.size, 12, none⟩ = some (.slice none 0 0) := blk_cell hb.res 12 rfl
       have hb9 := HS7.out.rows g rd own
       have HS9 : Hid (Bc w _ B q #[.int .i64 0, .bool false, .int .i64 0, .int .i64 0, .string ⟨#[]⟩, .int .i64 0, .int .i64 0, .int .u64 0, .int .i64 0, .string ⟨#[]⟩, .int .i64 0, .int .i64 0, .slice none 0 0] u1.heap.size #[.int .i64 id, .bool true, .int .i64 k, .int .i64 p, .string N, .int .i64 z, .int .i64 m, .int .u64 st, .int .i64 sh, .string T, .int .i64 pl.1, .int .i64 pl.2, .slice va ch.length vc] r9 _ (.slice va ch.length vc) ch.length (flatChk ch)) := hb9.store 12 (.slice va ch.length vc)
       have n1 : ¬ w.heap.size = u1.heap.size := by have := hb.lt; omega
       have n2 : ¬ u1.heap.size = w.heap.size := by have := hb.lt; omega
       have HG9 := hide (show w.heap.size ≤ _ from Nat.le_of_lt (lt_of_block HS7.out.res))
       clear HS7 rd g hb hb9 own hle h9))
  have hf := HS9.out
  have HF := hide (hf.all (.int .i64 id) (.bool true) (.int .i64 k) (.int .i64 p) (.string N) (.int .i64 z) (.int .i64 m) (.int .u64 st) (.int .i64 sh) (.string T) (.int .i64 pl.1) (.int .i64 pl.2) (.slice va ch.length vc))
  clear hf
  refine bodyPost_ret (v := .agg #[.int .i64 id, .bool true, .int .i64 k, .int .i64 p, .string N, .int .i64 z, .int .i64 m, .int .u64 st, .int .i64 sh, .string T, .int .i64 pl.1, .int .i64 pl.2, .slice va ch.length vc]) (res39 HF.out.bx.res rfl) rfl ?_
  exact left_ok (v := ⟨id, true, ⟨k, p, N, z, m, st, sh, T⟩, pl, ch⟩) (by unfold objR headR rowR; simp only [h1.out, h2.out, h3.out, Int.toNat_natCast, if_pos h4.out, HND.out, if_pos hE, H6.out, H9.out]) ⟨_, rfl, own_low HF.out.own HG9.out, HLE.out⟩ HF.out.bx.rd HF.out.bx.gr

theorem obj_any (B q : Nat) (rest : List Int) (w : World) (hR : RdAt w B q rest) (hl : rest.length ≤ 140737488355000) :
    Calls Try.prog 39 #[.pointer (some ⟨q, 0, none⟩)] w (Left w B q (objR rest) (ObV w)) := by
  have hby := hR.byt
  rcases h1 : numR 4 rest with _ | ⟨id, r1⟩
  · exact obj_e1 B q rest w hR hl h1
  have hl1 := numR_len h1 hl
  rcases h2 : flagR r1 with _ | ⟨_ | _, r2⟩
  · exact obj_e2 B q rest w hR hl id r1 h1 hl1 h2
  · exact obj_f B q rest w hR hl id r1 r2 h1 hl1 h2 (flagR_len h2 hl1)
  have hl2 := flagR_len h2 hl1
  rcases h3 : numR 1 r2 with _ | ⟨n, r3⟩
  · exact obj_t1 B q rest w hR hl id r1 r2 h1 hl1 h2 hl2 h3
  have hl3 := numR_len h3 hl2
  have hb1 : Byt r1 := by rw [(numR_some h1).2.2]; exact fun x hx => hby x (List.mem_of_mem_drop hx)
  have hb2 : Byt r2 := by
    unfold flagR at h2
    split at h2
    · cases h2
    · rename_i h5; split at h2
      · cases h2
      · obtain ⟨_, rfl⟩ := Prod.mk.inj (Option.some.inj h2); rw [(numR_some h5).2.2]; exact fun x hx => hb1 x (List.mem_of_mem_drop hx)
  have hb3 : Byt r3 := by rw [(numR_some h3).2.2]; exact fun x hx => hb2 x (List.mem_of_mem_drop hx)
  have hn := numR_range h3 hb2
  obtain ⟨m, rfl⟩ : ∃ m : Nat, n = m := ⟨n.toNat, by omega⟩
  have hm : m ≤ 255 := by have : (256 : Int) ^ 1 = 256 := by decide
                          omega
  by_cases h4 : m ≤ r3.length
  · have hln : (r3.take m).length = m := by simp; omega
    have N := node_nr (r3.take m) (fun x hx => hb3 x (List.mem_of_mem_take hx)) (by omega)
    rw [hln] at N
    by_cases hE : (nodeR (r3.take m)).2 = 0
    · exact obj_t4 B q rest w hR hl id r1 r2 h1 hl1 h2 hl2 m r3 h3 hl3 hm h4 _ _ _ _ _ _ _ _ _ (show Hid (nodeR (r3.take m) = _) from rfl) N hE (by show _ ≤ _; simp; omega)
    · exact obj_t3 B q rest w hR hl id r1 r2 h1 hl1 h2 hl2 m r3 h3 hl3 hm h4 _ _ _ _ _ _ _ _ _ (show Hid (nodeR (r3.take m) = _) from rfl) N hE
  · exact obj_t2 B q rest w hR hl id r1 r2 h1 hl1 h2 hl2 m r3 h3 hl3 hm (by omega)
end Go.Proofs.Ytoaahellfflooaa
