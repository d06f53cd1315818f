/-
  SEAT Ytoaahellfflooaa: an object is read.
-/
import Derived.Test.YtoaahellfflooaaPd
namespace Go.Proofs.Ytoaahellfflooaa
open Go.RowKit
set_option linter.unusedVariables false

set_option maxHeartbeats 4000000 in
set_option maxRecDepth 100000 in
theorem obj_t1 (B q : Nat) (rest : List Int) (w : World) (hR : RdAt w B q rest) (hl : rest.length ≤ 140737488355000) (id : Int) (r1 r2 : List Int) (h1 : Hid (numR 4 rest = some (id, r1))) (hl1 : Hid (r1.length ≤ 140737488355000)) (h2 : Hid (flagR r1 = some (true, r2))) (hl2 : Hid (r2.length ≤ 140737488355000)) (h3 : numR 1 r2 = none) :
    Calls Try.prog 39 #[.pointer (some ⟨q, 0, none⟩)] w (Left w B q (objR rest) (ObV w)) := by
  have HS0 := hide (B1.one (ty := 55) (z := #[.int .i64 0, .bool false, .int .i64 0, .int .i64 0, .string ⟨#[]⟩, .int .i64 0, .int .i64 0, .int .u64 0, .int .i64 0, .string ⟨#[]⟩, .int .i64 0, .int .i64 0, .slice none 0 0]) hR)
  have HL0 := hide hl
  clear hR hl
  go_enter Try.func39, Try.ntmps39
  go_wp2_with (first
    | (have h9 := HS0; clear h9; go_at_call 35; refine (whole_any B q 4 rest _ HS0.out.rd HL0.out (by omega) (by omega)).mono ?_; intro e u1 lf
       rw [h1.out] at lf; obtain ⟨val, rfl, rfl, rd, g⟩ := lf
       have hb := HS0.out.call g rd
       have HS1 := hide (hb.made #[.int .i64 id, .bool false, .int .i64 0, .int .i64 0, .string ⟨#[]⟩, .int .i64 0, .int .i64 0, .int .u64 0, .int .i64 0, .string ⟨#[]⟩, .int .i64 0, .int .i64 0, .slice none 0 0])
       clear HS0 rd g hb)
    | (have h9 := HS1; clear h9; go_at_call 53; refine (flag_any B q r1 _ HS1.out.rd hl1.out).mono ?_; intro e u2 lf
       rw [h2.out] at lf; obtain ⟨val, rfl, rfl, rd, g⟩ := lf
       have hb := HS1.out.call g rd
       have c2_1 : (u2).cell? ⟨u1.heap.size, 1, none⟩ = some (.bool false) := blk_cell hb.box 1 rfl
       have f2_1 : (u2).frozen? ⟨u1.heap.size, 1, none⟩ = false := blk_free hb.box 1
       have HS2 : Hid (Bx w (u2.setCell ⟨u1.heap.size, 1, none⟩ (.bool true)) B q 55 #[.int .i64 0, .bool false, .int .i64 0, .int .i64 0, .string ⟨#[]⟩, .int .i64 0, .int .i64 0, .int .u64 0, .int .i64 0, .string ⟨#[]⟩, .int .i64 0, .int .i64 0, .slice none 0 0] u1.heap.size #[.int .i64 id, .bool true, .int .i64 0, .int .i64 0, .string ⟨#[]⟩, .int .i64 0, .int .i64 0, .int .u64 0, .int .i64 0, .string ⟨#[]⟩, .int .i64 0, .int .i64 0, .slice none 0 0] r2) := hb.store 1 (.bool true)
       clear HS1 rd g hb)
    | (have h9 := HS2; clear h9; go_at_call 35; refine (whole_any B q 1 r2 _ HS2.out.rd hl2.out (by omega) (by omega)).mono ?_; intro e u3 lf
       rw [h3] at lf; obtain ⟨rfl, g⟩ := lf
       exact ⟨rfl, left_err (by unfold objR headR; simp only [h1.out, h2.out, h3]) (grown_trans HS2.out.gr g)⟩))

set_option maxHeartbeats 4000000 in
set_option maxRecDepth 100000 in
theorem obj_t2 (B q : Nat) (rest : List Int) (w : World) (hR : RdAt w B q rest) (hl : rest.length ≤ 140737488355000) (id : Int) (r1 r2 : List Int) (h1 : Hid (numR 4 rest = some (id, r1))) (hl1 : Hid (r1.length ≤ 140737488355000)) (h2 : Hid (flagR r1 = some (true, r2))) (hl2 : Hid (r2.length ≤ 140737488355000)) (n : Nat) (r3 : List Int) (h3 : Hid (numR 1 r2 = some ((n : Int), r3))) (hl3 : Hid (r3.length ≤ 140737488355000)) (hn : n ≤ 255) (h4 : r3.length < n) :
    Calls Try.prog 39 #[.pointer (some ⟨q, 0, none⟩)] w (Left w B q (objR rest) (ObV w)) := by
  have HS0 := hide (B1.one (ty := 55) (z := #[.int .i64 0, .bool false, .int .i64 0, .int .i64 0, .string ⟨#[]⟩, .int .i64 0, .int .i64 0, .int .u64 0, .int .i64 0, .string ⟨#[]⟩, .int .i64 0, .int .i64 0, .slice none 0 0]) hR)
  have HL0 := hide hl
  clear hR hl
  go_enter Try.func39, Try.ntmps39
  go_wp2_with (first
    | (have h9 := HS0; clear h9; go_at_call 35; refine (whole_any B q 4 rest _ HS0.out.rd HL0.out (by omega) (by omega)).mono ?_; intro e u1 lf
       rw [h1.out] at lf; obtain ⟨val, rfl, rfl, rd, g⟩ := lf
       have hb := HS0.out.call g rd
       have HS1 := hide (hb.made #[.int .i64 id, .bool false, .int .i64 0, .int .i64 0, .string ⟨#[]⟩, .int .i64 0, .int .i64 0, .int .u64 0, .int .i64 0, .string ⟨#[]⟩, .int .i64 0, .int .i64 0, .slice none 0 0])
       clear HS0 rd g hb)
    | (have h9 := HS1; clear h9; go_at_call 53; refine (flag_any B q r1 _ HS1.out.rd hl1.out).mono ?_; intro e u2 lf
       rw [h2.out] at lf; obtain ⟨val, rfl, rfl, rd, g⟩ := lf
       have hb := HS1.out.call g rd
       have c2_1 : (u2).cell? ⟨u1.heap.size, 1, none⟩ = some (.bool false) := blk_cell hb.box 1 rfl
       have f2_1 : (u2).frozen? ⟨u1.heap.size, 1, none⟩ = false := blk_free hb.box 1
       have HS2 : Hid (Bx w (u2.setCell ⟨u1.heap.size, 1, none⟩ (.bool true)) B q 55 #[.int .i64 0, .bool false, .int .i64 0, .int .i64 0, .string ⟨#[]⟩, .int .i64 0, .int .i64 0, .int .u64 0, .int .i64 0, .string ⟨#[]⟩, .int .i64 0, .int .i64 0, .slice none 0 0] u1.heap.size #[.int .i64 id, .bool true, .int .i64 0, .int .i64 0, .string ⟨#[]⟩, .int .i64 0, .int .i64 0, .int .u64 0, .int .i64 0, .string ⟨#[]⟩, .int .i64 0, .int .i64 0, .slice none 0 0] r2) := hb.store 1 (.bool true)
       clear HS1 rd g hb)
    | (have h9 := HS2; clear h9; go_at_call 35; refine (whole_any B q 1 r2 _ HS2.out.rd hl2.out (by omega) (by omega)).mono ?_; intro e u3 lf
       rw [h3.out] at lf; obtain ⟨val, rfl, rfl, rd, g⟩ := lf
       have HS3 := hide (HS2.out.call g rd)
       clear HS2 rd g)
    | (have h9 := HS3; clear h9; go_at_call 52; refine (row_short B q n r3 _ HS3.out.rd hl3.out h4 (by omega)).mono ?_; rintro e u4 ⟨rfl, hu4⟩; rw [hu4]
       exact ⟨rfl, left_err (by unfold objR headR rowR; simp only [h1.out, h2.out, h3.out, Int.toNat_natCast, if_neg (show ¬ n ≤ r3.length by omega)]) HS3.out.gr⟩))

set_option maxHeartbeats 4000000 in
set_option maxRecDepth 100000 in
theorem obj_t3 (B q : Nat) (rest : List Int) (w : World) (hR : RdAt w B q rest) (hl : rest.length ≤ 140737488355000) (id : Int) (r1 r2 : List Int) (h1 : Hid (numR 4 rest = some (id, r1))) (hl1 : Hid (r1.length ≤ 140737488355000)) (h2 : Hid (flagR r1 = some (true, r2))) (hl2 : Hid (r2.length ≤ 140737488355000)) (n : Nat) (r3 : List Int) (h3 : Hid (numR 1 r2 = some ((n : Int), r3))) (hl3 : Hid (r3.length ≤ 140737488355000)) (hn : n ≤ 255) (h4 : Hid (n ≤ r3.length)) (k p : Int) (N : ByteArray) (z m st sh : Int) (T : ByteArray) (E : Int) (HND : Hid (nodeR (r3.take n) = (⟨k, p, N, z, m, st, sh, T⟩, E))) (HNR : Hid (Nr (r3.take n) n k p N z m st sh T E)) (hE : E ≠ 0) :
    Calls Try.prog 39 #[.pointer (some ⟨q, 0, none⟩)] w (Left w B q (objR rest) (ObV w)) := by
  have HS0 := hide (B1.one (ty := 55) (z := #[.int .i64 0, .bool false, .int .i64 0, .int .i64 0, .string ⟨#[]⟩, .int .i64 0, .int .i64 0, .int .u64 0, .int .i64 0, .string ⟨#[]⟩, .int .i64 0, .int .i64 0, .slice none 0 0]) hR)
  have HL0 := hide hl
  clear hR hl
  go_enter Try.func39, Try.ntmps39
  go_wp2_with (first
    | (have h9 := HS0; clear h9; go_at_call 35; refine (whole_any B q 4 rest _ HS0.out.rd HL0.out (by omega) (by omega)).mono ?_; intro e u1 lf
       rw [h1.out] at lf; obtain ⟨val, rfl, rfl, rd, g⟩ := lf
       have hb := HS0.out.call g rd
       have HS1 := hide (hb.made #[.int .i64 id, .bool false, .int .i64 0, .int .i64 0, .string ⟨#[]⟩, .int .i64 0, .int .i64 0, .int .u64 0, .int .i64 0, .string ⟨#[]⟩, .int .i64 0, .int .i64 0, .slice none 0 0])
       clear HS0 rd g hb)
    | (have h9 := HS1; clear h9; go_at_call 53; refine (flag_any B q r1 _ HS1.out.rd hl1.out).mono ?_; intro e u2 lf
       rw [h2.out] at lf; obtain ⟨val, rfl, rfl, rd, g⟩ := lf
       have hb := HS1.out.call g rd
       have c2_1 : (u2).cell? ⟨u1.heap.size, 1, none⟩ = some (.bool false) := blk_cell hb.box 1 rfl
       have f2_1 : (u2).frozen? ⟨u1.heap.size, 1, none⟩ = false := blk_free hb.box 1
       have HS2 : Hid (Bx w (u2.setCell ⟨u1.heap.size, 1, none⟩ (.bool true)) B q 55 #[.int .i64 0, .bool false, .int .i64 0, .int .i64 0, .string ⟨#[]⟩, .int .i64 0, .int .i64 0, .int .u64 0, .int .i64 0, .string ⟨#[]⟩, .int .i64 0, .int .i64 0, .slice none 0 0] u1.heap.size #[.int .i64 id, .bool true, .int .i64 0, .int .i64 0, .string ⟨#[]⟩, .int .i64 0, .int .i64 0, .int .u64 0, .int .i64 0, .string ⟨#[]⟩, .int .i64 0, .int .i64 0, .slice none 0 0] r2) := hb.store 1 (.bool true)
       clear HS1 rd g hb)
    | (have h9 := HS2; clear h9; go_at_call 35; refine (whole_any B q 1 r2 _ HS2.out.rd hl2.out (by omega) (by omega)).mono ?_; intro e u3 lf
       rw [h3.out] at lf; obtain ⟨val, rfl, rfl, rd, g⟩ := lf
       have HS3 := hide (HS2.out.call g rd)
       clear HS2 rd g)
    | (have h9 := HS3; clear h9; go_at_call 52; refine (row_ok B q n r3 _ HS3.out.rd hl3.out h4.out).mono ?_; rintro e u4 ⟨b, off, cp, rfl, rr, hc1, hc2, _, rd, g⟩
       have hb := HS3.out.call g rd
       have HRR := hide rr
       have HC1 := hide hc1
       have HC2 := hide hc2
       have HS4 := hide hb
       clear HS3 rd g hb rr hc1 hc2)
    | (have h9 := HS4; clear h9; go_at_call 54; refine (HNR.out.c14 _ _ _ HRR.out HC1.out HC2.out).mono ?_; rintro e u5 ⟨rfl, b5⟩
       have hb := HS4.out.below b5
       have hba := hb.alloc (.cells #[.int .i64 k, .int .i64 p, .string N, .int .i64 z, .int .i64 m, .int .u64 st, .int .i64 sh, .string T] 50)
       have c5_2 : (u5.alloc (.cells #[.int .i64 k, .int .i64 p, .string N, .int .i64 z, .int .i64 m, .int .u64 st, .int .i64 sh, .string T] 50)).cell? ⟨u1.heap.size, 2, none⟩ = some (.int .i64 0) := blk_cell hba.box 2 rfl
       have c5_3 : (u5.alloc (.cells #[.int .i64 k, .int .i64 p, .string N, .int .i64 z, .int .i64 m, .int .u64 st, .int .i64 sh, .string T] 50)).cell? ⟨u1.heap.size, 3, none⟩ = some (.int .i64 0) := blk_cell hba.box 3 rfl
       have c5_4 : (u5.alloc (.cells #[.int .i64 k, .int .i64 p, .string N, .int .i64 z, .int .i64 m, .int .u64 st, .int .i64 sh, .string T] 50)).cell? ⟨u1.heap.size, 4, none⟩ = some (.string ⟨#[]⟩) := blk_cell hba.box 4 rfl
       have c5_5 : (u5.alloc (.cells #[.int .i64 k, .int .i64 p, .string N, .int .i64 z, .int .i64 m, .int .u64 st, .int .i64 sh, .string T] 50)).cell? ⟨u1.heap.size, 5, none⟩ = some (.int .i64 0) := blk_cell hba.box 5 rfl
       have c5_6 : (u5.alloc (.cells #[.int .i64 k, .int .i64 p, .string N, .int .i64 z, .int .i64 m, .int .u64 st, .int .i64 sh, .string T] 50)).cell? ⟨u1.heap.size, 6, none⟩ = some (.int .i64 0) := blk_cell hba.box 6 rfl
       have c5_7 : (u5.alloc (.cells #[.int .i64 k, .int .i64 p, .string N, .int .i64 z, .int .i64 m, .int .u64 st, .int .i64 sh, .string T] 50)).cell? ⟨u1.heap.size, 7, none⟩ = some (.int .u64 0) := blk_cell hba.box 7 rfl
       have c5_8 : (u5.alloc (.cells #[.int .i64 k, .int .i64 p, .string N, .int .i64 z, .int .i64 m, .int .u64 st, .int .i64 sh, .string T] 50)).cell? ⟨u1.heap.size, 8, none⟩ = some (.int .i64 0) := blk_cell hba.box 8 rfl
       have c5_9 : (u5.alloc (.cells #[.int .i64 k, .int .i64 p, .string N, .int .i64 z, .int .i64 m, .int .u64 st, .int .i64 sh, .string T] 50)).cell? ⟨u1.heap.size, 9, none⟩ = some (.string ⟨#[]⟩) := blk_cell hba.box 9 rfl
       have f5_2 : (u5.alloc (.cells #[.int .i64 k, .int .i64 p, .string N, .int .i64 z, .int .i64 m, .int .u64 st, .int .i64 sh, .string T] 50)).frozen? ⟨u1.heap.size, 2, none⟩ = false := blk_free hba.box 2
       have f5_3 : (u5.alloc (.cells #[.int .i64 k, .int .i64 p, .string N, .int .i64 z, .int .i64 m, .int .u64 st, .int .i64 sh, .string T] 50)).frozen? ⟨u1.heap.size, 3, none⟩ = false := blk_free hba.box 3
       have f5_4 : (u5.alloc (.cells #[.int .i64 k, .int .i64 p, .string N, .int .i64 z, .int .i64 m, .int .u64 st, .int .i64 sh, .string T] 50)).frozen? ⟨u1.heap.size, 4, none⟩ = false := blk_free hba.box 4
       have f5_5 : (u5.alloc (.cells #[.int .i64 k, .int .i64 p, .string N, .int .i64 z, .int .i64 m, .int .u64 st, .int .i64 sh, .string T] 50)).frozen? ⟨u1.heap.size, 5, none⟩ = false := blk_free hba.box 5
       have f5_6 : (u5.alloc (.cells #[.int .i64 k, .int .i64 p, .string N, .int .i64 z, .int .i64 m, .int .u64 st, .int .i64 sh, .string T] 50)).frozen? ⟨u1.heap.size, 6, none⟩ = false := blk_free hba.box 6
       have f5_7 : (u5.alloc (.cells #[.int .i64 k, .int .i64 p, .string N, .int .i64 z, .int .i64 m, .int .u64 st, .int .i64 sh, .string T] 50)).frozen? ⟨u1.heap.size, 7, none⟩ = false := blk_free hba.box 7
       have f5_8 : (u5.alloc (.cells #[.int .i64 k, .int .i64 p, .string N, .int .i64 z, .int .i64 m, .int .u64 st, .int .i64 sh, .string T] 50)).frozen? ⟨u1.heap.size, 8, none⟩ = false := blk_free hba.box 8
       have f5_9 : (u5.alloc (.cells #[.int .i64 k, .int .i64 p, .string N, .int .i64 z, .int .i64 m, .int .u64 st, .int .i64 sh, .string T] 50)).frozen? ⟨u1.heap.size, 9, none⟩ = false := blk_free hba.box 9
       have HS5 := hide (hb.alloc (.cells #[.int .i64 k, .int .i64 p, .string N, .int .i64 z, .int .i64 m, .int .u64 st, .int .i64 sh, .string T] 50))
       have n5 : ¬ u5.heap.size = u1.heap.size := by have := lt_of_block hb.box; omega
       have n6 : ¬ u1.heap.size = u5.heap.size := by have := lt_of_block hb.box; omega
       clear HS4 b5 hb hba))
  exact ⟨rfl, left_err (by unfold objR headR rowR; simp only [h1.out, h2.out, h3.out, Int.toNat_natCast, if_pos h4.out, HND.out, if_neg hE]) HS5.out.gr⟩

end Go.Proofs.Ytoaahellfflooaa
