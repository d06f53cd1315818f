/-
  SEAT Ytoaahellfflooaa: boxes; a block, a place, a chunk are read.
-/
import Derived.Test.YtoaahellfflooaaPa
namespace Go.Proofs.Ytoaahellfflooaa
open Go.RowKit
set_option linter.unusedVariables false

theorem numR_some {n : Nat} {v : Int} {bs r : List Int} (h : numR n bs = some (v, r)) : n ≤ bs.length ∧ v = getL bs 0 n ∧ r = bs.drop n := by
  unfold numR at h
  split at h
  · rename_i h1; cases h; exact ⟨h1, rfl, rfl⟩
  · cases h
theorem numR_len {n m : Nat} {v : Int} {bs r : List Int} (h : numR n bs = some (v, r)) (hm : bs.length ≤ m) : r.length ≤ m := by
  rw [(numR_some h).2.2, List.length_drop]; omega
theorem flagR_len {m : Nat} {v : Bool} {bs r : List Int} (h : flagR bs = some (v, r)) (hm : bs.length ≤ m) : r.length ≤ m := by
  unfold flagR at h
  split at h
  · cases h
  · rename_i h1
    split at h
    · cases h
    · cases h; exact numR_len h1 hm

/-- How it stands while something is read: the reader, the result's cells, the box that is filled. -/
structure Bx (w u : World) (B q : Nat) (ty : TypeId) (z : Array Value) (A : Nat) (c : Array Value) (rest : List Int) : Prop where
  rd : RdAt u B q rest
  res : u.heap[w.heap.size]? = some (.cells z ty (0, 0))
  box : u.heap[A]? = some (.cells c ty (0, 0))
  gr : w.grownBy u (some q)
  lt : B ≤ q ∧ q < w.heap.size ∧ w.heap.size < A
section
variable {w u u' : World} {B q : Nat} {ty : TypeId} {z c : Array Value} {A : Nat} {rest r2 : List Int}
theorem Bx.call (h : Bx w u B q ty z A c rest) (g : u.grownBy u' (some q)) (r : RdAt u' B q r2) : Bx w u' B q ty z A c r2 := by
  obtain ⟨h1, h2, h3⟩ := h.lt
  exact ⟨r, (g.block _ (lt_of_block h.res) (fun e => by have := Option.some.inj e; omega)).trans h.res, (g.block _ (lt_of_block h.box) (fun e => by have := Option.some.inj e; omega)).trans h.box, grownBy_trans h.gr g, h.lt⟩
theorem grown_trans {w u u' : World} {r : Option Nat} (h : w.grownBy u r) (g : u.grownBy u' r) : w.grownBy u' r := grownBy_trans h g
theorem grown_over {w u u' : World} {r : Option Nat} {i : Nat} (h : w.grownBy u r) (k : u.grownBy u' (some i)) (hi : w.heap.size ≤ i) : w.grownBy u' r :=
  ⟨k.os.trans h.os, k.tape.trans h.tape, k.output.trans h.output, Nat.le_trans h.size k.size, fun j hj hne => (k.block j (Nat.lt_of_lt_of_le hj h.size) (fun e => by have := Option.some.inj e; omega)).trans (h.block j hj hne)⟩
theorem Bx.store (h : Bx w u B q ty z A c rest) (j : Nat) (v : Value) : Bx w (u.setCell ⟨A, j, none⟩ v) B q ty z A (c.setIfInBounds j v) rest := by
  obtain ⟨h1, h2, h3⟩ := h.lt
  exact ⟨h.rd.set (by omega) (by omega) v, by rw [heap_setCell_other u ⟨A, j, none⟩ _ v (by simp; omega)]; exact h.res, heap_setCell_same u A j _ _ v h.box, grown_over h.gr (set_grown u A j v) (by omega), h.lt⟩
theorem Bx.put (h : Bx w u B q ty z A c rest) (j : Nat) (v : Value) : Bx w (u.setCell ⟨w.heap.size, j, none⟩ v) B q ty (z.setIfInBounds j v) A c rest := by
  obtain ⟨h1, h2, h3⟩ := h.lt
  exact ⟨h.rd.set (by omega) (by omega) v, heap_setCell_same u _ j _ _ v h.res, by rw [heap_setCell_other u ⟨w.heap.size, j, none⟩ _ v (by simp; omega)]; exact h.box, grown_over h.gr (set_grown u _ j v) (by omega), h.lt⟩
theorem blk_cell {u : World} {A : Nat} {c : Array Value} {ty : TypeId} (h : u.heap[A]? = some (.cells c ty (0, 0))) (j : Nat) {v : Value} (hj : c[j]? = some v) : u.cell? ⟨A, j, none⟩ = some v := by simp [World.cell?, h, hj]
theorem blk_free {u : World} {A : Nat} {c : Array Value} {ty : TypeId} (h : u.heap[A]? = some (.cells c ty (0, 0))) (j : Nat) : u.frozen? ⟨A, j, none⟩ = false := by simp [World.frozen?, h]
/-- Result and box made one behind the other. -/
theorem Bx.two (hR : RdAt w B q rest) : Bx w ((w.alloc (.cells z ty)).alloc (.cells c ty)) B q ty z (w.heap.size + 1) c rest := by
  have hl := hR.lt
  have hb : Below w.heap.size w ((w.alloc (.cells z ty)).alloc (.cells c ty)) := ((Below.refl _ _).alloc (Nat.le_refl _) _).alloc (by simp) _
  refine ⟨hR.below hb, ?_, ?_, grown_of hb _, hl.1, hl.2, by omega⟩
  · rw [Below.heap_alloc _ _ _ (by simp)]; exact heap_alloc_new _ _
  · have h9 := heap_alloc_new (w.alloc (.cells z ty)) (.cells c ty); rw [World.size_alloc] at h9; exact h9
end

structure Blk where
  st : Int
  hd : Int
  re : Bool
  lv : Int
def Blk.cells (x : Blk) : List Value := [.int .i64 x.st, .int .u64 x.hd, .bool x.re, .int .i64 x.lv]
def Blk.val (x : Blk) : Value := .agg x.cells.toArray
def blkR (bs : List Int) : Option (Blk × List Int) := match numR 1 bs with
  | none => none
  | some (a, r1) => match numR 6 r1 with
    | none => none
    | some (b, r2) => match flagR r2 with
      | none => none
      | some (c, r3) => match numR 2 r3 with
        | none => none
        | some (d, r4) => some (⟨a, b, c, d⟩, r4)

theorem res37 {W : World} {P : Nat} {tmps : Array Value} {c0 c1 c2 c3 : Value} (h : W.heap[P]? = some (.cells #[c0, c1, c2, c3] 48 (0, 0))) (h2 : tmps[2]? = some (.pointer (some ⟨P, 0, none⟩))) : (results Try.f37 tmps).run Try.prog W = .ok (.agg #[c0, c1, c2, c3]) W := by
  have q0 := blk_cell h 0 rfl
  have q1 := blk_cell h 1 rfl
  have q2 := blk_cell h 2 rfl
  have q3 := blk_cell h 3 rfl
  simp [results, Try.results37, go_sem, q0, q1, q2, q3, h2]

set_option maxHeartbeats 4000000 in
set_option maxRecDepth 100000 in
theorem blk_any (B q : Nat) (rest : List Int) (w : World) (hR : RdAt w B q rest) (hl : rest.length ≤ 140737488355000) :
    Calls Try.prog 37 #[.pointer (some ⟨q, 0, none⟩)] w (Left w B q (blkR rest) fun v val _ => val = v.val) := by
  have HS0 := hide (Bx.two (ty := 48) (z := #[.int .i64 0, .int .u64 0, .bool false, .int .i64 0]) (c := #[.int .i64 0, .int .u64 0, .bool false, .int .i64 0]) hR)
  have HL0 := hide hl
  clear hR hl
  go_enter Try.func37, Try.ntmps37
  go_wp2_with (first
    | (have h9 := HS0; clear h9; go_at_call 35; refine (whole_any B q 1 rest _ HS0.out.rd HL0.out (by omega) (by omega)).mono ?_; intro e u1 lf
       rcases h1 : numR 1 rest with _ | ⟨a, r1⟩
       · rw [h1] at lf; obtain ⟨rfl, g⟩ := lf
         exact ⟨rfl, left_err (by unfold blkR; simp only [h1]) (grown_trans HS0.out.gr g)⟩
       rw [h1] at lf; obtain ⟨val, rfl, rfl, rd, g⟩ := lf
       have H1 := hide h1
       have HL1 := hide (numR_len h1 HL0.out)
       have hb := HS0.out.call g rd
       have c1_0 := blk_cell hb.box 0 rfl
       have c1_1 := blk_cell hb.box 1 rfl
       have c1_2 := blk_cell hb.box 2 rfl
       have c1_3 := blk_cell hb.box 3 rfl
       have HS1 := hide hb
       clear HS0 rd g h1 hb)
    | (have h9 := HS1; clear h9; go_at_call 34; refine (num_any B q 6 r1 _ HS1.out.rd HL1.out (by omega) (by omega)).mono ?_; intro e u2 lf
       rcases h2 : numR 6 r1 with _ | ⟨b, r2⟩
       · rw [h2] at lf; obtain ⟨rfl, g⟩ := lf
         exact ⟨rfl, left_err (by unfold blkR; simp only [H1.out, h2]) (grown_trans HS1.out.gr g)⟩
       rw [h2] at lf; obtain ⟨val, rfl, rfl, rd, g⟩ := lf
       have H2 := hide h2
       have HL2 := hide (numR_len h2 HL1.out)
       have hb := HS1.out.call g rd
       have c2_0 := blk_cell hb.box 0 rfl
       have c2_1 := blk_cell hb.box 1 rfl
       have c2_2 := blk_cell hb.box 2 rfl
       have c2_3 := blk_cell hb.box 3 rfl
       have f2_0 := blk_free hb.box 0
       have f2_1 := blk_free hb.box 1
       have HS2 := hide ((hb.store 0 (.int .i64 a)).store 1 (.int .u64 b))
       clear HS1 rd g h2 hb)
    | (have h9 := HS2; clear h9; go_at_call 53; refine (flag_any B q r2 _ HS2.out.rd HL2.out ).mono ?_; intro e u3 lf
       rcases h3 : flagR r2 with _ | ⟨c, r3⟩
       · rw [h3] at lf; obtain ⟨rfl, g⟩ := lf
         exact ⟨rfl, left_err (by unfold blkR; simp only [H1.out, H2.out, h3]) (grown_trans HS2.out.gr g)⟩
       rw [h3] at lf; obtain ⟨val, rfl, rfl, rd, g⟩ := lf
       have H3 := hide h3
       have HL3 := hide (flagR_len h3 HL2.out)
       have hb := HS2.out.call g rd
       have c3_0 := blk_cell hb.box 0 rfl
       have c3_1 := blk_cell hb.box 1 rfl
       have c3_2 := blk_cell hb.box 2 rfl
       have c3_3 := blk_cell hb.box 3 rfl
       have HS3 := hide hb
       clear HS2 rd g h3 hb)
    | (have h9 := HS3; clear h9; go_at_call 35; refine (whole_any B q 2 r3 _ HS3.out.rd HL3.out (by omega) (by omega)).mono ?_; intro e u4 lf
       rcases h4 : numR 2 r3 with _ | ⟨d, r4⟩
       · rw [h4] at lf; obtain ⟨rfl, g⟩ := lf
         exact ⟨rfl, left_err (by unfold blkR; simp only [H1.out, H2.out, H3.out, h4]) (grown_trans HS3.out.gr g)⟩
       rw [h4] at lf; obtain ⟨val, rfl, rfl, rd, g⟩ := lf
       have H4 := hide h4
       have HL4 := hide (numR_len h4 HL3.out)
       have hb := HS3.out.call g rd
       have c4_0 := blk_cell hb.box 0 rfl
       have c4_1 := blk_cell hb.box 1 rfl
       have c4_2 := blk_cell hb.box 2 rfl
       have c4_3 := blk_cell hb.box 3 rfl
       have f4_2 := blk_free hb.box 2
       have f4_3 := blk_free hb.box 3
       have r0 := blk_free hb.res 0
       have s0 := blk_cell hb.res 0 rfl
       have r1 := blk_free hb.res 1
       have s1 := blk_cell hb.res 1 rfl
       have r2 := blk_free hb.res 2
       have s2 := blk_cell hb.res 2 rfl
       have r3 := blk_free hb.res 3
       have s3 := blk_cell hb.res 3 rfl
       have HS4 := hide ((hb.store 2 (.bool c)).store 3 (.int .i64 d))
       clear HS3 rd g h4 hb))
  have hf := HS4.out
  have HF := hide ((((hf.put 0 (.int .i64 a)).put 1 (.int .u64 b)).put 2 (.bool c)).put 3 (.int .i64 d))
  clear hf
  refine bodyPost_ret (v := Blk.val ⟨a, b, c, d⟩) (res37 HF.out.res rfl) rfl ?_
  exact left_ok (by unfold blkR; simp only [H1.out, H2.out, H3.out, H4.out]) rfl HF.out.rd HF.out.gr

/-- The same without a box. -/
structure B1 (w u : World) (B q : Nat) (ty : TypeId) (z : Array Value) (rest : List Int) : Prop where
  rd : RdAt u B q rest
  res : u.heap[w.heap.size]? = some (.cells z ty (0, 0))
  gr : w.grownBy u (some q)
  lt : B ≤ q ∧ q < w.heap.size
section
variable {w u u' : World} {B q : Nat} {ty : TypeId} {z : Array Value} {rest r2 : List Int}
theorem B1.call (h : B1 w u B q ty z rest) (g : u.grownBy u' (some q)) (r : RdAt u' B q r2) : B1 w u' B q ty z r2 := by
  obtain ⟨h1, h2⟩ := h.lt
  exact ⟨r, (g.block _ (lt_of_block h.res) (fun e => by have := Option.some.inj e; omega)).trans h.res, grownBy_trans h.gr g, h.lt⟩
theorem B1.put (h : B1 w u B q ty z rest) (j : Nat) (v : Value) : B1 w (u.setCell ⟨w.heap.size, j, none⟩ v) B q ty (z.setIfInBounds j v) rest := by
  obtain ⟨h1, h2⟩ := h.lt
  exact ⟨h.rd.set (by omega) (by omega) v, heap_setCell_same u _ j _ _ v h.res, grown_over h.gr (set_grown u _ j v) (by omega), h.lt⟩
theorem B1.one (hR : RdAt w B q rest) : B1 w (w.alloc (.cells z ty)) B q ty z rest :=
  ⟨hR.below (below_alloc w _), heap_alloc_new _ _, grown_of (below_alloc w _) _, hR.lt⟩
theorem B1.made (h : B1 w u B q ty z rest) (c : Array Value) : Bx w (u.alloc (.cells c ty)) B q ty z u.heap.size c rest := by
  have hl := lt_of_block h.res
  exact ⟨h.rd.below (below_alloc u _), by rw [Below.heap_alloc _ _ _ hl]; exact h.res, heap_alloc_new _ _, grownBy_trans h.gr (grown_of (below_alloc u _) _), h.lt.1, h.lt.2, hl⟩
end

def placeR (bs : List Int) : Option ((Int × Int) × List Int) := match numR 2 bs with
  | none => none
  | some (a, r1) => match numR 2 r1 with
    | none => none
    | some (b, r2) => some ((a, b), r2)
theorem placeR_len {m : Nat} {v : Int × Int} {bs r : List Int} (h : placeR bs = some (v, r)) (hm : bs.length ≤ m) : r.length ≤ m := by
  unfold placeR at h
  split at h
  · cases h
  · rename_i h1
    split at h
    · cases h
    · rename_i h2
      cases h; exact numR_len h2 (numR_len h1 hm)
abbrev plcV (p : Int × Int) : Value := .agg #[.int .i64 p.1, .int .i64 p.2]
structure Chk where
  no : Int
  at_ : Int × Int
  n : Int
def Chk.cells (x : Chk) : List Value := [.int .i64 x.no, .int .i64 x.at_.1, .int .i64 x.at_.2, .int .i64 x.n]
def Chk.val (x : Chk) : Value := .agg x.cells.toArray
def chkR (bs : List Int) : Option (Chk × List Int) := match numR 4 bs with
  | none => none
  | some (a, r1) => match placeR r1 with
    | none => none
    | some (p, r2) => match numR 2 r2 with
      | none => none
      | some (n, r3) => some (⟨a, p, n⟩, r3)
theorem res55 {W : World} {P : Nat} {tmps : Array Value} {c0 c1 : Value} (h : W.heap[P]? = some (.cells #[c0, c1] 52 (0, 0))) (h2 : tmps[2]? = some (.pointer (some ⟨P, 0, none⟩))) : (results Try.f55 tmps).run Try.prog W = .ok (.agg #[c0, c1]) W := by
  have q0 := blk_cell h 0 rfl
  have q1 := blk_cell h 1 rfl
  simp [results, Try.results55, go_sem, q0, q1, h2]

set_option maxHeartbeats 4000000 in
set_option maxRecDepth 100000 in
theorem place_any (B q : Nat) (rest : List Int) (w : World) (hR : RdAt w B q rest) (hl : rest.length ≤ 140737488355000) :
    Calls Try.prog 55 #[.pointer (some ⟨q, 0, none⟩)] w (Left w B q (placeR rest) fun v val _ => val = plcV v) := by
  have HS0 := hide (B1.one (ty := 52) (z := #[.int .i64 0, .int .i64 0]) hR)
  have HL0 := hide hl
  clear hR hl
  go_enter Try.func55, Try.ntmps55
  go_wp2_with (first
    | (have h9 := HS0; clear h9; go_at_call 35; refine (whole_any B q 2 rest _ HS0.out.rd HL0.out (by omega) (by omega)).mono ?_; intro e u1 lf
       rcases h1 : numR 2 rest with _ | ⟨a, r1⟩
       · rw [h1] at lf; obtain ⟨rfl, g⟩ := lf
         exact ⟨rfl, left_err (by unfold placeR; simp only [h1]) (grown_trans HS0.out.gr g)⟩
       rw [h1] at lf; obtain ⟨val, rfl, rfl, rd, g⟩ := lf
       have H1 := hide h1
       have HL1 := hide (numR_len h1 HL0.out)
       have hb := HS0.out.call g rd
       have HS1 := hide hb
       clear HS0 rd g h1 hb)
    | (have h9 := HS1; clear h9; go_at_call 35; refine (whole_any B q 2 r1 _ HS1.out.rd HL1.out (by omega) (by omega)).mono ?_; intro e u2 lf
       rcases h2 : numR 2 r1 with _ | ⟨b, r2⟩
       · rw [h2] at lf; obtain ⟨rfl, g⟩ := lf
         exact ⟨rfl, left_err (by unfold placeR; simp only [H1.out, h2]) (grown_trans HS1.out.gr g)⟩
       rw [h2] at lf; obtain ⟨val, rfl, rfl, rd, g⟩ := lf
       have H2 := hide h2
       have HL2 := hide (numR_len h2 HL1.out)
       have hb := HS1.out.call g rd
       have r0 := blk_free hb.res 0
       have s0 := blk_cell hb.res 0 rfl
       have r1 := blk_free hb.res 1
       have s1 := blk_cell hb.res 1 rfl
       have HS2 := hide hb
       clear HS1 rd g h2 hb))
  have hf := HS2.out
  have HF := hide ((hf.put 0 (.int .i64 a)).put 1 (.int .i64 b))
  clear hf
  refine bodyPost_ret (v := plcV (a, b)) (res55 HF.out.res rfl) rfl ?_
  exact left_ok (by unfold placeR; simp only [H1.out, H2.out]) rfl HF.out.rd HF.out.gr

theorem res57 {W : World} {P : Nat} {tmps : Array Value} {c0 c1 c2 c3 : Value} (h : W.heap[P]? = some (.cells #[c0, c1, c2, c3] 71 (0, 0))) (h2 : tmps[2]? = some (.pointer (some ⟨P, 0, none⟩))) : (results Try.f57 tmps).run Try.prog W = .ok (.agg #[c0, c1, c2, c3]) W := by
  have q0 := blk_cell h 0 rfl
  have q1 := blk_cell h 1 rfl
  have q2 := blk_cell h 2 rfl
  have q3 := blk_cell h 3 rfl
  simp [results, Try.results57, go_sem, q0, q1, q2, q3, h2]

set_option maxHeartbeats 4000000 in
set_option maxRecDepth 100000 in
theorem chk_any (B q : Nat) (rest : List Int) (w : World) (hR : RdAt w B q rest) (hl : rest.length ≤ 140737488355000) :
    Calls Try.prog 57 #[.pointer (some ⟨q, 0, none⟩)] w (Left w B q (chkR rest) fun v val _ => val = v.val) := by
  have HS0 := hide (B1.one (ty := 71) (z := #[.int .i64 0, .int .i64 0, .int .i64 0, .int .i64 0]) hR)
  have HL0 := hide hl
  clear hR hl
  go_enter Try.func57, Try.ntmps57
  go_wp2_with (first
    | (have h9 := HS0; clear h9; go_at_call 35; refine (whole_any B q 4 rest _ HS0.out.rd HL0.out (by omega) (by omega)).mono ?_; intro e u1 lf
       rcases h1 : numR 4 rest with _ | ⟨a, r1⟩
       · rw [h1] at lf; obtain ⟨rfl, g⟩ := lf
         exact ⟨rfl, left_err (by unfold chkR; simp only [h1]) (grown_trans HS0.out.gr g)⟩
       rw [h1] at lf; obtain ⟨val, rfl, rfl, rd, g⟩ := lf
       have H1 := hide h1
       have HL1 := hide (numR_len h1 HL0.out)
       have hb := HS0.out.call g rd
       have HS1 := hide (hb.made #[.int .i64 a, .int .i64 0, .int .i64 0, .int .i64 0])
       clear HS0 rd g h1 hb)
    | (have h9 := HS1; clear h9; go_at_call 55; refine (place_any B q r1 _ HS1.out.rd HL1.out ).mono ?_; intro e u2 lf
       rcases h2 : placeR r1 with _ | ⟨p, r2⟩
       · rw [h2] at lf; obtain ⟨rfl, g⟩ := lf
         exact ⟨rfl, left_err (by unfold chkR; simp only [H1.out, h2]) (grown_trans HS1.out.gr g)⟩
       rw [h2] at lf; obtain ⟨val, rfl, rfl, rd, g⟩ := lf
       have H2 := hide h2
       have HL2 := hide (placeR_len h2 HL1.out)
       have hb := HS1.out.call g rd
       have c2_0 := blk_cell hb.box 0 rfl
       have c2_1 := blk_cell hb.box 1 rfl
       have c2_2 := blk_cell hb.box 2 rfl
       have c2_3 := blk_cell hb.box 3 rfl
       have f2_1 := blk_free hb.box 1
       have f2_2 := blk_free hb.box 2
       have HS2 := hide ((hb.store 1 (.int .i64 p.1)).store 2 (.int .i64 p.2))
       clear HS1 rd g h2 hb)
    | (have h9 := HS2; clear h9; go_at_call 35; refine (whole_any B q 2 r2 _ HS2.out.rd HL2.out (by omega) (by omega)).mono ?_; intro e u3 lf
       rcases h3 : numR 2 r2 with _ | ⟨n, r3⟩
       · rw [h3] at lf; obtain ⟨rfl, g⟩ := lf
         exact ⟨rfl, left_err (by unfold chkR; simp only [H1.out, H2.out, h3]) (grown_trans HS2.out.gr g)⟩
       rw [h3] at lf; obtain ⟨val, rfl, rfl, rd, g⟩ := lf
       have H3 := hide h3
       have HL3 := hide (numR_len h3 HL2.out)
       have hb := HS2.out.call g rd
       have c3_0 := blk_cell hb.box 0 rfl
       have c3_1 := blk_cell hb.box 1 rfl
       have c3_2 := blk_cell hb.box 2 rfl
       have c3_3 := blk_cell hb.box 3 rfl
       have f3_3 := blk_free hb.box 3
       have r0 := blk_free hb.res 0
       have s0 := blk_cell hb.res 0 rfl
       have r1 := blk_free hb.res 1
       have s1 := blk_cell hb.res 1 rfl
       have r2 := blk_free hb.res 2
       have s2 := blk_cell hb.res 2 rfl
       have r3 := blk_free hb.res 3
       have s3 := blk_cell hb.res 3 rfl
       have n1 : ¬ w.heap.size = u1.heap.size := by have := hb.lt; omega
       have n2 : ¬ u1.heap.size = w.heap.size := by have := hb.lt; omega
       have HS3 := hide (hb.store 3 (.int .i64 n))
       clear HS2 rd g h3 hb))
  have hf := HS3.out
  have HF := hide ((((hf.put 0 (.int .i64 a)).put 1 (.int .i64 p.1)).put 2 (.int .i64 p.2)).put 3 (.int .i64 n))
  clear hf
  refine bodyPost_ret (v := Chk.val ⟨a, p, n⟩) (res57 HF.out.res rfl) rfl ?_
  exact left_ok (by unfold chkR; simp only [H1.out, H2.out, H3.out]) rfl HF.out.rd HF.out.gr
end Go.Proofs.Ytoaahellfflooaa
