/-
  SEAT Ytoaahellfflooaa: a state is read.
-/
import Derived.Test.YtoaahellfflooaaPg
import Derived.Test.YtoaahellfflooaaEe
namespace Go.Proofs.Ytoaahellfflooaa
open Go.RowKit
set_option linter.unusedVariables false

def stR (bs : List Int) : Option (St × List Int) := match numR 8 bs with
  | none => none
  | some (fl, r1) => match numR 8 r1 with
    | none => none
    | some (nx, r2) => match numR 4 r2 with
      | none => none
      | some (cu, r3) => match numR 4 r3 with
        | none => none
        | some (la, r4) => match manyR blkR r4 with
          | none => none
          | some (bl, r5) => match manyR objR r5 with
            | none => none
            | some (os, r6) => some (⟨fl, nx, cu - 1, la - 1, bl, os⟩, r6)

theorem byt_num {n : Nat} {v : Int} {bs r : List Int} (h : numR n bs = some (v, r)) (hb : Byt bs) : Byt r := by
  rw [(numR_some h).2.2]; exact fun x hx => hb x (List.mem_of_mem_drop hx)
/-- A box beside rows of one's own. -/
structure Bxx (w u : World) (B q : Nat) (z : Array Value) (A : Nat) (c : Array Value) (rest : List Int) (C : Nat) (X : World → Prop) : Prop where
  bx : Bx w u B q 27 z A c rest
  x : X u
  lt : A < C
  keep : ∀ u u' r, X u → u.grownBy u' r → (∀ k, r = some k → k < C) → X u'
section
variable {w u u' : World} {B q : Nat} {z c : Array Value} {A : Nat} {rest r2 : List Int} {C : Nat} {X Y : World → Prop}
theorem Bxx.call (h : Bxx w u B q z A c rest C X) (g : u.grownBy u' (some q)) (r : RdAt u' B q r2) : Bxx w u' B q z A c r2 C X :=
  ⟨h.bx.call g r, h.keep _ _ _ h.x g (fun k hk => by cases hk; have := h.bx.lt; have := h.lt; omega), h.lt, h.keep⟩
theorem Bxx.store (h : Bxx w u B q z A c rest C X) (j : Nat) (v : Value) : Bxx w (u.setCell ⟨A, j, none⟩ v) B q z A (c.setIfInBounds j v) rest C X :=
  ⟨h.bx.store j v, h.keep _ _ _ h.x (set_grown u A j v) (fun k hk => by cases hk; exact h.lt), h.lt, h.keep⟩
theorem Bxx.put (h : Bxx w u B q z A c rest C X) (j : Nat) (v : Value) : Bxx w (u.setCell ⟨w.heap.size, j, none⟩ v) B q (z.setIfInBounds j v) A c rest C X :=
  ⟨h.bx.put j v, h.keep _ _ _ h.x (set_grown u _ j v) (fun k hk => by cases hk; have := h.bx.lt; have := h.lt; omega), h.lt, h.keep⟩
theorem Bxx.of (h : Bx w u B q 27 z A c rest) (C : Nat) (x : X u) (lt : A < C) (keep : ∀ u u' r, X u → u.grownBy u' r → (∀ k, r = some k → k < C) → X u') : Bxx w u B q z A c rest C X := ⟨h, x, lt, keep⟩
theorem Bxx.all {z0 z1 z2 z3 z4 z5 : Value} (v0 v1 v2 v3 v4 v5 : Value) (h : Bxx w u B q #[z0, z1, z2, z3, z4, z5] A c rest C X) : Bxx w ((((((u.setCell ⟨w.heap.size, 0, none⟩ v0).setCell ⟨w.heap.size, 1, none⟩ v1).setCell ⟨w.heap.size, 2, none⟩ v2).setCell ⟨w.heap.size, 3, none⟩ v3).setCell ⟨w.heap.size, 4, none⟩ v4).setCell ⟨w.heap.size, 5, none⟩ v5) B q #[v0, v1, v2, v3, v4, v5] A c rest C X := by
  have g0 : Bxx w _ B q #[v0, z1, z2, z3, z4, z5] A c rest C X := h.put 0 v0
  have g1 : Bxx w _ B q #[v0, v1, z2, z3, z4, z5] A c rest C X := g0.put 1 v1
  have g2 : Bxx w _ B q #[v0, v1, v2, z3, z4, z5] A c rest C X := g1.put 2 v2
  have g3 : Bxx w _ B q #[v0, v1, v2, v3, z4, z5] A c rest C X := g2.put 3 v3
  have g4 : Bxx w _ B q #[v0, v1, v2, v3, v4, z5] A c rest C X := g3.put 4 v4
  have g5 : Bxx w _ B q #[v0, v1, v2, v3, v4, v5] A c rest C X := g4.put 5 v5
  exact g5
end
theorem res18 {W : World} {P : Nat} {tmps : Array Value} {c0 c1 c2 c3 c4 c5 : Value} (h : W.heap[P]? = some (.cells #[c0, c1, c2, c3, c4, c5] 27 (0, 0))) (h2 : tmps[2]? = some (.pointer (some ⟨P, 0, none⟩))) : (results Try.f18 tmps).run Try.prog W = .ok (.agg #[c0, c1, c2, c3, c4, c5]) W := by
  have q0 := blk_cell h 0 rfl
  have q1 := blk_cell h 1 rfl
  have q2 := blk_cell h 2 rfl
  have q3 := blk_cell h 3 rfl
  have q4 := blk_cell h 4 rfl
  have q5 := blk_cell h 5 rfl
  simp [results, Try.results18, go_sem, q0, q1, q2, q3, q4, q5, h2]

/-- A state's rows in memory, of the call's own. -/
structure StOwn (u : World) (C : Nat) (s : St) (vb vo : Value) (ls : List (Ob × Value)) : Prop where
  b : u.ownsRow C 48 4 vb s.bs.length (flatBlk s.bs)
  o : u.ownsRow C 55 13 vo s.os.length (flatO ls)
  c : ObsOk u C ls
  os : ls.map Prod.fst = s.os
  bl : s.bs.length ≤ 4294967296
  ol : s.os.length ≤ 4294967296
theorem StOwn.kept {u u' : World} {C : Nat} {s : St} {vb vo : Value} {ls : List (Ob × Value)} {r : Option Nat} (h : StOwn u C s vb vo ls) (g : u.grownBy u' r) (hr : ∀ k, r = some k → k < C) : StOwn u' C s vb vo ls := by
  have ho : ∀ e, Oth u r C e := fun e k hk => Or.inl (hr k hk)
  exact ⟨own_oth h.b g (ho 48) (Nat.le_refl _), own_oth h.o g (ho 55) (Nat.le_refl _), h.c.oth g (ho 71) (Nat.le_refl _), h.os, h.bl, h.ol⟩
theorem StOwn.low {u : World} {B C : Nat} {s : St} {vb vo : Value} {ls : List (Ob × Value)} (h : StOwn u B s vb vo ls) (hC : C ≤ B) : StOwn u C s vb vo ls := ⟨own_low h.b hC, own_low h.o hC, h.c.low hC, h.os, h.bl, h.ol⟩
def StV (w : World) (s : St) (val : Value) (u : World) : Prop := ∃ vb vo ls, val = .agg (s.cells vb vo).toArray ∧ StOwn u w.heap.size s vb vo ls

set_option maxHeartbeats 4000000 in
set_option maxRecDepth 100000 in
theorem state_any (B q : Nat) (rest : List Int) (w : World) (hR : RdAt w B q rest) (hl : rest.length ≤ 140737488355000) :
    Calls Try.prog 18 #[.pointer (some ⟨q, 0, none⟩)] w (Left w B q (stR rest) (StV w)) := by
  have HS0 := hide (Bx.two (ty := 27) (z := #[.int .u64 0, .int .u64 0, .int .i64 0, .int .i64 0, .slice none 0 0, .slice none 0 0]) (c := #[.int .u64 0, .int .u64 0, .int .i64 0, .int .i64 0, .slice none 0 0, .slice none 0 0]) hR)
  have HL0 := hide hl
  have HBY := hide hR.byt
  clear hR hl
  go_enter Try.func18, Try.ntmps18
  go_wp2_with (first
    | (have h9 := HS0; clear h9; go_at_call 34; refine (num_any B q 8 rest _ HS0.out.rd HL0.out (by omega) (by omega)).mono ?_; intro e u1 lf
       rcases h1 : numR 8 rest with _ | ⟨fl, r1⟩
       · rw [h1] at lf; obtain ⟨rfl, g⟩ := lf
         exact ⟨rfl, left_err (by unfold stR; simp only [h1]) (grown_trans HS0.out.gr g)⟩
       rw [h1] at lf; obtain ⟨val, rfl, rfl, rd, g⟩ := lf
       have H1 := hide h1
       have HL1 := hide (numR_len h1 HL0.out)
       have HBY1 := hide (byt_num h1 HBY.out)
       have hb := HS0.out.call g rd
       have HS1 : Hid (Bx w u1 B q 27 #[.int .u64 0, .int .u64 0, .int .i64 0, .int .i64 0, .slice none 0 0, .slice none 0 0] (w.heap.size + 1) #[.int .u64 0, .int .u64 0, .int .i64 0, .int .i64 0, .slice none 0 0, .slice none 0 0] r1) := hb
       clear HS0 rd g h1 hb)
    | (have h9 := HS1; clear h9; go_at_call 34; refine (num_any B q 8 r1 _ HS1.out.rd HL1.out (by omega) (by omega)).mono ?_; intro e u2 lf
       rcases h2 : numR 8 r1 with _ | ⟨nx, r2⟩
       · rw [h2] at lf; obtain ⟨rfl, g⟩ := lf
         exact ⟨rfl, left_err (by unfold stR; simp only [H1.out, h2]) (grown_trans HS1.out.gr g)⟩
       rw [h2] at lf; obtain ⟨val, rfl, rfl, rd, g⟩ := lf
       have H2 := hide h2
       have HL2 := hide (numR_len h2 HL1.out)
       have HBY2 := hide (byt_num h2 HBY1.out)
       have hb := HS1.out.call g rd
       have c_0 : (u2).cell? ⟨w.heap.size + 1, 0, none⟩ = some (.int .u64 0) := blk_cell hb.box 0 rfl
       have c_1 : (u2).cell? ⟨w.heap.size + 1, 1, none⟩ = some (.int .u64 0) := blk_cell hb.box 1 rfl
       have f_0 : (u2).frozen? ⟨w.heap.size + 1, 0, none⟩ = false := blk_free hb.box 0
       have f_1 : (u2).frozen? ⟨w.heap.size + 1, 1, none⟩ = false := blk_free hb.box 1
       have HS2 : Hid (Bx w ((u2.setCell ⟨w.heap.size + 1, 0, none⟩ (.int .u64 fl)).setCell ⟨w.heap.size + 1, 1, none⟩ (.int .u64 nx)) B q 27 #[.int .u64 0, .int .u64 0, .int .i64 0, .int .i64 0, .slice none 0 0, .slice none 0 0] (w.heap.size + 1) #[.int .u64 fl, .int .u64 nx, .int .i64 0, .int .i64 0, .slice none 0 0, .slice none 0 0] r2) := ((hb.store 0 (.int .u64 fl)).store 1 (.int .u64 nx))
       clear HS1 rd g h2 hb)
    | (have h9 := HS2; clear h9; go_at_call 35; refine (whole_any B q 4 r2 _ HS2.out.rd HL2.out (by omega) (by omega)).mono ?_; intro e u3 lf
       rcases h3 : numR 4 r2 with _ | ⟨cu, r3⟩
       · rw [h3] at lf; obtain ⟨rfl, g⟩ := lf
         exact ⟨rfl, left_err (by unfold stR; simp only [H1.out, H2.out, h3]) (grown_trans HS2.out.gr g)⟩
       rw [h3] at lf; obtain ⟨val, rfl, rfl, rd, g⟩ := lf
       have hrg := numR_range h3 HBY2.out
       have e4 : (256 : Int) ^ 4 = 4294967296 := by decide
       rw [e4] at hrg
       have hw3 : IntKind.i64.wrap (cu - 1) = cu - 1 := by rw [IntKind.wrap_i64]; omega
       clear hrg e4
       have H3 := hide h3
       have HL3 := hide (numR_len h3 HL2.out)
       have HBY3 := hide (byt_num h3 HBY2.out)
       have hb := HS2.out.call g rd
       have HS3 : Hid (Bx w u3 B q 27 #[.int .u64 0, .int .u64 0, .int .i64 0, .int .i64 0, .slice none 0 0, .slice none 0 0] (w.heap.size + 1) #[.int .u64 fl, .int .u64 nx, .int .i64 0, .int .i64 0, .slice none 0 0, .slice none 0 0] r3) := hb
       clear HS2 rd g h3 hb)
    | (have h9 := HS3; clear h9; go_at_call 35; refine (whole_any B q 4 r3 _ HS3.out.rd HL3.out (by omega) (by omega)).mono ?_; intro e u4 lf
       rcases h4 : numR 4 r3 with _ | ⟨la, r4⟩
       · rw [h4] at lf; obtain ⟨rfl, g⟩ := lf
         exact ⟨rfl, left_err (by unfold stR; simp only [H1.out, H2.out, H3.out, h4]) (grown_trans HS3.out.gr g)⟩
       rw [h4] at lf; obtain ⟨val, rfl, rfl, rd, g⟩ := lf
       have hrg := numR_range h4 HBY3.out
       have e4 : (256 : Int) ^ 4 = 4294967296 := by decide
       rw [e4] at hrg
       have hw4 : IntKind.i64.wrap (la - 1) = la - 1 := by rw [IntKind.wrap_i64]; omega
       clear hrg e4
       have H4 := hide h4
       have HL4 := hide (numR_len h4 HL3.out)
       have HBY4 := hide (byt_num h4 HBY3.out)
       have hb := HS3.out.call g rd
       have c_2 : (u4).cell? ⟨w.heap.size + 1, 2, none⟩ = some (.int .i64 0) := blk_cell hb.box 2 rfl
       have c_3 : (u4).cell? ⟨w.heap.size + 1, 3, none⟩ = some (.int .i64 0) := blk_cell hb.box 3 rfl
       have f_2 : (u4).frozen? ⟨w.heap.size + 1, 2, none⟩ = false := blk_free hb.box 2
       have f_3 : (u4).frozen? ⟨w.heap.size + 1, 3, none⟩ = false := blk_free hb.box 3
       have HS4 : Hid (Bx w ((u4.setCell ⟨w.heap.size + 1, 2, none⟩ (.int .i64 (cu - 1))).setCell ⟨w.heap.size + 1, 3, none⟩ (.int .i64 (la - 1))) B q 27 #[.int .u64 0, .int .u64 0, .int .i64 0, .int .i64 0, .slice none 0 0, .slice none 0 0] (w.heap.size + 1) #[.int .u64 fl, .int .u64 nx, .int .i64 (cu - 1), .int .i64 (la - 1), .slice none 0 0, .slice none 0 0] r4) := ((hb.store 2 (.int .i64 (cu - 1))).store 3 (.int .i64 (la - 1)))
       clear HS3 rd g h4 hb)
    | (have h9 := HS4; clear h9; go_at_call 36; refine (manyBlk_any B q r4 _ HS4.out.rd HL4.out).mono ?_; intro e u5 lf
       rcases h5 : manyR blkR r4 with _ | ⟨bl, r5⟩
       · rw [h5] at lf; obtain ⟨rfl, g⟩ := lf
         exact ⟨rfl, left_err (by unfold stR; simp only [H1.out, H2.out, H3.out, H4.out, h5]) (grown_trans HS4.out.gr g)⟩
       rw [h5] at lf; obtain ⟨val, rfl, ⟨own, hle⟩, rd, g⟩ := lf
       obtain ⟨ba, bc, rfl⟩ := own_slice own
       have H5 := hide h5
       have HLE := hide hle
       have HL5 := hide (Nat.le_trans (many_len (fun bs v r h => blkR_len h (Nat.le_refl _)) h5) HL4.out)
       have hb := HS4.out.call g rd
       have c_4 : (u5).cell? ⟨w.heap.size + 1, 4, none⟩ = some (.slice none 0 0) := blk_cell hb.box 4 rfl
       have f_4 : (u5).frozen? ⟨w.heap.size + 1, 4, none⟩ = false := blk_free hb.box 4
       have hx := Bxx.of (X := fun u => u.ownsRow (w.heap.size + 1 + 1) 48 4 (.slice ba bl.length bc) bl.length (flatBlk bl)) hb (w.heap.size + 1 + 1) (own_low own (lt_of_block HS4.out.box)) (Nat.lt_succ_self _) (fun u u' r h g hr => own_oth h g (fun k hk => Or.inl (hr k hk)) (Nat.le_refl _))
       have HS5 : Hid (Bxx w (u5.setCell ⟨w.heap.size + 1, 4, none⟩ (.slice ba bl.length bc)) B q #[.int .u64 0, .int .u64 0, .int .i64 0, .int .i64 0, .slice none 0 0, .slice none 0 0] (w.heap.size + 1) #[.int .u64 fl, .int .u64 nx, .int .i64 (cu - 1), .int .i64 (la - 1), .slice ba bl.length bc, .slice none 0 0] r5 (w.heap.size + 1 + 1) (fun u => u.ownsRow (w.heap.size + 1 + 1) 48 4 (.slice ba bl.length bc) bl.length (flatBlk bl))) := hx.store 4 _
       clear HS4 rd g h5 hb own hle hx)
    | (have h9 := HS5; clear h9; go_at_call 38; refine (manyOb_any B q r5 _ HS5.out.bx.rd HL5.out).mono ?_; intro e u6 lf
       rcases h6 : manyR objR r5 with _ | ⟨os, r6⟩
       · rw [h6] at lf; obtain ⟨rfl, g⟩ := lf
         exact ⟨rfl, left_err (by unfold stR; simp only [H1.out, H2.out, H3.out, H4.out, H5.out, h6]) (grown_trans HS5.out.bx.gr g)⟩
       rw [h6] at lf; obtain ⟨val, rfl, ⟨ls, hls, own, hok, hle⟩, rd, g⟩ := lf
       obtain ⟨oa, oc, rfl⟩ := own_slice own
       have H6 := hide h6
       have hb0 := HS5.out.call g rd
       have hb := hb0.bx
       have hsz := lt_of_block HS5.out.bx.box
       have c_0 : (u6).cell? ⟨w.heap.size + 1, 0, none⟩ = some (.int .u64 fl) := blk_cell hb.box 0 rfl
       have c_1 : (u6).cell? ⟨w.heap.size + 1, 1, none⟩ = some (.int .u64 nx) := blk_cell hb.box 1 rfl
       have c_2 : (u6).cell? ⟨w.heap.size + 1, 2, none⟩ = some (.int .i64 (cu - 1)) := blk_cell hb.box 2 rfl
       have c_3 : (u6).cell? ⟨w.heap.size + 1, 3, none⟩ = some (.int .i64 (la - 1)) := blk_cell hb.box 3 rfl
       have c_4 : (u6).cell? ⟨w.heap.size + 1, 4, none⟩ = some (.slice ba bl.length bc) := blk_cell hb.box 4 rfl
       have c_5 : (u6).cell? ⟨w.heap.size + 1, 5, none⟩ = some (.slice none 0 0) := blk_cell hb.box 5 rfl
       have f_5 : (u6).frozen? ⟨w.heap.size + 1, 5, none⟩ = false := blk_free hb.box 5
       have r_0 : (u6).frozen? ⟨w.heap.size, 0, none⟩ = false := blk_free hb.res 0
       have s_0 : (u6).cell? ⟨w.heap.size, 0, none⟩ = some (.int .u64 0) := blk_cell hb.res 0 rfl
       have r_1 : (u6).frozen? ⟨w.heap.size, 1, none⟩ = false := blk_free hb.res 1
       have s_1 : (u6).cell? ⟨w.heap.size, 1, none⟩ = some (.int .u64 0) := blk_cell hb.res 1 rfl
       have r_2 : (u6).frozen? ⟨w.heap.size, 2, none⟩ = false := blk_free hb.res 2
       have s_2 : (u6).cell? ⟨w.heap.size, 2, none⟩ = some (.int .i64 0) := blk_cell hb.res 2 rfl
       have r_3 : (u6).frozen? ⟨w.heap.size, 3, none⟩ = false := blk_free hb.res 3
       have s_3 : (u6).cell? ⟨w.heap.size, 3, none⟩ = some (.int .i64 0) := blk_cell hb.res 3 rfl
       have r_4 : (u6).frozen? ⟨w.heap.size, 4, none⟩ = false := blk_free hb.res 4
       have s_4 : (u6).cell? ⟨w.heap.size, 4, none⟩ = some (.slice none 0 0) := blk_cell hb.res 4 rfl
       have r_5 : (u6).frozen? ⟨w.heap.size, 5, none⟩ = false := blk_free hb.res 5
       have s_5 : (u6).cell? ⟨w.heap.size, 5, none⟩ = some (.slice none 0 0) := blk_cell hb.res 5 rfl
       have hx := Bxx.of (X := fun u => StOwn u (w.heap.size + 1 + 1) ⟨fl, nx, cu - 1, la - 1, bl, os⟩ (.slice ba bl.length bc) (.slice oa os.length oc) ls) hb (w.heap.size + 1 + 1) ⟨hb0.x, own_low own hsz, hok.low hsz, hls, HLE.out, hle⟩ (Nat.lt_succ_self _) (fun u u' r h g hr => h.kept g hr)
       have HS6 : Hid (Bxx w (u6.setCell ⟨w.heap.size + 1, 5, none⟩ (.slice oa os.length oc)) B q #[.int .u64 0, .int .u64 0, .int .i64 0, .int .i64 0, .slice none 0 0, .slice none 0 0] (w.heap.size + 1) #[.int .u64 fl, .int .u64 nx, .int .i64 (cu - 1), .int .i64 (la - 1), .slice ba bl.length bc, .slice oa os.length oc] r6 (w.heap.size + 1 + 1) (fun u => StOwn u (w.heap.size + 1 + 1) ⟨fl, nx, cu - 1, la - 1, bl, os⟩ (.slice ba bl.length bc) (.slice oa os.length oc) ls)) := hx.store 5 _
       clear HS5 rd g h6 hb hb0 own hle hok hls hx hsz))
  have HF := hide (HS6.out.all (.int .u64 fl) (.int .u64 nx) (.int .i64 (cu - 1)) (.int .i64 (la - 1)) (.slice ba bl.length bc) (.slice oa os.length oc))
  refine bodyPost_ret (v := .agg #[.int .u64 fl, .int .u64 nx, .int .i64 (cu - 1), .int .i64 (la - 1), .slice ba bl.length bc, .slice oa os.length oc]) (res18 HF.out.bx.res rfl) rfl ?_
  exact left_ok (v := ⟨fl, nx, cu - 1, la - 1, bl, os⟩) (by unfold stR; simp only [H1.out, H2.out, H3.out, H4.out, H5.out, H6.out]) ⟨_, _, ls, rfl, HF.out.x.low (by omega)⟩ HF.out.bx.rd HF.out.bx.gr
end Go.Proofs.Ytoaahellfflooaa
