/-
  SEAT Ytadlkikjfonkgaa: Cg.
-/
import Derived.Test.YtadlkikjfonkgaaQa
import Derived.Test.YtadlkikjfonkgaaQe
namespace Go.Proofs.Ytadlkikjfonkgaa
open Go.RowKit Go.Conc
set_option linter.unusedVariables false
set_option maxRecDepth 100000
set_option maxHeartbeats 4000000
def endE (k : Int) : Int := if k = 1 then 44 else if k = 2 then 45 else 0
theorem end_c (w : World) (p : Nat) (F : Nat → Prop) (C : Ch) (x : Bx) (bs : List Bc) (fe : List Fe) (h : CAt w p F C x bs fe) (a k : Int) (m : Option Addr) (l n : Nat) (f : Int) :
  Calls Try.prog 105 #[.pointer (some ⟨p, 0, none⟩), .agg #[.int .i64 a, .int .i64 k, .slice m l n, .int .u8 f]] w fun e w' => e = .returned (.int .i64 (endE k)) ∧ (∃ x', CAt w' p F { C with dark := C.dark || k == 2 } x' bs fe) ∧ Only (· = p) w w' := by
 by_cases h1 : k = 1
 ·subst h1
  refine (end_one h.box a m l n f).mono ?_
  rintro e w' ⟨rfl, hb⟩
  exact ⟨rfl, ⟨x, by simpa using h.below hb⟩, Only.ofB hb⟩
 ·by_cases h2 : k = 2
  ·subst h2
   refine (end_two h.box a m l n f).mono ?_
   rintro e w' ⟨rfl, hx, ho⟩
   exact ⟨rfl, ⟨_, h.box2 (h.onlyBox ho (fun k hk => hk)) ho.size hx ⟨rfl, rfl, rfl, rfl, rfl, rfl, rfl⟩ ⟨rfl, rfl, rfl, rfl, rfl, rfl, rfl⟩ ⟨rfl, rfl, rfl⟩ (by simp) h.cnt ⟨rfl, rfl, rfl, rfl, rfl, rfl, rfl⟩⟩, ho⟩
  ·refine (end_zero h.box a k m l n f h1 h2).mono ?_
   rintro e w' ⟨rfl, hb⟩
   have e1 : endE k = 0 := by unfold endE; rw [if_neg h1, if_neg h2]
   have e2 : (k == 2) = false := by simpa using h2
   rw [e1, e2, Bool.or_false]
   exact ⟨rfl, ⟨x, h.below hb⟩, Only.ofB hb⟩
theorem join2 (g : Nat) (a1 a2 : Option Addr) (n1 c1 n2 c2 : Nat) (z1 z2 : List Int) (w : World) (h0 : w.cell? ⟨g, 0, none⟩ = some (.slice a1 n1 c1)) (h1 : w.cell? ⟨g, 1, none⟩ = some (.slice a2 n2 c2)) (r1 : Reads w a1 n1 z1) (r2 : Reads w a2 n2 z2) (hl : n1 + n2 ≤ 200000000) :
  Calls Try.prog 108 #[.slice (some ⟨g, 0, none⟩) 2 2] w fun e w' => ∃ v, e = .returned v ∧ w'.ownsRow w.heap.size 5 1 v (n1 + n2) ((z1 ++ z2).map (Value.int .u8)) ∧ Below w.heap.size w w' := by
 have := join_parts (some ⟨g, 0, none⟩) 2 2 (fun i => if i = 0 then a1 else a2) (fun i => if i = 0 then n1 else n2) (fun i => if i = 0 then c1 else c2) (fun i => if i = 0 then z1 else z2) w (by omega) (by simpa [sumF] using hl)
  ⟨fun i hi => ⟨g, rfl, block_lt_of_cell h0, by match i, hi with | 0, _ => exact h0 | 1, _ => exact h1⟩, fun i hi => by match i, hi with | 0, _ => exact r1 | 1, _ => exact r2⟩
 simpa [sumF, catF] using this
theorem prog_a (w : World) (p : Nat) (F : Nat → Prop) (C : Ch) (x : Bx) (bs : List Bc) (fe : List Fe) (h : CAt w p F C x bs fe) (pb pp : Int) (hn : hasP C.B C.P pb pp = false) (da sa : Option Addr) (n1 dc n2 sc : Nat) :
  Calls Try.prog 89 #[.pointer (some ⟨p, 0, none⟩), .agg #[.int .i64 pb, .int .i64 pp], .agg #[.slice da n1 dc, .slice sa n2 sc]] w fun e w' => e = .returned (.int .i64 41) ∧ Below w.heap.size w w' := by
 have HC := J ((h.below (below_alloc _ (.cells #[.int .i64 pb, .int .i64 pp] 41))).below (below_alloc _ (.cells #[.slice da n1 dc, .slice sa n2 sc] 36)))
 clear h
 go_enter Try.func89, Try.ntmps89
 go_wp2_with (first | (go_at_call 57; refine (hasPage_any x p C.B C.P pb pp _ HC.out.box HC.out.B HC.out.P).mono ?_; rintro e u1 ⟨rfl, b1⟩; rw [hn]; have B1 := J b1; clear b1))
 go_ret
 exact ⟨rfl, below_trans (below_trans (below_alloc _ _) (below_alloc _ _)) B1.out⟩
theorem cells2 {w : World} {g : Nat} {c0 c1 : Value} {T : TypeId} {fr : Nat × Nat} (h : w.heap[g]? = some (.cells #[c0, c1] T fr)) : w.cell? ⟨g, 0, none⟩ = some c0 ∧ w.cell? ⟨g, 1, none⟩ = some c1 := by
 simp [World.cell?, h]
theorem prog_m (w : World) (p : Nat) (F : Nat → Prop) (C : Ch) (x : Bx) (bs : List Bc) (fe : List Fe) (h : CAt w p F C x bs fe) (i k : Nat) (b : Bc) (q : Pc) (hi : bs[i]? = some b) (hk : b.ps[k]? = some q) (da sa : Option Addr) (n1 dc n2 sc : Nat) (hBl : C.bl.length = C.B) (hm : b.m = true) :
  Calls Try.prog 89 #[.pointer (some ⟨p, 0, none⟩), .agg #[.int .i64 (i : Int), .int .i64 (k : Int)], .agg #[.slice da n1 dc, .slice sa n2 sc]] w fun e w' => e = .returned (.int .i64 43) ∧ Below w.heap.size w w' := by
 have hil : i < bs.length := (List.getElem?_eq_some_iff.1 hi).1
 have hkl : k < b.ps.length := (List.getElem?_eq_some_iff.1 hk).1
 have hP : hasP C.B C.P (i : Int) (k : Int) = true := by
  have e1 : bs.length = C.B := by have h1 := h.len; rw [hBl] at h1; exact h1
  have e2 : b.ps.length = C.P := (h.bok b (List.mem_of_getElem? hi)).np
  unfold hasP hasB
  rw [decide_eq_true (show (0 : Int) ≤ i ∧ (i : Int) < C.B by omega), decide_eq_true (show (0 : Int) ≤ k ∧ (k : Int) < C.P by omega)]
  rfl
 have i1 : (i : Int) < (x.nb : Int) := by rw [h.nb]; omega
 have k1 : (k : Int) < (b.ps.length : Int) := by omega
 have HC0 := J ((h.below (below_alloc _ (.cells #[.int .i64 (i : Int), .int .i64 (k : Int)] 41))).below (below_alloc _ (.cells #[.slice da n1 dc, .slice sa n2 sc] 36)))
 have HPL : Hid (((w.alloc (.cells #[.int .i64 (i : Int), .int .i64 (k : Int)] 41)).alloc (.cells #[.slice da n1 dc, .slice sa n2 sc] 36)).heap[w.heap.size]? = some (.cells #[.int .i64 (i : Int), .int .i64 (k : Int)] 41 (0, 0))) := (alloc_old _ _ (by simp)).trans (alloc_new w (.cells #[.int .i64 (i : Int), .int .i64 (k : Int)] 41))
 have HPG : Hid (((w.alloc (.cells #[.int .i64 (i : Int), .int .i64 (k : Int)] 41)).alloc (.cells #[.slice da n1 dc, .slice sa n2 sc] 36)).heap[w.heap.size + 1]? = some (.cells #[.slice da n1 dc, .slice sa n2 sc] 36 (0, 0))) := by have h2 := alloc_new (w.alloc (.cells #[.int .i64 (i : Int), .int .i64 (k : Int)] 41)) (.cells #[.slice da n1 dc, .slice sa n2 sc] 36); rw [alloc_size] at h2; exact h2
 clear h
 go_enter Try.func89, Try.ntmps89
 go_wp2_with (first | (go_at_call 57; refine (hasPage_any x p C.B C.P (i : Int) (k : Int) _ HC0.out.box HC0.out.B HC0.out.P).mono ?_; rintro e u1 ⟨rfl, b1⟩; rw [hP]; have HC1 := J (HC0.out.below b1); have HPL1 := J ((b1.block _ (lt_of_block HPL.out)).trans HPL.out); have HPG1 := J ((b1.block _ (lt_of_block HPG.out)).trans HPG.out); have B1 := J (below_trans (below_trans (below_alloc w (.cells #[.int .i64 (i : Int), .int .i64 (k : Int)] 41)) (below_alloc _ (.cells #[.slice da n1 dc, .slice sa n2 sc] 36))) b1); have c3 := HC1.out.box.c3; obtain ⟨q0, q1⟩ := cells2 HPL1.out; obtain ⟨m0, m1, m2, m3⟩ := HC1.out.blk hi; clear b1))
 refine wp_region_held_drew (S := (fun u => u.cell? ⟨w.heap.size, 0, none⟩ = some (.int .i64 (i : Int)) ∧ u.cell? ⟨p, 3, none⟩ = some (.slice (some ⟨x.gb, 0, none⟩) x.nb x.nb))) (by kernel_rfl) (⟨q0, c3⟩) fun O => ?_
 refine tk 0 ?_
 refine tk 1 ?_
 refine tk 2 ?_
 refine tk 3 ?_
 refine tk 4 ?_
 refine tk 5 ?_
 refine tk 6 ?_
 refine tk 7 ?_
 refine td ?_
 clear O
 go_wp2
 rw [hm] at m0
 refine wp_region_held_drew (S := (fun u => u.cell? ⟨x.gb, i * 4, none⟩ = some (.bool true) ∧ u.cell? ⟨x.gb, i * 4 + 1, none⟩ = some (.bool b.r) ∧ u.cell? ⟨x.gb, i * 4 + 2, none⟩ = some (.int .i64 b.nx) ∧ u.cell? ⟨w.heap.size, 1, none⟩ = some (.int .i64 (k : Int)))) (by kernel_rfl) (⟨m0, m1, m2, q1⟩) fun O => ?_
 refine tk 0 ?_
 refine tk 1 ?_
 refine tk 2 ?_
 refine tk 3 ?_
 refine tk 4 ?_
 refine tu 5 ?_
 refine tu 6 ?_
 refine tu 7 ?_
 refine tu 8 ?_
 refine tu 9 ?_
 refine tk 10 ?_
 refine tk 11 ?_
 refine tu 12 ?_
 refine tu 13 ?_
 refine tu 14 ?_
 refine tu 15 ?_
 refine tu 16 ?_
 refine tu 17 ?_
 refine tu 18 ?_
 refine tk 19 ?_
 refine td ?_
 clear O c3 q0 q1 m0 m1 m2 m3
 go_wp2
 go_ret
 exact ⟨rfl, below_trans (below_trans B1.out (drew_below _)) (drew_below _)⟩
theorem prog_r (w : World) (p : Nat) (F : Nat → Prop) (C : Ch) (x : Bx) (bs : List Bc) (fe : List Fe) (h : CAt w p F C x bs fe) (i k : Nat) (b : Bc) (q : Pc) (hi : bs[i]? = some b) (hk : b.ps[k]? = some q) (da sa : Option Addr) (n1 dc n2 sc : Nat) (hBl : C.bl.length = C.B) (hm : b.m = false) (hr : b.r = false) :
  Calls Try.prog 89 #[.pointer (some ⟨p, 0, none⟩), .agg #[.int .i64 (i : Int), .int .i64 (k : Int)], .agg #[.slice da n1 dc, .slice sa n2 sc]] w fun e w' => e = .returned (.int .i64 43) ∧ Below w.heap.size w w' := by
 have hil : i < bs.length := (List.getElem?_eq_some_iff.1 hi).1
 have hkl : k < b.ps.length := (List.getElem?_eq_some_iff.1 hk).1
 have hP : hasP C.B C.P (i : Int) (k : Int) = true := by
  have e1 : bs.length = C.B := by have h1 := h.len; rw [hBl] at h1; exact h1
  have e2 : b.ps.length = C.P := (h.bok b (List.mem_of_getElem? hi)).np
  unfold hasP hasB
  rw [decide_eq_true (show (0 : Int) ≤ i ∧ (i : Int) < C.B by omega), decide_eq_true (show (0 : Int) ≤ k ∧ (k : Int) < C.P by omega)]
  rfl
 have i1 : (i : Int) < (x.nb : Int) := by rw [h.nb]; omega
 have k1 : (k : Int) < (b.ps.length : Int) := by omega
 have HC0 := J ((h.below (below_alloc _ (.cells #[.int .i64 (i : Int), .int .i64 (k : Int)] 41))).below (below_alloc _ (.cells #[.slice da n1 dc, .slice sa n2 sc] 36)))
 have HPL : Hid (((w.alloc (.cells #[.int .i64 (i : Int), .int .i64 (k : Int)] 41)).alloc (.cells #[.slice da n1 dc, .slice sa n2 sc] 36)).heap[w.heap.size]? = some (.cells #[.int .i64 (i : Int), .int .i64 (k : Int)] 41 (0, 0))) := (alloc_old _ _ (by simp)).trans (alloc_new w (.cells #[.int .i64 (i : Int), .int .i64 (k : Int)] 41))
 have HPG : Hid (((w.alloc (.cells #[.int .i64 (i : Int), .int .i64 (k : Int)] 41)).alloc (.cells #[.slice da n1 dc, .slice sa n2 sc] 36)).heap[w.heap.size + 1]? = some (.cells #[.slice da n1 dc, .slice sa n2 sc] 36 (0, 0))) := by have h2 := alloc_new (w.alloc (.cells #[.int .i64 (i : Int), .int .i64 (k : Int)] 41)) (.cells #[.slice da n1 dc, .slice sa n2 sc] 36); rw [alloc_size] at h2; exact h2
 clear h
 go_enter Try.func89, Try.ntmps89
 go_wp2_with (first | (go_at_call 57; refine (hasPage_any x p C.B C.P (i : Int) (k : Int) _ HC0.out.box HC0.out.B HC0.out.P).mono ?_; rintro e u1 ⟨rfl, b1⟩; rw [hP]; have HC1 := J (HC0.out.below b1); have HPL1 := J ((b1.block _ (lt_of_block HPL.out)).trans HPL.out); have HPG1 := J ((b1.block _ (lt_of_block HPG.out)).trans HPG.out); have B1 := J (below_trans (below_trans (below_alloc w (.cells #[.int .i64 (i : Int), .int .i64 (k : Int)] 41)) (below_alloc _ (.cells #[.slice da n1 dc, .slice sa n2 sc] 36))) b1); have c3 := HC1.out.box.c3; obtain ⟨q0, q1⟩ := cells2 HPL1.out; obtain ⟨m0, m1, m2, m3⟩ := HC1.out.blk hi; clear b1))
 refine wp_region_held_drew (S := (fun u => u.cell? ⟨w.heap.size, 0, none⟩ = some (.int .i64 (i : Int)) ∧ u.cell? ⟨p, 3, none⟩ = some (.slice (some ⟨x.gb, 0, none⟩) x.nb x.nb))) (by kernel_rfl) (⟨q0, c3⟩) fun O => ?_
 refine tk 0 ?_
 refine tk 1 ?_
 refine tk 2 ?_
 refine tk 3 ?_
 refine tk 4 ?_
 refine tk 5 ?_
 refine tk 6 ?_
 refine tk 7 ?_
 refine td ?_
 clear O
 go_wp2
 rw [hm] at m0
 rw [hr] at m1
 refine wp_region_held_drew (S := (fun u => u.cell? ⟨x.gb, i * 4, none⟩ = some (.bool false) ∧ u.cell? ⟨x.gb, i * 4 + 1, none⟩ = some (.bool false) ∧ u.cell? ⟨x.gb, i * 4 + 2, none⟩ = some (.int .i64 b.nx) ∧ u.cell? ⟨w.heap.size, 1, none⟩ = some (.int .i64 (k : Int)))) (by kernel_rfl) (⟨m0, m1, m2, q1⟩) fun O => ?_
 refine tk 0 ?_
 refine tk 1 ?_
 refine tk 2 ?_
 refine tk 3 ?_
 refine tk 4 ?_
 refine tk 5 ?_
 refine tk 6 ?_
 refine tk 7 ?_
 refine tk 8 ?_
 refine tk 9 ?_
 refine tk 10 ?_
 refine tk 11 ?_
 refine tu 12 ?_
 refine tu 13 ?_
 refine tu 14 ?_
 refine tu 15 ?_
 refine tu 16 ?_
 refine tu 17 ?_
 refine tu 18 ?_
 refine tk 19 ?_
 refine td ?_
 clear O c3 q0 q1 m0 m1 m2 m3
 go_wp2
 go_ret
 exact ⟨rfl, below_trans (below_trans B1.out (drew_below _)) (drew_below _)⟩
theorem prog_n (w : World) (p : Nat) (F : Nat → Prop) (C : Ch) (x : Bx) (bs : List Bc) (fe : List Fe) (h : CAt w p F C x bs fe) (i k : Nat) (b : Bc) (q : Pc) (hi : bs[i]? = some b) (hk : b.ps[k]? = some q) (da sa : Option Addr) (n1 dc n2 sc : Nat) (hBl : C.bl.length = C.B) (hm : b.m = false) (hr : b.r = true) (hx : decide ((k : Int) < b.nx) = true) :
  Calls Try.prog 89 #[.pointer (some ⟨p, 0, none⟩), .agg #[.int .i64 (i : Int), .int .i64 (k : Int)], .agg #[.slice da n1 dc, .slice sa n2 sc]] w fun e w' => e = .returned (.int .i64 43) ∧ Below w.heap.size w w' := by
 have hil : i < bs.length := (List.getElem?_eq_some_iff.1 hi).1
 have hkl : k < b.ps.length := (List.getElem?_eq_some_iff.1 hk).1
 have hP : hasP C.B C.P (i : Int) (k : Int) = true := by
  have e1 : bs.length = C.B := by have h1 := h.len; rw [hBl] at h1; exact h1
  have e2 : b.ps.length = C.P := (h.bok b (List.mem_of_getElem? hi)).np
  unfold hasP hasB
  rw [decide_eq_true (show (0 : Int) ≤ i ∧ (i : Int) < C.B by omega), decide_eq_true (show (0 : Int) ≤ k ∧ (k : Int) < C.P by omega)]
  rfl
 have i1 : (i : Int) < (x.nb : Int) := by rw [h.nb]; omega
 have k1 : (k : Int) < (b.ps.length : Int) := by omega
 have HC0 := J ((h.below (below_alloc _ (.cells #[.int .i64 (i : Int), .int .i64 (k : Int)] 41))).below (below_alloc _ (.cells #[.slice da n1 dc, .slice sa n2 sc] 36)))
 have HPL : Hid (((w.alloc (.cells #[.int .i64 (i : Int), .int .i64 (k : Int)] 41)).alloc (.cells #[.slice da n1 dc, .slice sa n2 sc] 36)).heap[w.heap.size]? = some (.cells #[.int .i64 (i : Int), .int .i64 (k : Int)] 41 (0, 0))) := (alloc_old _ _ (by simp)).trans (alloc_new w (.cells #[.int .i64 (i : Int), .int .i64 (k : Int)] 41))
 have HPG : Hid (((w.alloc (.cells #[.int .i64 (i : Int), .int .i64 (k : Int)] 41)).alloc (.cells #[.slice da n1 dc, .slice sa n2 sc] 36)).heap[w.heap.size + 1]? = some (.cells #[.slice da n1 dc, .slice sa n2 sc] 36 (0, 0))) := by have h2 := alloc_new (w.alloc (.cells #[.int .i64 (i : Int), .int .i64 (k : Int)] 41)) (.cells #[.slice da n1 dc, .slice sa n2 sc] 36); rw [alloc_size] at h2; exact h2
 clear h
 go_enter Try.func89, Try.ntmps89
 go_wp2_with (first | (go_at_call 57; refine (hasPage_any x p C.B C.P (i : Int) (k : Int) _ HC0.out.box HC0.out.B HC0.out.P).mono ?_; rintro e u1 ⟨rfl, b1⟩; rw [hP]; have HC1 := J (HC0.out.below b1); have HPL1 := J ((b1.block _ (lt_of_block HPL.out)).trans HPL.out); have HPG1 := J ((b1.block _ (lt_of_block HPG.out)).trans HPG.out); have B1 := J (below_trans (below_trans (below_alloc w (.cells #[.int .i64 (i : Int), .int .i64 (k : Int)] 41)) (below_alloc _ (.cells #[.slice da n1 dc, .slice sa n2 sc] 36))) b1); have c3 := HC1.out.box.c3; obtain ⟨q0, q1⟩ := cells2 HPL1.out; obtain ⟨m0, m1, m2, m3⟩ := HC1.out.blk hi; clear b1))
 refine wp_region_held_drew (S := (fun u => u.cell? ⟨w.heap.size, 0, none⟩ = some (.int .i64 (i : Int)) ∧ u.cell? ⟨p, 3, none⟩ = some (.slice (some ⟨x.gb, 0, none⟩) x.nb x.nb))) (by kernel_rfl) (⟨q0, c3⟩) fun O => ?_
 refine tk 0 ?_
 refine tk 1 ?_
 refine tk 2 ?_
 refine tk 3 ?_
 refine tk 4 ?_
 refine tk 5 ?_
 refine tk 6 ?_
 refine tk 7 ?_
 refine td ?_
 clear O
 go_wp2
 rw [hm] at m0
 rw [hr] at m1
 refine wp_region_held_drew (S := (fun u => u.cell? ⟨x.gb, i * 4, none⟩ = some (.bool false) ∧ u.cell? ⟨x.gb, i * 4 + 1, none⟩ = some (.bool true) ∧ u.cell? ⟨x.gb, i * 4 + 2, none⟩ = some (.int .i64 b.nx) ∧ u.cell? ⟨w.heap.size, 1, none⟩ = some (.int .i64 (k : Int)))) (by kernel_rfl) (⟨m0, m1, m2, q1⟩) fun O => ?_
 refine tk 0 ?_
 refine tk 1 ?_
 refine tk 2 ?_
 refine tk 3 ?_
 refine tk 4 ?_
 refine tk 5 ?_
 refine tk 6 ?_
 refine tk 7 ?_
 refine tk 8 ?_
 refine tk 9 ?_
 refine tk 10 ?_
 refine tk 11 ?_
 refine tk 12 ?_
 refine tk 13 ?_
 refine tk 14 ?_
 refine tk 15 ?_
 refine tk 16 ?_
 refine tk 17 ?_
 refine tk 18 ?_
 refine tk 19 ?_
 refine td ?_
 clear O c3 q0 q1 m0 m1 m2 m3
 go_wp2
 go_ret
 exact ⟨rfl, below_trans (below_trans B1.out (drew_below _)) (drew_below _)⟩
end Go.Proofs.Ytadlkikjfonkgaa
