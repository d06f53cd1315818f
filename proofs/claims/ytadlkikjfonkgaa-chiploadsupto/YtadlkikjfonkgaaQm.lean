/-
  SEAT Ytadlkikjfonkgaa: Fm, Fo.
-/
import Derived.Test.YtadlkikjfonkgaaQa
import Derived.Test.YtadlkikjfonkgaaQl
namespace Go.Proofs.Ytadlkikjfonkgaa
open Go.RowKit Go.Conc
set_option linter.unusedVariables false
set_option maxRecDepth 100000
set_option maxHeartbeats 4000000
variable {cb gb i k bg n : Nat} {qh : Bool} {C : Ch} {u w : World} {F : Nat → Prop} {x : Bx} {bs : List Bc} {fe : List Fe}
theorem flip_a (w : World) (p : Nat) (F : Nat → Prop) (C : Ch) (x : Bx) (bs : List Bc) (fe : List Fe) (h : CAt w p F C x bs fe) (pb pp bit : Int) (hn : hasP C.B C.P pb pp = false) :
  Calls Try.prog 56 #[.pointer (some ⟨p, 0, none⟩), .agg #[.int .i64 pb, .int .i64 pp], .int .i64 bit] w fun e w' => e = .returned (.int .i64 41) ∧ Below w.heap.size w w' := by
 have HC := J ((h.below (below_alloc _ (.cells #[.pointer (some ⟨p, 0, none⟩)] 29))).below (below_alloc _ (.cells #[.int .i64 pb, .int .i64 pp] 41)))
 clear h
 go_enter Try.func56, Try.ntmps56
 go_wp2_with (first | (go_at_call 57; refine (hasPage_any x p C.B C.P pb pp _ HC.out.box HC.out.B HC.out.P).mono ?_; rintro e u1 ⟨rfl, b1⟩; rw [hn]; have B1 := J b1; clear b1))
 go_ret
 exact ⟨rfl, below_trans (below_trans (below_alloc _ _) (below_alloc _ _)) B1.out⟩
def F3 (cb p gb nb i k bg n : Nat) (qh : Bool) (C : Ch) (u : World) : Prop := u.cell? ⟨cb, 0, none⟩ = some (.pointer (some ⟨p, 0, none⟩)) ∧ u.cell? ⟨p, 0, none⟩ = some (.int .i64 (C.B : Int)) ∧ u.cell? ⟨p, 1, none⟩ = some (.int .i64 (C.P : Int)) ∧ u.cell? ⟨p, 2, none⟩ = some (.int .i64 (C.S : Int)) ∧ u.cell? ⟨p, 3, none⟩ = some (.slice (some ⟨gb, 0, none⟩) nb nb) ∧ u.cell? ⟨cb + 1, 0, none⟩ = some (.int .i64 (i : Int)) ∧ u.cell? ⟨cb + 1, 1, none⟩ = some (.int .i64 (k : Int)) ∧ u.cell? ⟨gb, i * 4 + 3, none⟩ = some (.slice (some ⟨bg, 0, none⟩) n n) ∧ u.cell? ⟨bg, k * 2 + 1, none⟩ = some (.bool qh)
theorem f3_keep {p nb : Nat} {u' : World} (h : F3 cb p gb nb i k bg n qh C u) (hb : Below u.heap.size u u') : F3 cb p gb nb i k bg n qh C u' := by
 obtain ⟨h0, h1, h2, h3, h4, h5, h6, h7, h8⟩ := h
 exact ⟨(hb.cell (block_lt_of_cell h0)).trans h0, (hb.cell (block_lt_of_cell h1)).trans h1, (hb.cell (block_lt_of_cell h2)).trans h2, (hb.cell (block_lt_of_cell h3)).trans h3, (hb.cell (block_lt_of_cell h4)).trans h4, (hb.cell (block_lt_of_cell h5)).trans h5, (hb.cell (block_lt_of_cell h6)).trans h6, (hb.cell (block_lt_of_cell h7)).trans h7, (hb.cell (block_lt_of_cell h8)).trans h8⟩
theorem f3_drew {p nb : Nat} (h : F3 cb p gb nb i k bg n qh C u) : F3 cb p gb nb i k bg n qh C u.drew := h
theorem cells1 {g : Nat} {c0 : Value} {T : TypeId} {fr : Nat × Nat} (h : w.heap[g]? = some (.cells #[c0] T fr)) : w.cell? ⟨g, 0, none⟩ = some c0 := by simp [World.cell?, h]
theorem f3_mk {p : Nat} {b : Bc} {q : Pc} (h : CAt u p F C x bs fe) (hi : bs[i]? = some b) (hk : b.ps[k]? = some q) (h0 : u.heap[cb]? = some (.cells #[.pointer (some ⟨p, 0, none⟩)] 29 (0, 0))) (h1 : u.heap[cb + 1]? = some (.cells #[.int .i64 (i : Int), .int .i64 (k : Int)] 41 (0, 0))) : F3 cb p x.gb x.nb i k b.g b.ps.length q.h C u := by
 have b0 := h.box.c0
 have b1 := h.box.c1
 have b2 := h.box.c2
 rw [h.B] at b0
 rw [h.P] at b1
 rw [h.S] at b2
 obtain ⟨p0, p1⟩ := cells2 h1
 exact ⟨cells1 h0, b0, b1, b2, h.box.c3, p0, p1, (h.blk hi).2.2.2, ((h.bok b (List.mem_of_getElem? hi)).page hk).2⟩
theorem flip_n (w : World) (p : Nat) (F : Nat → Prop) (C : Ch) (x : Bx) (bs : List Bc) (fe : List Fe) (h : CAt w p F C x bs fe) (hok : C.Ok) (i k : Nat) (b : Bc) (q : Pc) (hi : bs[i]? = some b) (hk : b.ps[k]? = some q) (bit : Int) (hb0 : decide (bit < 0) = true) :
  Calls Try.prog 56 #[.pointer (some ⟨p, 0, none⟩), .agg #[.int .i64 (i : Int), .int .i64 (k : Int)], .int .i64 bit] w fun e w' => e = .returned (.int .i64 46) ∧ Below w.heap.size w w' := by
 have hBl := hok.bl
 have hS := hok.s
 have hil : i < bs.length := (List.getElem?_eq_some_iff.1 hi).1
 have hkl : k < b.ps.length := (List.getElem?_eq_some_iff.1 hk).1
 have hP : hasP C.B C.P (i : Int) (k : Int) = true := by
  have e1 : bs.length = C.B := by have h1 := h.len; rw [hBl] at h1; exact h1
  have e2 : b.ps.length = C.P := (h.bok b (List.mem_of_getElem? hi)).np
  unfold hasP hasB
  rw [decide_eq_true (show (0 : Int) ≤ i ∧ (i : Int) < C.B by omega), decide_eq_true (show (0 : Int) ≤ k ∧ (k : Int) < C.P by omega)]
  rfl
 have i1 : (i : Int) < (x.nb : Int) := by rw [h.nb]; omega
 have k1 : (k : Int) < (b.ps.length : Int) := by omega
 have HC0 := J ((h.below (below_alloc _ (.cells #[.pointer (some ⟨p, 0, none⟩)] 29))).below (below_alloc _ (.cells #[.int .i64 (i : Int), .int .i64 (k : Int)] 41)))
 have HCB : Hid (((w.alloc (.cells #[.pointer (some ⟨p, 0, none⟩)] 29)).alloc (.cells #[.int .i64 (i : Int), .int .i64 (k : Int)] 41)).heap[w.heap.size]? = some (.cells #[.pointer (some ⟨p, 0, none⟩)] 29 (0, 0))) := (alloc_old _ _ (by simp)).trans (alloc_new w (.cells #[.pointer (some ⟨p, 0, none⟩)] 29))
 have HPL : Hid (((w.alloc (.cells #[.pointer (some ⟨p, 0, none⟩)] 29)).alloc (.cells #[.int .i64 (i : Int), .int .i64 (k : Int)] 41)).heap[w.heap.size + 1]? = some (.cells #[.int .i64 (i : Int), .int .i64 (k : Int)] 41 (0, 0))) := by have h2 := alloc_new (w.alloc (.cells #[.pointer (some ⟨p, 0, none⟩)] 29)) (.cells #[.int .i64 (i : Int), .int .i64 (k : Int)] 41); rw [alloc_size] at h2; exact h2
 obtain ⟨L, hLe⟩ : ∃ L, pgB C.S = L := ⟨_, rfl⟩
 have hLb : L ≤ 2126 := by rw [← hLe]; exact pgB_le hS.2
 have HL := J hLe
 clear hLe
 clear h
 go_enter Try.func56, Try.ntmps56
 go_wp2_with (first | (go_at_call 57; refine (hasPage_any x p C.B C.P (i : Int) (k : Int) _ HC0.out.box HC0.out.B HC0.out.P).mono ?_; rintro e u1 ⟨rfl, b1⟩; rw [hP]; have HC1 := J (HC0.out.below b1); have HCB1 := J ((b1.block _ (lt_of_block HCB.out)).trans HCB.out); have HPL1 := J ((b1.block _ (lt_of_block HPL.out)).trans HPL.out); have B1 := J (below_trans (below_trans (below_alloc w (.cells #[.pointer (some ⟨p, 0, none⟩)] 29)) (below_alloc _ (.cells #[.int .i64 (i : Int), .int .i64 (k : Int)] 41))) b1); have HS3 := J (f3_mk HC1.out hi hk HCB1.out HPL1.out); clear b1))
 refine wp_region_held_drew (S := (fun u => u.cell? ⟨w.heap.size, 0, none⟩ = some (.pointer (some ⟨p, 0, none⟩)) ∧ u.cell? ⟨p, 0, none⟩ = some (.int .i64 (C.B : Int)) ∧ u.cell? ⟨p, 1, none⟩ = some (.int .i64 (C.P : Int)) ∧ u.cell? ⟨p, 2, none⟩ = some (.int .i64 (C.S : Int)) ∧ u.cell? ⟨p, 3, none⟩ = some (.slice (some ⟨x.gb, 0, none⟩) x.nb x.nb) ∧ u.cell? ⟨w.heap.size + 1, 0, none⟩ = some (.int .i64 (i : Int)) ∧ u.cell? ⟨w.heap.size + 1, 1, none⟩ = some (.int .i64 (k : Int)) ∧ u.cell? ⟨x.gb, i * 4 + 3, none⟩ = some (.slice (some ⟨b.g, 0, none⟩) b.ps.length b.ps.length) ∧ u.cell? ⟨b.g, k * 2 + 1, none⟩ = some (.bool q.h))) (by kernel_rfl) (f3_drew HS3.out) fun O => ?_
 refine tk 0 ?_
 refine tk 1 ?_
 refine tk 2 ?_
 refine tu 3 ?_
 refine tu 4 ?_
 refine tu 5 ?_
 refine tu 6 ?_
 refine tu 7 ?_
 refine tu 8 ?_
 refine tu 9 ?_
 refine tu 10 ?_
 refine tk 11 ?_
 refine tk 12 ?_
 refine tu 13 ?_
 refine tu 14 ?_
 refine tu 15 ?_
 refine tu 16 ?_
 refine tu 17 ?_
 refine tu 18 ?_
 refine tu 19 ?_
 refine tu 20 ?_
 refine tu 21 ?_
 refine tu 22 ?_
 refine tu 23 ?_
 refine tu 24 ?_
 refine tu 25 ?_
 refine tu 26 ?_
 refine tu 27 ?_
 refine tk 28 ?_
 refine td ?_
 clear O
 go_wp2
 go_ret
 exact ⟨rfl, below_trans (below_trans B1.out (drew_below _)) (Below.refl _ _)⟩
theorem flip_g (w : World) (p : Nat) (F : Nat → Prop) (C : Ch) (x : Bx) (bs : List Bc) (fe : List Fe) (h : CAt w p F C x bs fe) (hok : C.Ok) (i k : Nat) (b : Bc) (q : Pc) (hi : bs[i]? = some b) (hk : b.ps[k]? = some q) (bit : Nat) (hbb : 8 * pgB C.S ≤ bit) (hbl : (bit : Int) ≤ 9223372036854775807) :
  Calls Try.prog 56 #[.pointer (some ⟨p, 0, none⟩), .agg #[.int .i64 (i : Int), .int .i64 (k : Int)], .int .i64 (bit : Int)] w fun e w' => e = .returned (.int .i64 46) ∧ Below w.heap.size w w' := by
 have hBl := hok.bl
 have hS := hok.s
 have hil : i < bs.length := (List.getElem?_eq_some_iff.1 hi).1
 have hkl : k < b.ps.length := (List.getElem?_eq_some_iff.1 hk).1
 have hP : hasP C.B C.P (i : Int) (k : Int) = true := by
  have e1 : bs.length = C.B := by have h1 := h.len; rw [hBl] at h1; exact h1
  have e2 : b.ps.length = C.P := (h.bok b (List.mem_of_getElem? hi)).np
  unfold hasP hasB
  rw [decide_eq_true (show (0 : Int) ≤ i ∧ (i : Int) < C.B by omega), decide_eq_true (show (0 : Int) ≤ k ∧ (k : Int) < C.P by omega)]
  rfl
 have i1 : (i : Int) < (x.nb : Int) := by rw [h.nb]; omega
 have k1 : (k : Int) < (b.ps.length : Int) := by omega
 have HC0 := J ((h.below (below_alloc _ (.cells #[.pointer (some ⟨p, 0, none⟩)] 29))).below (below_alloc _ (.cells #[.int .i64 (i : Int), .int .i64 (k : Int)] 41)))
 have HCB : Hid (((w.alloc (.cells #[.pointer (some ⟨p, 0, none⟩)] 29)).alloc (.cells #[.int .i64 (i : Int), .int .i64 (k : Int)] 41)).heap[w.heap.size]? = some (.cells #[.pointer (some ⟨p, 0, none⟩)] 29 (0, 0))) := (alloc_old _ _ (by simp)).trans (alloc_new w (.cells #[.pointer (some ⟨p, 0, none⟩)] 29))
 have HPL : Hid (((w.alloc (.cells #[.pointer (some ⟨p, 0, none⟩)] 29)).alloc (.cells #[.int .i64 (i : Int), .int .i64 (k : Int)] 41)).heap[w.heap.size + 1]? = some (.cells #[.int .i64 (i : Int), .int .i64 (k : Int)] 41 (0, 0))) := by have h2 := alloc_new (w.alloc (.cells #[.pointer (some ⟨p, 0, none⟩)] 29)) (.cells #[.int .i64 (i : Int), .int .i64 (k : Int)] 41); rw [alloc_size] at h2; exact h2
 obtain ⟨L, hLe⟩ : ∃ L, pgB C.S = L := ⟨_, rfl⟩
 have hLb : L ≤ 2126 := by rw [← hLe]; exact pgB_le hS.2
 have HL := J hLe
 clear hLe
 have hb0 : decide ((bit : Int) < 0) = false := decide_eq_false (by omega)
 rw [HL.out] at hbb
 have hw : IntKind.i64.wrap (8 * (L : Int)) = 8 * (L : Int) := by simp only [IntKind.wrap_i64]; omega
 have hb1 : decide (8 * (L : Int) ≤ (bit : Int)) = true := decide_eq_true (by omega)
 clear hbb
 clear h
 go_enter Try.func56, Try.ntmps56
 go_wp2_with (first | (go_at_call 57; refine (hasPage_any x p C.B C.P (i : Int) (k : Int) _ HC0.out.box HC0.out.B HC0.out.P).mono ?_; rintro e u1 ⟨rfl, b1⟩; rw [hP]; have HC1 := J (HC0.out.below b1); have HCB1 := J ((b1.block _ (lt_of_block HCB.out)).trans HCB.out); have HPL1 := J ((b1.block _ (lt_of_block HPL.out)).trans HPL.out); have B1 := J (below_trans (below_trans (below_alloc w (.cells #[.pointer (some ⟨p, 0, none⟩)] 29)) (below_alloc _ (.cells #[.int .i64 (i : Int), .int .i64 (k : Int)] 41))) b1); have HS3 := J (f3_mk HC1.out hi hk HCB1.out HPL1.out); clear b1))
 refine wp_region_held_drew (S := (fun u => u.cell? ⟨w.heap.size, 0, none⟩ = some (.pointer (some ⟨p, 0, none⟩)) ∧ u.cell? ⟨p, 0, none⟩ = some (.int .i64 (C.B : Int)) ∧ u.cell? ⟨p, 1, none⟩ = some (.int .i64 (C.P : Int)) ∧ u.cell? ⟨p, 2, none⟩ = some (.int .i64 (C.S : Int)) ∧ u.cell? ⟨p, 3, none⟩ = some (.slice (some ⟨x.gb, 0, none⟩) x.nb x.nb) ∧ u.cell? ⟨w.heap.size + 1, 0, none⟩ = some (.int .i64 (i : Int)) ∧ u.cell? ⟨w.heap.size + 1, 1, none⟩ = some (.int .i64 (k : Int)) ∧ u.cell? ⟨x.gb, i * 4 + 3, none⟩ = some (.slice (some ⟨b.g, 0, none⟩) b.ps.length b.ps.length) ∧ u.cell? ⟨b.g, k * 2 + 1, none⟩ = some (.bool q.h))) (by kernel_rfl) (f3_drew HS3.out) fun O => ?_
 refine tk 0 ?_
 refine tk 1 ?_
 refine tk 2 ?_
 refine tk 3 ?_
 refine tk 4 ?_
 refine tk 5 ?_
 refine tk 6 ?_
 refine tk 7 ?_
 refine rd 8 fun K N => ?_
 go_simp
 go_at_call 46
 refine (pageB_any _ _ C.S _ hS.1 hS.2).mono ?_
 rintro e u2 ⟨rfl, b2⟩
 rw [HL.out]
 have HB2 := J (below_trans (drew_below _) b2)
 have hZ := f3_keep HS3.out HB2.out
 clear b2
 go_wp2_with fail
 clear O
 refine N.out _ _ hZ fun O => ?_
 clear N K hZ
 try simp only [zz]
 refine tk 9 ?_
 refine tk 10 ?_
 refine tk 11 ?_
 refine tk 12 ?_
 refine tu 13 ?_
 refine tu 14 ?_
 refine tu 15 ?_
 refine tu 16 ?_
 refine tu 17 ?_
 refine tu 18 ?_
 refine tu 19 ?_
 refine tu 20 ?_
 refine tu 21 ?_
 refine tu 22 ?_
 refine tu 23 ?_
 refine tu 24 ?_
 refine tu 25 ?_
 refine tu 26 ?_
 refine tu 27 ?_
 refine tk 28 ?_
 refine td ?_
 clear O
 go_wp2
 go_ret
 exact ⟨rfl, below_trans B1.out HB2.out⟩
theorem flip_h (w : World) (p : Nat) (F : Nat → Prop) (C : Ch) (x : Bx) (bs : List Bc) (fe : List Fe) (h : CAt w p F C x bs fe) (hok : C.Ok) (i k : Nat) (b : Bc) (q : Pc) (hi : bs[i]? = some b) (hk : b.ps[k]? = some q) (bit : Nat) (hbb : bit < 8 * pgB C.S) (hqh : q.h = false) :
  Calls Try.prog 56 #[.pointer (some ⟨p, 0, none⟩), .agg #[.int .i64 (i : Int), .int .i64 (k : Int)], .int .i64 (bit : Int)] w fun e w' => e = .returned (.int .i64 46) ∧ Below w.heap.size w w' := by
 have hBl := hok.bl
 have hS := hok.s
 have hil : i < bs.length := (List.getElem?_eq_some_iff.1 hi).1
 have hkl : k < b.ps.length := (List.getElem?_eq_some_iff.1 hk).1
 have hP : hasP C.B C.P (i : Int) (k : Int) = true := by
  have e1 : bs.length = C.B := by have h1 := h.len; rw [hBl] at h1; exact h1
  have e2 : b.ps.length = C.P := (h.bok b (List.mem_of_getElem? hi)).np
  unfold hasP hasB
  rw [decide_eq_true (show (0 : Int) ≤ i ∧ (i : Int) < C.B by omega), decide_eq_true (show (0 : Int) ≤ k ∧ (k : Int) < C.P by omega)]
  rfl
 have i1 : (i : Int) < (x.nb : Int) := by rw [h.nb]; omega
 have k1 : (k : Int) < (b.ps.length : Int) := by omega
 have HC0 := J ((h.below (below_alloc _ (.cells #[.pointer (some ⟨p, 0, none⟩)] 29))).below (below_alloc _ (.cells #[.int .i64 (i : Int), .int .i64 (k : Int)] 41)))
 have HCB : Hid (((w.alloc (.cells #[.pointer (some ⟨p, 0, none⟩)] 29)).alloc (.cells #[.int .i64 (i : Int), .int .i64 (k : Int)] 41)).heap[w.heap.size]? = some (.cells #[.pointer (some ⟨p, 0, none⟩)] 29 (0, 0))) := (alloc_old _ _ (by simp)).trans (alloc_new w (.cells #[.pointer (some ⟨p, 0, none⟩)] 29))
 have HPL : Hid (((w.alloc (.cells #[.pointer (some ⟨p, 0, none⟩)] 29)).alloc (.cells #[.int .i64 (i : Int), .int .i64 (k : Int)] 41)).heap[w.heap.size + 1]? = some (.cells #[.int .i64 (i : Int), .int .i64 (k : Int)] 41 (0, 0))) := by have h2 := alloc_new (w.alloc (.cells #[.pointer (some ⟨p, 0, none⟩)] 29)) (.cells #[.int .i64 (i : Int), .int .i64 (k : Int)] 41); rw [alloc_size] at h2; exact h2
 obtain ⟨L, hLe⟩ : ∃ L, pgB C.S = L := ⟨_, rfl⟩
 have hLb : L ≤ 2126 := by rw [← hLe]; exact pgB_le hS.2
 have HL := J hLe
 clear hLe
 have hb0 : decide ((bit : Int) < 0) = false := decide_eq_false (by omega)
 rw [HL.out] at hbb
 have hw : IntKind.i64.wrap (8 * (L : Int)) = 8 * (L : Int) := by simp only [IntKind.wrap_i64]; omega
 have hb1 : decide (8 * (L : Int) ≤ (bit : Int)) = false := decide_eq_false (by omega)
 clear h
 go_enter Try.func56, Try.ntmps56
 go_wp2_with (first | (go_at_call 57; refine (hasPage_any x p C.B C.P (i : Int) (k : Int) _ HC0.out.box HC0.out.B HC0.out.P).mono ?_; rintro e u1 ⟨rfl, b1⟩; rw [hP]; have HC1 := J (HC0.out.below b1); have HCB1 := J ((b1.block _ (lt_of_block HCB.out)).trans HCB.out); have HPL1 := J ((b1.block _ (lt_of_block HPL.out)).trans HPL.out); have B1 := J (below_trans (below_trans (below_alloc w (.cells #[.pointer (some ⟨p, 0, none⟩)] 29)) (below_alloc _ (.cells #[.int .i64 (i : Int), .int .i64 (k : Int)] 41))) b1); have HS3 := J (f3_mk HC1.out hi hk HCB1.out HPL1.out); clear b1))
 rw [hqh] at HS3
 refine wp_region_held_drew (S := (fun u => u.cell? ⟨w.heap.size, 0, none⟩ = some (.pointer (some ⟨p, 0, none⟩)) ∧ u.cell? ⟨p, 0, none⟩ = some (.int .i64 (C.B : Int)) ∧ u.cell? ⟨p, 1, none⟩ = some (.int .i64 (C.P : Int)) ∧ u.cell? ⟨p, 2, none⟩ = some (.int .i64 (C.S : Int)) ∧ u.cell? ⟨p, 3, none⟩ = some (.slice (some ⟨x.gb, 0, none⟩) x.nb x.nb) ∧ u.cell? ⟨w.heap.size + 1, 0, none⟩ = some (.int .i64 (i : Int)) ∧ u.cell? ⟨w.heap.size + 1, 1, none⟩ = some (.int .i64 (k : Int)) ∧ u.cell? ⟨x.gb, i * 4 + 3, none⟩ = some (.slice (some ⟨b.g, 0, none⟩) b.ps.length b.ps.length) ∧ u.cell? ⟨b.g, k * 2 + 1, none⟩ = some (.bool false))) (by kernel_rfl) (f3_drew HS3.out) fun O => ?_
 refine tk 0 ?_
 refine tk 1 ?_
 refine tk 2 ?_
 refine tk 3 ?_
 refine tk 4 ?_
 refine tk 5 ?_
 refine tk 6 ?_
 refine tk 7 ?_
 refine rd 8 fun K N => ?_
 go_simp
 go_at_call 46
 refine (pageB_any _ _ C.S _ hS.1 hS.2).mono ?_
 rintro e u2 ⟨rfl, b2⟩
 rw [HL.out]
 have HB2 := J (below_trans (drew_below _) b2)
 have hZ := f3_keep HS3.out HB2.out
 clear b2
 go_wp2_with fail
 clear O
 refine N.out _ _ hZ fun O => ?_
 clear N K hZ
 try simp only [zz]
 refine tk 9 ?_
 refine tk 10 ?_
 refine tk 11 ?_
 refine tk 12 ?_
 refine tk 13 ?_
 refine tk 14 ?_
 refine tk 15 ?_
 refine tk 16 ?_
 refine tk 17 ?_
 refine tk 18 ?_
 refine tk 19 ?_
 refine tk 20 ?_
 refine tk 21 ?_
 refine tk 22 ?_
 refine tk 23 ?_
 refine tk 24 ?_
 refine tk 25 ?_
 refine tk 26 ?_
 refine tk 27 ?_
 refine tk 28 ?_
 refine td ?_
 clear O
 go_wp2
 go_ret
 exact ⟨rfl, below_trans B1.out HB2.out⟩
theorem CAt.flips2 {w' : World} {p : Nat} {G : Nat → Prop} {fe' : List Fe} {fl' : Int → Int → List Nat} (h : CAt w p F C x bs fe) (hT : KeepT F (fun t => t = 1001 ∨ t = 3) w w') (hsz : w.heap.size ≤ w'.heap.size) (hG : ∀ k, F k → G k) (hGf : ∀ k, G k → k < w'.heap.size) (hf : FlAt w' G x.gm fe') (hs : ∀ b p, look fe' b p = fl' b p) : CAt w' p G { C with fl := fl' } x bs fe' :=
 ⟨hT _ _ 102 h.fp h.box rfl (by decide), hG _ h.fp, h.B, h.P, h.S, h.nb, h.dark, h.cnt, hT _ _ 106 h.fb h.row rfl (by decide), hG _ h.fb, h.bl, fun b hb => (h.bok b hb).keep hT (by decide) hG ((hT _ _ 108 (h.bok b hb).fg (h.bok b hb).row rfl (by decide)).trans (h.bok b hb).row.symm), h.gs, hf, hs, h.q.keep hT (by decide) (by decide) hG ⟨rfl, rfl, rfl, rfl, rfl, rfl, rfl⟩ rfl, h.tr.keep hT (by decide) hG ⟨rfl, rfl, rfl⟩, hGf⟩
theorem far_look {b p : Int} {v : Value} : ∀ {fe : List Fe}, fe.Pairwise (fun f g => ∀ k, f.sl.ownBlock = some k → g.sl.ownBlock ≠ some k) → lookV fe b p = v → ∀ f ∈ fe, isAt b p f = false → ∀ g, f.sl.ownBlock = some g → v.ownBlock ≠ some g
 | [], _, _, f, hf, _, _, _ => by cases hf
 | e :: r, hp, hl, f, hf, hi, g, hg => by
  rw [List.pairwise_cons] at hp
  rw [lookV_cons] at hl
  by_cases he : isAt b p e = true
  ·rw [if_pos he] at hl
   subst hl
   rcases List.mem_cons.1 hf with h1 | h1
   ·rw [h1, he] at hi
    cases hi
   ·intro h2
    exact hp.1 f h1 g h2 hg
  ·rw [if_neg he] at hl
   rcases List.mem_cons.1 hf with h1 | h1
   ·subst h1
    have h3 : ∀ (l : List Fe), (∀ a ∈ l, ∀ k, f.sl.ownBlock = some k → a.sl.ownBlock ≠ some k) → lookV l b p = v → v.ownBlock ≠ some g := by
     intro l
     induction l with
     | nil => intro _ h4 h5; rw [← h4] at h5; cases h5
     | cons a l ih =>
      intro h4 h5
      rw [lookV_cons] at h5
      by_cases ha : isAt b p a = true
      ·rw [if_pos ha] at h5
       subst h5
       exact h4 a (by simp) g hg
      ·rw [if_neg ha] at h5
       exact ih (fun c hc => h4 c (by simp [hc])) h5
    exact h3 r hp.1 hl
   ·exact far_look hp.2 hl f h1 hi g hg
def flS (fl : Int → Int → List Nat) (i k : Int) (bit : Nat) : Int → Int → List Nat := fun b p => if b = i ∧ p = k then fl i k ++ [bit] else fl b p
theorem flip_fin {u6 w1 Y : World} {p : Nat} {fe1 : List Fe} {i k : Int} {bit ln lc d gn cn : Nat} {la : Option Addr} {es1 : Array MapEntry} {ck1 : Nat} {e1 : MapEntry} 
  (hC : CAt u6 p F C x bs fe) (hF : ∀ k, F k → k < w.heap.size) (hw : w.heap.size ≤ u6.heap.size) (hl : lookV fe i k = .slice la ln lc)
  (hO1 : Only (· = x.gm) u6 w1) (hf1 : FlAt w1 F x.gm fe1) (hm1 : w1.heap[x.gm]? = some (.map es1 ck1)) (hes1 : es1.toList.map (fun e => (e.key, e.val)) = fe1.map (fun f => (plV f.b f.p, f.sl))) (hst1 : Stamps es1.toList ck1) (hd1 : es1.toList[d]? = some e1)
  (hput1 : ∀ n : Fe, n.b = i → n.p = k → putE n fe1 = fe1.set d n ∧ d < fe1.length) (hlook1 : ∀ b' p', look fe1 b' p' = look fe b' p') (hmem1 : ∀ n : Fe, n.b = i → n.p = k → ∀ f ∈ fe1, isAt i k f = false → f ∈ fe) (hkey : e1.key = plV i k)
  (own : Y.ownsRow 0 3 1 (.slice (some ⟨gn, 0, none⟩) (ln + 1) cn) (ln + 1) (((C.fl i k).map fun (i : Nat) => Value.int .i64 (i : Int)) ++ [.int .i64 (bit : Int)])) (grow : w1.grownBy Y (Value.slice la ln lc).ownBlock) (lies : (Value.slice la ln lc).ownBlock = some gn ∨ gn = w1.heap.size) (hgl : gn < Y.heap.size) :
  ∃ z fe2, (Instr.entryStore 97 (.map (some x.gm)) (goInt (e1.born : Nat)) (.slice (some ⟨gn, 0, none⟩) (ln + 1) cn)).run Try.prog Y = .ok () z ∧ CAt z p (Fx F w z) { C with fl := flS C.fl i k bit } x bs fe2 ∧ Only F u6 z ∧ Only (· = x.gm) Y z := by
 obtain ⟨la', ln', lc', hl', hrow, hobF⟩ := look_row hC.fl i k
 rw [hl] at hl'
 cases hl'
 obtain ⟨es, ck, hm, _⟩ := hC.fl.map
 have hob3 : ∀ g, (Value.slice la ln lc).ownBlock = some g → ∃ cs, u6.heap[g]? = some (.cells cs 3 (0, 0)) := fun g hg => own_tag hrow hg
 have hogm : (Value.slice la ln lc).ownBlock ≠ some x.gm := fun e => by
  obtain ⟨cs, h1⟩ := hob3 _ e
  exact tag_ne hm h1 (t := 1001) (u := 3) rfl rfl (by decide) rfl
 have hFY : ∀ k, F k → k < Y.heap.size := fun k hk => Nat.lt_of_lt_of_le (hC.fin k hk) (Nat.le_trans hO1.size grow.size)
 have hmY : Y.heap[x.gm]? = some (.map es1 ck1) := (grow.block x.gm (lt_of_block hm1) (fun e => hogm e.symm)).trans hm1
 have hfar0 : ∀ f ∈ fe1, isAt i k f = false → ∀ g, f.sl.ownBlock = some g → (Value.slice la ln lc).ownBlock ≠ some g := fun f hf hi => far_look hC.fl.far hl f (hmem1 ⟨i, k, none, 0, 0, []⟩ rfl rfl f hf hi) hi
 obtain ⟨z, hrun, hfz, hoz⟩ := FlAt.store (G := fun k => F k ∨ (w.heap.size ≤ k ∧ k < Y.heap.size)) hmY hes1 hst1 hd1 hf1.keys hf1.far ⟨i, k, some ⟨gn, 0, none⟩, ln + 1, cn, C.fl i k ++ [bit]⟩ (hput1 _ rfl rfl) (Or.inl hf1.fg) hkey
  (fun f hf hi => ⟨owns_keep (hf1.ok f hf).row (fun g hg => by
   obtain ⟨cs, hc⟩ := own_tag (hf1.ok f hf).row hg
   exact grow.block g (lt_of_block hc) (fun e => hfar0 f hf hi g hg e.symm)), fun g hg => Or.inl ((hf1.ok f hf).fg g hg)⟩)
  ⟨by rw [List.map_append]; exact own, fun g hg => by
   cases hg
   rcases lies with h1 | h1
   ·exact Or.inl (hobF _ h1)
   ·exact Or.inr ⟨by rw [h1]; exact Nat.le_trans hw hO1.size, hgl⟩⟩
  (fun f hf hi g hg e => by
   have e' : gn = g := Option.some.inj e
   rw [← e'] at hg
   rcases lies with h1 | h1
   ·exact hfar0 f hf hi _ hg h1
   ·obtain ⟨cs, hc⟩ := own_tag (hf1.ok f hf).row hg
    have := lt_of_block hc
    omega)
 have hOz : Only (fun k => k = x.gm ∨ (Value.slice la ln lc).ownBlock = some k) u6 z := ((hO1.mono (fun _ _ e => Or.inl e)).trans (Only.ofG grow (F := fun k => k = x.gm ∨ (Value.slice la ln lc).ownBlock = some k) (fun _ e => Or.inr e)) (fun _ _ h => h)).trans hoz (fun _ _ e => Or.inl e)
 have hT : KeepT F (fun t => t = 1001 ∨ t = 3) u6 z := hOz.keepT (fun k' o t hk ho ht => by
  rcases hk with h1 | h1
  ·rw [h1, hm] at ho
   cases ho
   exact Or.inl ht
  ·obtain ⟨cs, hc⟩ := hob3 _ h1
   rw [hc] at ho
   cases ho
   exact Or.inr ht.symm)
 have hfz' : FlAt z (Fx F w z) x.gm (putE ⟨i, k, some ⟨gn, 0, none⟩, ln + 1, cn, C.fl i k ++ [bit]⟩ fe1) := hfz.keep (T := fun _ => False) (KeepT.of (fun _ _ => rfl) _) (fun h => h) (fun h => h) (fun k hk => hk.imp (fun h => h) (fun h => ⟨h.1, Nat.lt_of_lt_of_le h.2 hoz.size⟩))
 refine ⟨z, _, hrun, hC.flips2 hT hOz.size (fun k hk => Or.inl hk) (fun k hk => hk.elim (fun h => Nat.lt_of_lt_of_le (hFY k h) hoz.size) (fun h => h.2)) hfz' ?_, hOz.mono (fun j _ h => h.elim (fun e => by rw [e]; exact hC.fl.fg) (fun e => hobF _ e)), hoz⟩
 intro b' p'
 rw [look_putE]
 unfold flS
 rw [hlook1, hC.fs]
end Go.Proofs.Ytadlkikjfonkgaa
