/-
  SEAT Ytadlkikjfonkgaa: Fn, Fq.
-/
import Derived.Test.YtadlkikjfonkgaaQa
import Derived.Test.YtadlkikjfonkgaaQm
namespace Go.Proofs.Ytadlkikjfonkgaa
open Go.RowKit Go.Conc
set_option linter.unusedVariables false
set_option maxRecDepth 100000
set_option maxHeartbeats 4000000
variable {u : World} {F : Nat → Prop} {C : Ch} {x : Bx} {bs : List Bc} {fe : List Fe} {i k cb : Nat}
def F6 (cb p gm i k ln lc : Nat) (la : Option Addr) (u : World) : Prop := u.cell? ⟨cb, 0, none⟩ = some (.pointer (some ⟨p, 0, none⟩)) ∧ u.cell? ⟨p, 4, none⟩ = some (.map (some gm)) ∧ u.cell? ⟨cb + 1, 0, none⟩ = some (.int .i64 (i : Int)) ∧ u.cell? ⟨cb + 1, 1, none⟩ = some (.int .i64 (k : Int)) ∧ (Instr.lookup 97 (.map (some gm)) (.agg #[.int .i64 (i : Int), .int .i64 (k : Int)]) false).run Try.prog u = .ok (.slice la ln lc) u
theorem f6_mk {p : Nat} {ln lc : Nat} {la : Option Addr} (h : CAt u p F C x bs fe) (h0 : u.heap[cb]? = some (.cells #[.pointer (some ⟨p, 0, none⟩)] 29 (0, 0))) (h1 : u.heap[cb + 1]? = some (.cells #[.int .i64 (i : Int), .int .i64 (k : Int)] 41 (0, 0))) (hl : lookV fe (i : Int) (k : Int) = .slice la ln lc) : F6 cb p x.gm i k ln lc la u := by
 obtain ⟨p0, p1⟩ := cells2 h1
 have hr := h.fl.lkr (i : Int) (k : Int)
 rw [hl] at hr
 exact ⟨cells1 h0, h.box.c4, p0, p1, hr⟩
theorem ub_mk {p : Nat} {ub un : Nat} (h : CAt u p F C x bs fe) (h0 : u.heap[cb]? = some (.cells #[.pointer (some ⟨p, 0, none⟩)] 29 (0, 0))) (h1 : u.heap[ub]? = some (.cells #[.int .i64 (un : Int)] 3 (0, 0))) : UB p cb ub un C u := by
 have b0 := h.box.c0
 have b1 := h.box.c1
 have b2 := h.box.c2
 rw [h.B] at b0
 rw [h.P] at b1
 rw [h.S] at b2
 exact ⟨cells1 h0, cells1 h1, b0, b1, b2⟩
theorem flip_u (w : World) (p : Nat) (F : Nat → Prop) (C : Ch) (x : Bx) (bs : List Bc) (fe : List Fe) (h : CAt w p F C x bs fe) (hok : C.Ok) (i k : Nat) (b : Bc) (q : Pc) (hi : bs[i]? = some b) (hk : b.ps[k]? = some q) (bit : Nat) (hbb : bit < 8 * pgB C.S) (hqh : q.h = true) (hln : (C.fl (i : Int) (k : Int)).length ≤ 4000000000000) (hany : ((C.fl (i : Int) (k : Int)).any (fun z => ((unitN C.S z : Nat) : Int) == ((unitN C.S bit : Nat) : Int))) = true) :
  Calls Try.prog 56 #[.pointer (some ⟨p, 0, none⟩), .agg #[.int .i64 (i : Int), .int .i64 (k : Int)], .int .i64 (bit : Int)] w fun e w' => e = .returned (.int .i64 46) ∧ Below w.heap.size w w' := by
 have hBl := hok.bl
 have hS := hok.s
 have hil : i < bs.length := (List.getElem?_eq_some_iff.1 hi).1
 have hkl : k < b.ps.length := (List.getElem?_eq_some_iff.1 hk).1
 have hP : hasP C.B C.P (i : Int) (k : Int) = true := by
  have e1 : bs.length = C.B := by have h1 := h.len; rw [hBl] at h1; exact h1
  have e2 : b.ps.length = C.P := (h.bok b (List.mem_of_getElem? hi)).np
  unfold hasP hasB
  rw [decide_eq_true (show (0 : Int) ≤ i ∧ (i : Int) < C.B by omega), decide_eq_true (show (0 : Int) ≤ k ∧ (k : Int) < C.P by omega)]
  rfl
 have i1 : (i : Int) < (x.nb : Int) := by rw [h.nb]; omega
 have k1 : (k : Int) < (b.ps.length : Int) := by omega
 have HC0 := J ((h.below (below_alloc _ (.cells #[.pointer (some ⟨p, 0, none⟩)] 29))).below (below_alloc _ (.cells #[.int .i64 (i : Int), .int .i64 (k : Int)] 41)))
 have HCB : Hid (((w.alloc (.cells #[.pointer (some ⟨p, 0, none⟩)] 29)).alloc (.cells #[.int .i64 (i : Int), .int .i64 (k : Int)] 41)).heap[w.heap.size]? = some (.cells #[.pointer (some ⟨p, 0, none⟩)] 29 (0, 0))) := (alloc_old _ _ (by simp)).trans (alloc_new w (.cells #[.pointer (some ⟨p, 0, none⟩)] 29))
 have HPL : Hid (((w.alloc (.cells #[.pointer (some ⟨p, 0, none⟩)] 29)).alloc (.cells #[.int .i64 (i : Int), .int .i64 (k : Int)] 41)).heap[w.heap.size + 1]? = some (.cells #[.int .i64 (i : Int), .int .i64 (k : Int)] 41 (0, 0))) := by have h2 := alloc_new (w.alloc (.cells #[.pointer (some ⟨p, 0, none⟩)] 29)) (.cells #[.int .i64 (i : Int), .int .i64 (k : Int)] 41); rw [alloc_size] at h2; exact h2
 obtain ⟨L, hLe⟩ : ∃ L, pgB C.S = L := ⟨_, rfl⟩
 have hLb : L ≤ 2126 := by rw [← hLe]; exact pgB_le hS.2
 have HL := J hLe
 clear hLe
 have hb0 : decide ((bit : Int) < 0) = false := decide_eq_false (by omega)
 have hbb0 := hbb
 have HBB := J hbb0
 clear hbb0
 rw [HL.out] at hbb
 have hw : IntKind.i64.wrap (8 * (L : Int)) = 8 * (L : Int) := by simp only [IntKind.wrap_i64]; omega
 have hb1 : decide (8 * (L : Int) ≤ (bit : Int)) = false := decide_eq_false (by omega)
 have HFBd := J (hok.fl (i : Int) (k : Int))
 clear h
 go_enter Try.func56, Try.ntmps56
 go_wp2_with (first | (go_at_call 57; refine (hasPage_any x p C.B C.P (i : Int) (k : Int) _ HC0.out.box HC0.out.B HC0.out.P).mono ?_; rintro e u1 ⟨rfl, b1⟩; rw [hP]; have HC1 := J (HC0.out.below b1); have HCB1 := J ((b1.block _ (lt_of_block HCB.out)).trans HCB.out); have HPL1 := J ((b1.block _ (lt_of_block HPL.out)).trans HPL.out); have B1 := J (below_trans (below_trans (below_alloc w (.cells #[.pointer (some ⟨p, 0, none⟩)] 29)) (below_alloc _ (.cells #[.int .i64 (i : Int), .int .i64 (k : Int)] 41))) b1); have HS3 := J (f3_mk HC1.out hi hk HCB1.out HPL1.out); clear b1))
 rw [hqh] at HS3
 refine wp_region_held_drew (S := (fun u => u.cell? ⟨w.heap.size, 0, none⟩ = some (.pointer (some ⟨p, 0, none⟩)) ∧ u.cell? ⟨p, 0, none⟩ = some (.int .i64 (C.B : Int)) ∧ u.cell? ⟨p, 1, none⟩ = some (.int .i64 (C.P : Int)) ∧ u.cell? ⟨p, 2, none⟩ = some (.int .i64 (C.S : Int)) ∧ u.cell? ⟨p, 3, none⟩ = some (.slice (some ⟨x.gb, 0, none⟩) x.nb x.nb) ∧ u.cell? ⟨w.heap.size + 1, 0, none⟩ = some (.int .i64 (i : Int)) ∧ u.cell? ⟨w.heap.size + 1, 1, none⟩ = some (.int .i64 (k : Int)) ∧ u.cell? ⟨x.gb, i * 4 + 3, none⟩ = some (.slice (some ⟨b.g, 0, none⟩) b.ps.length b.ps.length) ∧ u.cell? ⟨b.g, k * 2 + 1, none⟩ = some (.bool true))) (by kernel_rfl) (f3_drew HS3.out) fun O => ?_
 refine tk 0 ?_
 refine tk 1 ?_
 refine tk 2 ?_
 refine tk 3 ?_
 refine tk 4 ?_
 refine tk 5 ?_
 refine tk 6 ?_
 refine tk 7 ?_
 refine rd 8 fun K N => ?_
 go_simp
 go_at_call 46
 refine (pageB_any _ _ C.S _ hS.1 hS.2).mono ?_
 rintro e u2 ⟨rfl, b2⟩
 rw [HL.out]
 have HB2 := J (below_trans (drew_below _) b2)
 have hZ := f3_keep HS3.out HB2.out
 clear b2
 go_wp2_with fail
 clear O
 refine N.out _ _ hZ fun O => ?_
 clear N K hZ
 try simp only [zz]
 refine tk 9 ?_
 refine tk 10 ?_
 refine tk 11 ?_
 refine tk 12 ?_
 refine tk 13 ?_
 refine tk 14 ?_
 refine tk 15 ?_
 refine tk 16 ?_
 refine tk 17 ?_
 refine tk 18 ?_
 refine tk 19 ?_
 refine tk 20 ?_
 refine tk 21 ?_
 refine tk 22 ?_
 refine tk 23 ?_
 refine tk 24 ?_
 refine tk 25 ?_
 refine tk 26 ?_
 refine tk 27 ?_
 refine tk 28 ?_
 refine td ?_
 clear O
 have HC2 := J (HC1.out.below HB2.out)
 have HCB2 := J ((HB2.out.block _ (lt_of_block HCB1.out)).trans HCB1.out)
 have HPL2 := J ((HB2.out.block _ (lt_of_block HPL1.out)).trans HPL1.out)
 obtain ⟨s0, s1, s2, s3, s4, s5, s6, s7, s8⟩ := f3_keep HS3.out HB2.out
 clear s7 s8
 go_wp2_with (first | (go_at_call 90; refine (unitOf_any (C.B : Int) (C.P : Int) C.S bit _ hS.1 hS.2 HBB.out).mono ?_; rintro e u3 ⟨rfl, b3⟩; have B3 := J b3; clear b3))
 clear s0 s1 s2 s3 s4 s5 s6
 have HB34 : Hid (Below u2.heap.size u2 (u3.alloc (.cells #[.int .i64 ((unitN C.S bit : Nat) : Int)] 3)).drew) := below_trans (below_trans B3.out (below_alloc _ _)) (drew_below _)
 have HU4 : Hid ((u3.alloc (.cells #[.int .i64 ((unitN C.S bit : Nat) : Int)] 3)).drew.heap[u3.heap.size]? = some (.cells #[.int .i64 ((unitN C.S bit : Nat) : Int)] 3 (0, 0))) := alloc_new u3 _
 obtain ⟨u4, hu4⟩ : ∃ u, u = u3.alloc (.cells #[.int .i64 ((unitN C.S bit : Nat) : Int)] 3) := ⟨_, rfl⟩
 rw [← hu4] at HB34 HU4 ⊢
 clear hu4
 have HC4 := J (HC2.out.below HB34.out)
 have HCB4 := J ((HB34.out.block _ (lt_of_block HCB2.out)).trans HCB2.out)
 have HPL4 := J ((HB34.out.block _ (lt_of_block HPL2.out)).trans HPL2.out)
 have HUB4 := J (ub_mk HC4.out HCB4.out HU4.out)
 obtain ⟨la, ln, lc, hlv, hlo, hlf⟩ := look_row HC4.out.fl (i : Int) (k : Int)
 rw [HC4.out.fs] at hlo
 have HLV := J hlv
 have HLO4 := J hlo
 have HLF := J hlf
 have hlen : ln ≤ 4000000000000 := by have h1 := hlo.1; simp at h1; omega
 have HLN : Hid (ln ≤ 9223372036854775807) := J (by omega)
 clear hlv hlo hlf
 refine wp_region_held_drew (S := (fun u => u.cell? ⟨w.heap.size, 0, none⟩ = some (.pointer (some ⟨p, 0, none⟩)) ∧ u.cell? ⟨p, 4, none⟩ = some (.map (some x.gm)) ∧ u.cell? ⟨w.heap.size + 1, 0, none⟩ = some (.int .i64 (i : Int)) ∧ u.cell? ⟨w.heap.size + 1, 1, none⟩ = some (.int .i64 (k : Int)) ∧ (Instr.lookup 97 (.map (some x.gm)) (.agg #[.int .i64 (i : Int), .int .i64 (k : Int)]) false).run Try.prog u = .ok (.slice la ln lc) u)) (by kernel_rfl) (f6_mk HC4.out HCB4.out HPL4.out HLV.out) fun O => ?_
 refine tk 0 ?_
 refine tk 1 ?_
 refine tk 2 ?_
 refine tk 3 ?_
 refine tk 4 ?_
 refine tk 5 ?_
 refine tk 6 ?_
 refine rd 7 fun K N => ?_
 go_simp
 go_at_call 91
 refine (containsF_any p w.heap.size u3.heap.size (unitN C.S bit) C _ HUB4.out hS la ln lc 0 (C.fl (i : Int) (k : Int)) HLO4.out HFBd.out HLN.out).mono ?_
 rintro e u5 ⟨rfl, b5⟩
 rw [hany]
 have HB5 := J b5
 have HC5 := J (HC4.out.below b5)
 have HCB5 := J ((b5.block _ (lt_of_block HCB4.out)).trans HCB4.out)
 have HPL5 := J ((b5.block _ (lt_of_block HPL4.out)).trans HPL4.out)
 have hZ := f6_mk HC5.out HCB5.out HPL5.out HLV.out
 clear b5
 go_wp2_with fail
 clear O
 refine N.out _ _ hZ fun O => ?_
 clear N K hZ
 try simp only [zz]
 refine td ?_
 clear O
 go_wp2
 go_ret
 exact ⟨rfl, below_trans (below_trans (below_trans B1.out HB2.out) HB34.out) HB5.out⟩
def F8 (cb p gm i k : Nat) (u : World) : Prop := u.cell? ⟨cb, 0, none⟩ = some (.pointer (some ⟨p, 0, none⟩)) ∧ u.cell? ⟨p, 4, none⟩ = some (.map (some gm)) ∧ u.cell? ⟨cb + 1, 0, none⟩ = some (.int .i64 (i : Int)) ∧ u.cell? ⟨cb + 1, 1, none⟩ = some (.int .i64 (k : Int))
theorem f8_mk {p : Nat} (h : CAt u p F C x bs fe) (h0 : u.heap[cb]? = some (.cells #[.pointer (some ⟨p, 0, none⟩)] 29 (0, 0))) (h1 : u.heap[cb + 1]? = some (.cells #[.int .i64 (i : Int), .int .i64 (k : Int)] 41 (0, 0))) : F8 cb p x.gm i k u := by
 obtain ⟨p0, p1⟩ := cells2 h1
 exact ⟨cells1 h0, h.box.c4, p0, p1⟩
theorem f8_only {u' : World} {G : Nat → Prop} {p gm : Nat} (h : F8 cb p gm i k u) (ho : Only G u u') (h0 : ¬ G cb) (h1 : ¬ G p) (h2 : ¬ G (cb + 1)) : F8 cb p gm i k u' := by
 obtain ⟨a0, a1, a2, a3⟩ := h
 exact ⟨ho.cell a0 h0, ho.cell a1 h1, ho.cell a2 h2, ho.cell a3 h2⟩
theorem news1 {g : Nat} {v : Value} {T : TypeId} (h : u.heap[g]? = some (.cells #[v] T (0, 0))) : ∀ j y, ([v] : List Value)[j]? = some y → u.cell? ((⟨g, 0, none⟩ : Addr).add j) = some y := by
 intro j y hy
 cases j with
 | zero => simp at hy; subst hy; exact cells1 h
 | succ j => simp at hy
theorem info3 : (Try.prog.info? 3).map (fun i => (i.zero, i.size, i.bytes)) = some (some (.int .i64 0), 1, 8) := by kernel_rfl
set_option maxHeartbeats 8000000 in
theorem flip_yes (w : World) (p : Nat) (F : Nat → Prop) (C : Ch) (x : Bx) (bs : List Bc) (fe : List Fe) (h : CAt w p F C x bs fe) (hok : C.Ok) (i k : Nat) (b : Bc) (q : Pc) (hi : bs[i]? = some b) (hk : b.ps[k]? = some q) (bit : Nat) (hbb : bit < 8 * pgB C.S) (hqh : q.h = true) (hln : (C.fl (i : Int) (k : Int)).length ≤ 4000000000000) (hany : ((C.fl (i : Int) (k : Int)).any (fun z => ((unitN C.S z : Nat) : Int) == ((unitN C.S bit : Nat) : Int))) = false) :
  Calls Try.prog 56 #[.pointer (some ⟨p, 0, none⟩), .agg #[.int .i64 (i : Int), .int .i64 (k : Int)], .int .i64 (bit : Int)] w fun e w' => e = .returned (.int .i64 0) ∧ (∃ x bs fe, CAt w' p (Fx F w w') { C with fl := flS C.fl (i : Int) (k : Int) bit } x bs fe) ∧ Only F w w' := by
 have hBl := hok.bl
 have hS := hok.s
 have hil : i < bs.length := (List.getElem?_eq_some_iff.1 hi).1
 have hkl : k < b.ps.length := (List.getElem?_eq_some_iff.1 hk).1
 have hP : hasP C.B C.P (i : Int) (k : Int) = true := by
  have e1 : bs.length = C.B := by have h1 := h.len; rw [hBl] at h1; exact h1
  have e2 : b.ps.length = C.P := (h.bok b (List.mem_of_getElem? hi)).np
  unfold hasP hasB
  rw [decide_eq_true (show (0 : Int) ≤ i ∧ (i : Int) < C.B by omega), decide_eq_true (show (0 : Int) ≤ k ∧ (k : Int) < C.P by omega)]
  rfl
 have i1 : (i : Int) < (x.nb : Int) := by rw [h.nb]; omega
 have k1 : (k : Int) < (b.ps.length : Int) := by omega
 have HC0 := J ((h.below (below_alloc _ (.cells #[.pointer (some ⟨p, 0, none⟩)] 29))).below (below_alloc _ (.cells #[.int .i64 (i : Int), .int .i64 (k : Int)] 41)))
 have HCB : Hid (((w.alloc (.cells #[.pointer (some ⟨p, 0, none⟩)] 29)).alloc (.cells #[.int .i64 (i : Int), .int .i64 (k : Int)] 41)).heap[w.heap.size]? = some (.cells #[.pointer (some ⟨p, 0, none⟩)] 29 (0, 0))) := (alloc_old _ _ (by simp)).trans (alloc_new w (.cells #[.pointer (some ⟨p, 0, none⟩)] 29))
 have HPL : Hid (((w.alloc (.cells #[.pointer (some ⟨p, 0, none⟩)] 29)).alloc (.cells #[.int .i64 (i : Int), .int .i64 (k : Int)] 41)).heap[w.heap.size + 1]? = some (.cells #[.int .i64 (i : Int), .int .i64 (k : Int)] 41 (0, 0))) := by have h2 := alloc_new (w.alloc (.cells #[.pointer (some ⟨p, 0, none⟩)] 29)) (.cells #[.int .i64 (i : Int), .int .i64 (k : Int)] 41); rw [alloc_size] at h2; exact h2
 obtain ⟨L, hLe⟩ : ∃ L, pgB C.S = L := ⟨_, rfl⟩
 have hLb : L ≤ 2126 := by rw [← hLe]; exact pgB_le hS.2
 have HL := J hLe
 clear hLe
 have hb0 : decide ((bit : Int) < 0) = false := decide_eq_false (by omega)
 have hbb0 := hbb
 have HBB := J hbb0
 clear hbb0
 rw [HL.out] at hbb
 have hw : IntKind.i64.wrap (8 * (L : Int)) = 8 * (L : Int) := by simp only [IntKind.wrap_i64]; omega
 have hb1 : decide (8 * (L : Int) ≤ (bit : Int)) = false := decide_eq_false (by omega)
 have HFW : Hid (∀ k, F k → k < w.heap.size) := h.fin
 have HFBd := J (hok.fl (i : Int) (k : Int))
 clear h
 go_enter Try.func56, Try.ntmps56
 go_wp2_with (first | (go_at_call 57; refine (hasPage_any x p C.B C.P (i : Int) (k : Int) _ HC0.out.box HC0.out.B HC0.out.P).mono ?_; rintro e u1 ⟨rfl, b1⟩; rw [hP]; have HC1 := J (HC0.out.below b1); have HCB1 := J ((b1.block _ (lt_of_block HCB.out)).trans HCB.out); have HPL1 := J ((b1.block _ (lt_of_block HPL.out)).trans HPL.out); have B1 := J (below_trans (below_trans (below_alloc w (.cells #[.pointer (some ⟨p, 0, none⟩)] 29)) (below_alloc _ (.cells #[.int .i64 (i : Int), .int .i64 (k : Int)] 41))) b1); have HS3 := J (f3_mk HC1.out hi hk HCB1.out HPL1.out); clear b1))
 rw [hqh] at HS3
 refine wp_region_held_drew (S := (fun u => u.cell? ⟨w.heap.size, 0, none⟩ = some (.pointer (some ⟨p, 0, none⟩)) ∧ u.cell? ⟨p, 0, none⟩ = some (.int .i64 (C.B : Int)) ∧ u.cell? ⟨p, 1, none⟩ = some (.int .i64 (C.P : Int)) ∧ u.cell? ⟨p, 2, none⟩ = some (.int .i64 (C.S : Int)) ∧ u.cell? ⟨p, 3, none⟩ = some (.slice (some ⟨x.gb, 0, none⟩) x.nb x.nb) ∧ u.cell? ⟨w.heap.size + 1, 0, none⟩ = some (.int .i64 (i : Int)) ∧ u.cell? ⟨w.heap.size + 1, 1, none⟩ = some (.int .i64 (k : Int)) ∧ u.cell? ⟨x.gb, i * 4 + 3, none⟩ = some (.slice (some ⟨b.g, 0, none⟩) b.ps.length b.ps.length) ∧ u.cell? ⟨b.g, k * 2 + 1, none⟩ = some (.bool true))) (by kernel_rfl) (f3_drew HS3.out) fun O => ?_
 refine tk 0 ?_
 refine tk 1 ?_
 refine tk 2 ?_
 refine tk 3 ?_
 refine tk 4 ?_
 refine tk 5 ?_
 refine tk 6 ?_
 refine tk 7 ?_
 refine rd 8 fun K N => ?_
 go_simp
 go_at_call 46
 refine (pageB_any _ _ C.S _ hS.1 hS.2).mono ?_
 rintro e u2 ⟨rfl, b2⟩
 rw [HL.out]
 have HB2 := J (below_trans (drew_below _) b2)
 have hZ := f3_keep HS3.out HB2.out
 clear b2
 go_wp2_with fail
 clear O
 refine N.out _ _ hZ fun O => ?_
 clear N K hZ
 try simp only [zz]
 refine tk 9 ?_
 refine tk 10 ?_
 refine tk 11 ?_
 refine tk 12 ?_
 refine tk 13 ?_
 refine tk 14 ?_
 refine tk 15 ?_
 refine tk 16 ?_
 refine tk 17 ?_
 refine tk 18 ?_
 refine tk 19 ?_
 refine tk 20 ?_
 refine tk 21 ?_
 refine tk 22 ?_
 refine tk 23 ?_
 refine tk 24 ?_
 refine tk 25 ?_
 refine tk 26 ?_
 refine tk 27 ?_
 refine tk 28 ?_
 refine td ?_
 clear O
 have HC2 := J (HC1.out.below HB2.out)
 have HCB2 := J ((HB2.out.block _ (lt_of_block HCB1.out)).trans HCB1.out)
 have HPL2 := J ((HB2.out.block _ (lt_of_block HPL1.out)).trans HPL1.out)
 obtain ⟨s0, s1, s2, s3, s4, s5, s6, s7, s8⟩ := f3_keep HS3.out HB2.out
 clear s7 s8
 go_wp2_with (first | (go_at_call 90; refine (unitOf_any (C.B : Int) (C.P : Int) C.S bit _ hS.1 hS.2 HBB.out).mono ?_; rintro e u3 ⟨rfl, b3⟩; have B3 := J b3; clear b3))
 clear s0 s1 s2 s3 s4 s5 s6
 have HB34 : Hid (Below u2.heap.size u2 (u3.alloc (.cells #[.int .i64 ((unitN C.S bit : Nat) : Int)] 3)).drew) := below_trans (below_trans B3.out (below_alloc _ _)) (drew_below _)
 have HU4 : Hid ((u3.alloc (.cells #[.int .i64 ((unitN C.S bit : Nat) : Int)] 3)).drew.heap[u3.heap.size]? = some (.cells #[.int .i64 ((unitN C.S bit : Nat) : Int)] 3 (0, 0))) := alloc_new u3 _
 obtain ⟨u4, hu4⟩ : ∃ u, u = u3.alloc (.cells #[.int .i64 ((unitN C.S bit : Nat) : Int)] 3) := ⟨_, rfl⟩
 rw [← hu4] at HB34 HU4 ⊢
 clear hu4
 have HC4 := J (HC2.out.below HB34.out)
 have HCB4 := J ((HB34.out.block _ (lt_of_block HCB2.out)).trans HCB2.out)
 have HPL4 := J ((HB34.out.block _ (lt_of_block HPL2.out)).trans HPL2.out)
 have HUB4 := J (ub_mk HC4.out HCB4.out HU4.out)
 obtain ⟨la, ln, lc, hlv, hlo, hlf⟩ := look_row HC4.out.fl (i : Int) (k : Int)
 rw [HC4.out.fs] at hlo
 have HLV := J hlv
 have HLO4 := J hlo
 have HLF := J hlf
 have hlen : ln ≤ 4000000000000 := by have h1 := hlo.1; simp at h1; omega
 have HLN : Hid (ln ≤ 9223372036854775807) := J (by omega)
 clear hlv hlo hlf
 refine wp_region_held_drew (S := (fun u => u.cell? ⟨w.heap.size, 0, none⟩ = some (.pointer (some ⟨p, 0, none⟩)) ∧ u.cell? ⟨p, 4, none⟩ = some (.map (some x.gm)) ∧ u.cell? ⟨w.heap.size + 1, 0, none⟩ = some (.int .i64 (i : Int)) ∧ u.cell? ⟨w.heap.size + 1, 1, none⟩ = some (.int .i64 (k : Int)) ∧ (Instr.lookup 97 (.map (some x.gm)) (.agg #[.int .i64 (i : Int), .int .i64 (k : Int)]) false).run Try.prog u = .ok (.slice la ln lc) u)) (by kernel_rfl) (f6_mk HC4.out HCB4.out HPL4.out HLV.out) fun O => ?_
 refine tk 0 ?_
 refine tk 1 ?_
 refine tk 2 ?_
 refine tk 3 ?_
 refine tk 4 ?_
 refine tk 5 ?_
 refine tk 6 ?_
 refine rd 7 fun K N => ?_
 go_simp
 go_at_call 91
 refine (containsF_any p w.heap.size u3.heap.size (unitN C.S bit) C _ HUB4.out hS la ln lc 0 (C.fl (i : Int) (k : Int)) HLO4.out HFBd.out HLN.out).mono ?_
 rintro e u5 ⟨rfl, b5⟩
 rw [hany]
 have HB5 := J b5
 have HC5 := J (HC4.out.below b5)
 have HCB5 := J ((b5.block _ (lt_of_block HCB4.out)).trans HCB4.out)
 have HPL5 := J ((b5.block _ (lt_of_block HPL4.out)).trans HPL4.out)
 have hZ := f6_mk HC5.out HCB5.out HPL5.out HLV.out
 clear b5
 go_wp2_with fail
 clear O
 refine N.out _ _ hZ fun O => ?_
 clear N K hZ
 try simp only [zz]
 refine td ?_
 clear O
 go_wp2
 have HW5 : Hid (Below w.heap.size w u5) := below_trans (below_trans (below_trans B1.out HB2.out) HB34.out) HB5.out
 have HS5 : Hid (w.heap.size ≤ u5.heap.size) := HW5.out.size
 have HC5d := J (HC5.out.below (drew_below _))
 have HCB5d : Hid (u5.drew.heap[w.heap.size]? = some (.cells #[.pointer (some ⟨p, 0, none⟩)] 29 (0, 0))) := HCB5.out
 have HPL5d : Hid (u5.drew.heap[w.heap.size + 1]? = some (.cells #[.int .i64 (i : Int), .int .i64 (k : Int)] 41 (0, 0))) := HPL5.out
 have HLO5 : Hid (u5.ownsRow 0 3 1 (.slice la ln lc) ln ((C.fl (i : Int) (k : Int)).map fun (i : Nat) => Value.int .i64 (i : Int))) := owns_keep HLO4.out (fun g hg => by
  obtain ⟨cs, hc⟩ := own_tag HLO4.out hg
  exact HB5.out.block g (lt_of_block hc))
 have HPG : Hid (p ≠ x.gm) := by
  obtain ⟨es, ck, hm, _⟩ := HC5.out.fl.map
  exact tag_ne HC5.out.box hm (t := 102) (u := 1001) rfl rfl (by decide)
 have HOP : Hid ((Value.slice la ln lc).ownBlock ≠ some p) := fun e => by
  obtain ⟨cs, hc⟩ := own_tag HLO5.out e
  exact tag_ne HC5.out.box hc (t := 102) (u := 3) rfl rfl (by decide) rfl
 obtain ⟨i0, hi0, hz0, hz1, hz2⟩ := info_parts info3
 have HI : Hid (Try.prog.info? 3 = some i0 ∧ i0.zero = some (.int .i64 0) ∧ i0.size = 1 ∧ i0.bytes = 8) := ⟨hi0, hz0, hz1, hz2⟩
 clear hi0 hz0 hz1 hz2
 refine wp_region_held_drew (S := (fun u => u.cell? ⟨w.heap.size, 0, none⟩ = some (.pointer (some ⟨p, 0, none⟩)) ∧ u.cell? ⟨p, 4, none⟩ = some (.map (some x.gm)) ∧ u.cell? ⟨w.heap.size + 1, 0, none⟩ = some (.int .i64 (i : Int)) ∧ u.cell? ⟨w.heap.size + 1, 1, none⟩ = some (.int .i64 (k : Int)))) (by kernel_rfl) (f8_mk HC5d.out HCB5d.out HPL5d.out) fun O => ?_
 refine tk 0 ?_
 refine tk 1 ?_
 refine tk 2 ?_
 refine tk 3 ?_
 refine tk 4 ?_
 refine tk 5 ?_
 refine rd 6 fun K N => ?_
 go_simp
 go_wp2_with fail
 have HS6 : Hid (Below u5.heap.size u5 (u5.alloc (.cells #[.int .i64 (bit : Int)] 3)).drew) := below_trans (below_alloc _ _) (drew_below _)
 have HC6 := J (HC5.out.below HS6.out)
 have HCB6 := J ((HS6.out.block _ (lt_of_block HCB5.out)).trans HCB5.out)
 have HPL6 := J ((HS6.out.block _ (lt_of_block HPL5.out)).trans HPL5.out)
 have HG6 : Hid ((u5.alloc (.cells #[.int .i64 (bit : Int)] 3)).drew.heap[u5.heap.size]? = some (.cells #[.int .i64 (bit : Int)] 3 (0, 0))) := alloc_new u5 (.cells #[.int .i64 (bit : Int)] 3)
 have hZ := f8_mk HC6.out HCB6.out HPL6.out
 clear O
 refine N.out _ _ hZ fun O => ?_
 clear N K hZ
 try simp only [zz]
 obtain ⟨u6, hu6⟩ : ∃ u, u = (u5.alloc (.cells #[.int .i64 (bit : Int)] 3)).drew := ⟨_, rfl⟩
 rw [← hu6] at O HC6 HCB6 HPL6 HG6 HS6 ⊢
 clear hu6
 obtain ⟨w1, fe1, es1, ck1, d1, e1, hrun1, ho1, hf1, hm1, hes1, hst1, hd1, hput1, hlook1, hmem1, hkey1⟩ := HC6.out.fl.ent (i : Int) (k : Int)
 rw [HLV.out] at hrun1
 have hrun1b : (Instr.mapEntry 97 (.map (some x.gm)) (.agg #[.int .i64 (i : Int), .int .i64 (k : Int)])).run Try.prog u6 = .ok (.tuple #[.slice la ln lc, .int .i64 ((e1.born : Nat) : Int)]) w1 := hrun1
 have HO1 := J ho1
 have HC7 := J (HC6.out.flips (fl' := C.fl) ho1 hf1 (fun b p => (hlook1 b p).trans (HC6.out.fs b p)))
 have hgm : x.gm < w.heap.size := HFW.out _ HC6.out.fl.fg
 have HCB7 := J ((ho1.block _ (lt_of_block HCB6.out) (fun e => by omega)).trans HCB6.out)
 have HPL7 := J ((ho1.block _ (lt_of_block HPL6.out) (fun e => by omega)).trans HPL6.out)
 have HG7 := J ((ho1.block _ (lt_of_block HG6.out) (fun e => by have h5 := HS5.out; have h6 : u5.drew.heap.size = u5.heap.size := rfl; omega)).trans HG6.out)
 have HE1 := J (And.intro hf1 (And.intro hm1 (And.intro hes1 (And.intro hst1 (And.intro hd1 (And.intro hput1 (And.intro hlook1 (And.intro hmem1 hkey1))))))))
 have HLO7 : Hid (w1.ownsRow 0 3 1 (.slice la ln lc) ln ((C.fl (i : Int) (k : Int)).map fun (i : Nat) => Value.int .i64 (i : Int))) := by
  obtain ⟨la', ln', lc', q1, q2, q3⟩ := look_row HC7.out.fl (i : Int) (k : Int)
  rw [HC7.out.fs] at q2
  exact owns_keep HLO5.out (fun g hg => by
   obtain ⟨cs, hc⟩ := own_tag HLO5.out hg
   exact (ho1.block g (Nat.lt_of_lt_of_le (lt_of_block hc) HS6.out.size) (fun e => by
    obtain ⟨es, ck, hm, _⟩ := HC5d.out.fl.map
    rw [e, show u5.heap[x.gm]? = _ from hm] at hc
    cases hc)).trans (HS6.out.block g (lt_of_block hc)))
 clear ho1 hf1 hm1 hes1 hst1 hd1 hput1 hlook1 hmem1 hkey1 hrun1
 refine rd 7 fun K N => ?_
 go_simp
 go_wp2_with fail
 have hZ := f8_mk HC7.out HCB7.out HPL7.out
 clear O
 refine N.out _ _ hZ fun O => ?_
 clear N K hZ
 try simp only [zz]
 clear hrun1b
 refine tk 8 ?_
 refine tk 10 ?_
 refine rd 9 fun K N => ?_
 refine wp_append_lies _ (.tmp 60) (.tmp 62) 48 rfl 0 3 i0 (.int .i64 0) 1 8 Try.underlying48 HI.out.1 HI.out.2.1 HI.out.2.2.1 HI.out.2.2.2 rfl (by decide) _ ln ((C.fl (i : Int) (k : Int)).map fun (i : Nat) => Value.int .i64 (i : Int)) rfl HLO7.out ⟨u5.heap.size, 0, none⟩ 1 1 [.int .i64 (bit : Int)] rfl rfl (news1 HG7.out) (by intro u hu; simp at hu; rw [hu]; rfl) (by decide) (by simp [maxLen]; omega) (by omega) (Nat.zero_le _) w1.heap.size rfl ?_
 intro gn cn Y own grow lies hgl
 obtain ⟨z, fe2, hrunz, hCz, hOz, hOYz⟩ := flip_fin (bit := bit) (w := w) HC6.out HFW.out (Nat.le_trans HS5.out HS6.out.size) HLV.out HO1.out HE1.out.1 HE1.out.2.1 HE1.out.2.2.1 HE1.out.2.2.2.1 HE1.out.2.2.2.2.1 HE1.out.2.2.2.2.2.1 HE1.out.2.2.2.2.2.2.1 HE1.out.2.2.2.2.2.2.2.1 HE1.out.2.2.2.2.2.2.2.2 own grow lies hgl
 have hrunzb : (Instr.entryStore 97 (.map (some x.gm)) (.int .i64 ((e1.born : Nat) : Int)) (.slice (some ⟨gn, 0, none⟩) (ln + 1) cn)).run Try.prog Y = .ok () z := hrunz
 have HCz := J hCz
 have HOz := J hOz
 have HF8 := J (f8_only (f8_mk HC7.out HCB7.out HPL7.out) (Only.ofG grow (F := fun j => (Value.slice la ln lc).ownBlock = some j) (fun j e => e)) (fun e => by have := HFW.out _ (HLF.out _ e); omega) HOP.out (fun e => by have := HFW.out _ (HLF.out _ e); omega))
 have hZ := HF8.out
 have HF9 := J (f8_only HF8.out hOYz (fun e => by omega) HPG.out (fun e => by omega))
 clear own grow lies hgl hrunz hCz hOz hOYz
 clear O
 refine N.out _ _ hZ fun O => ?_
 clear N K hZ
 try simp only [zz]
 refine rd 11 fun K N => ?_
 go_simp
 go_wp2_with fail
 have hZ := HF9.out
 clear O
 refine N.out _ _ hZ fun O => ?_
 clear N K hZ
 try simp only [zz]
 refine td ?_
 clear O
 go_wp2
 go_ret
 exact ⟨rfl, ⟨x, bs, fe2, HCz.out⟩, (Only.ofB HW5.out).trans (Only.trans (F := F) (Only.ofB HS6.out) HOz.out (fun _ _ h => h)) (fun _ _ h => h)⟩
def flHas (C : Ch) (pb pp : Int) (bit : Nat) : Bool := (C.fl pb pp).any (fun z => ((unitN C.S z : Nat) : Int) == ((unitN C.S bit : Nat) : Int))
def FlipC (C : Ch) (pb pp bit : Int) : Int × Ch :=
 if hasP C.B C.P pb pp = false then (41, C) else
  match C.bl[pb.toNat]? with
  | none => (41, C)
  | some b =>
   match b.ps[pp.toNat]? with
   | none => (41, C)
   | some q => if decide (bit < 0) || decide (8 * (pgB C.S : Int) ≤ bit) || !q.h || flHas C pb pp bit.toNat then (46, C) else (0, { C with fl := flS C.fl pb pp bit.toNat })
theorem Flip_any (w : World) (p : Nat) (F : Nat → Prop) (C : Ch) (h : ChipAt w p F C) (hok : C.Ok) (hln : ∀ b p, (C.fl b p).length ≤ 4000000000000) (pb pp bit : Int) (hbit : bit ≤ 9223372036854775807) :
  Calls Try.prog 56 #[.pointer (some ⟨p, 0, none⟩), .agg #[.int .i64 pb, .int .i64 pp], .int .i64 bit] w fun e w' => e = .returned (.int .i64 (FlipC C pb pp bit).1) ∧ ChipAt w' p (Fx F w w') (FlipC C pb pp bit).2 ∧ Only F w w' := by
 obtain ⟨x, bs, fe, hc⟩ := h
 have h : ChipAt w p F C := ⟨x, bs, fe, hc⟩
 unfold FlipC
 cases hp : hasP C.B C.P pb pp with
 | false =>
  refine (flip_a w p F C x bs fe hc pb pp bit hp).mono ?_
  rintro e w' ⟨rfl, hb⟩
  exact ⟨rfl, h.fx hb, Only.ofB hb⟩
 | true =>
  obtain ⟨i, k, rfl, rfl, hi, hk⟩ := hasP_nat hp
  have hbl : i < bs.length := by rw [hc.len, hok.bl]; exact hi
  have hib : bs[i]? = some bs[i] := List.getElem?_eq_getElem hbl
  obtain ⟨b, hb⟩ : ∃ b, bs[i] = b := ⟨_, rfl⟩
  rw [hb] at hib
  have hkl : k < b.ps.length := by rw [(hc.bok b (List.mem_of_getElem? hib)).np]; exact hk
  have hkq : b.ps[k]? = some b.ps[k] := List.getElem?_eq_getElem hkl
  obtain ⟨q, hq⟩ : ∃ q, b.ps[k] = q := ⟨_, rfl⟩
  rw [hq] at hkq
  have e1 : C.bl[i]? = some b.v := by rw [← hc.bl, List.getElem?_map, hib]; rfl
  have e2 : b.v.ps[k]? = some q.v := by show (b.ps.map Pc.v)[k]? = _; rw [List.getElem?_map, hkq]; rfl
  simp only [Int.toNat_natCast, e1, e2, Bool.true_eq_false, if_false]
  have fin46 : ∀ {e : Ending} {w' : World} {Z : Int × Ch}, (e = .returned (.int .i64 46) ∧ Below w.heap.size w w') → Z = (46, C) → e = .returned (.int .i64 Z.1) ∧ ChipAt w' p (Fx F w w') Z.2 ∧ Only F w w' := by
   rintro e w' Z ⟨rfl, hB⟩ rfl
   exact ⟨rfl, h.fx hB, Only.ofB hB⟩
  by_cases h0 : bit < 0
  ·exact (flip_n w p F C x bs fe hc hok i k b q hib hkq bit (decide_eq_true h0)).mono fun e w' hr => fin46 hr (by rw [decide_eq_true h0]; rfl)
  ·obtain ⟨n, rfl⟩ : ∃ n : Nat, bit = n := ⟨bit.toNat, by omega⟩
   rw [Int.toNat_natCast]
   rw [decide_eq_false h0]
   by_cases h1 : 8 * pgB C.S ≤ n
   ·exact (flip_g w p F C x bs fe hc hok i k b q hib hkq n h1 hbit).mono fun e w' hr => fin46 hr (by rw [decide_eq_true (show 8 * (pgB C.S : Int) ≤ (n : Int) by omega)]; rfl)
   ·rw [decide_eq_false (show ¬ 8 * (pgB C.S : Int) ≤ (n : Int) by omega)]
    have h1' : n < 8 * pgB C.S := by omega
    cases hq1 : q.h with
    | false => exact (flip_h w p F C x bs fe hc hok i k b q hib hkq n h1' hq1).mono fun e w' hr => fin46 hr (by rw [show q.v.h = false from hq1]; rfl)
    | true =>
     rw [show q.v.h = true from hq1]
     cases ha : flHas C (i : Int) (k : Int) n with
     | true => exact (flip_u w p F C x bs fe hc hok i k b q hib hkq n h1' hq1 (hln _ _) ha).mono fun e w' hr => fin46 hr rfl
     | false =>
      refine (flip_yes w p F C x bs fe hc hok i k b q hib hkq n h1' hq1 (hln _ _) ha).mono ?_
      rintro e w' ⟨rfl, h2, h3⟩
      exact ⟨rfl, h2, h3⟩
end Go.Proofs.Ytadlkikjfonkgaa
