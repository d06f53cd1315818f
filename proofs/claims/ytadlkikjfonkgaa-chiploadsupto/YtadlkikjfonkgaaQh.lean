/-
  SEAT Ytadlkikjfonkgaa: Cl, Cn.
-/
import Derived.Test.YtadlkikjfonkgaaQa
import Derived.Test.YtadlkikjfonkgaaQg
namespace Go.Proofs.Ytadlkikjfonkgaa
open Go.RowKit Go.Conc
set_option linter.unusedVariables false
set_option maxRecDepth 100000
set_option maxHeartbeats 4000000
variable {pg dc sc pl : Nat} {da sa : Option Addr} {C : Ch} {u u' : World} {pb pp : Int} {F : Nat → Prop}
def S3 (pg p : Nat) (da sa : Option Addr) (n1 dc n2 sc : Nat) (C : Ch) (u : World) : Prop :=
 u.cell? ⟨pg, 0, none⟩ = some (.slice da n1 dc) ∧ u.cell? ⟨pg, 1, none⟩ = some (.slice sa n2 sc) ∧ u.cell? ⟨p, 0, none⟩ = some (.int .i64 (C.B : Int)) ∧ u.cell? ⟨p, 1, none⟩ = some (.int .i64 (C.P : Int)) ∧ u.cell? ⟨p, 2, none⟩ = some (.int .i64 (C.S : Int))
theorem pg_keep {p : Nat} {n1 n2 : Nat} (h : S3 pg p da sa n1 dc n2 sc C u) (hb : Below u.heap.size u u') : S3 pg p da sa n1 dc n2 sc C u' := by
 obtain ⟨h0, h1, h2, h3, h4⟩ := h
 exact ⟨(hb.cell (block_lt_of_cell h0)).trans h0, (hb.cell (block_lt_of_cell h1)).trans h1, (hb.cell (block_lt_of_cell h2)).trans h2, (hb.cell (block_lt_of_cell h3)).trans h3, (hb.cell (block_lt_of_cell h4)).trans h4⟩
theorem pg_drew {p : Nat} {n1 n2 : Nat} (h : S3 pg p da sa n1 dc n2 sc C u) : S3 pg p da sa n1 dc n2 sc C u.drew := h
def S5 (pl : Nat) (pb pp : Int) (da sa : Option Addr) (n1 dc n2 sc : Nat) (u : World) : Prop :=
 u.cell? ⟨pl, 0, none⟩ = some (.int .i64 pb) ∧ u.cell? ⟨pl, 1, none⟩ = some (.int .i64 pp) ∧ u.cell? ⟨pl + 1, 0, none⟩ = some (.slice da n1 dc) ∧ u.cell? ⟨pl + 1, 1, none⟩ = some (.slice sa n2 sc)
theorem s5_drew {n1 n2 : Nat} (h : S5 pl pb pp da sa n1 dc n2 sc u) : S5 pl pb pp da sa n1 dc n2 sc u.drew := h
theorem s5_keep {n1 n2 : Nat} (h : S5 pl pb pp da sa n1 dc n2 sc u) (hb : Only F u u') (hF : ¬ F pl ∧ ¬ F (pl + 1)) : S5 pl pb pp da sa n1 dc n2 sc u' := by
 obtain ⟨h0, h1, h2, h3⟩ := h
 exact ⟨hb.cell h0 hF.1, hb.cell h1 hF.1, hb.cell h2 hF.2, hb.cell h3 hF.2⟩
theorem fx_not {v : World} {a : Nat} (h : ¬ F a ∧ ¬ F (a + 1)) (hl : a + 1 < u.heap.size) : ¬ Fx F u v a ∧ ¬ Fx F u v (a + 1) :=
 ⟨fun e => Or.elim e h.1 (fun k => absurd k.1 (by omega)), fun e => Or.elim e h.2 (fun k => absurd k.1 (by omega))⟩
theorem progC_tr (C : Ch) (pb pp : Int) (want : List Int) : (progC C pb pp want).2.tr = C.tr := by
 unfold progC
 split
 ·rfl
 ·split
  ·rfl
  ·split
   ·rfl
   ·split <;> rfl
theorem Program_dark (w : World) (p : Nat) (F : Nat → Prop) (C : Ch) (h : ChipAt w p F C) (hok : C.Ok) (pb pp : Int) (da sa : Option Addr) (n1 dc n2 sc : Nat) (hd : C.dark = true) : Calls Try.prog 53 #[.pointer (some ⟨p, 0, none⟩), .agg #[.int .i64 pb, .int .i64 pp], .agg #[.slice da n1 dc, .slice sa n2 sc]] w fun e w' => e = .returned (.int .i64 45) ∧ Below w.heap.size w w' := by
 obtain ⟨x, bs, fe, hc⟩ := h
 have hs := hok.s
 have g0 : (1 : Int) ≤ C.S := by omega
 have g1 : (C.S : Int) ≤ 8 := by omega
 have N := (hc.below (below_alloc _ (.cells #[.int .i64 pb, .int .i64 pp] 41))).below (below_alloc _ (.cells #[.slice da n1 dc, .slice sa n2 sc] 36))
 have c11 := N.box.c11
 rw [hc.dark, hd] at c11
 have HS3 : Hid (S3 (w.heap.size + 1) p da sa n1 dc n2 sc C ((w.alloc (.cells #[.int .i64 pb, .int .i64 pp] 41)).alloc (.cells #[.slice da n1 dc, .slice sa n2 sc] 36))) := by
  have e := alloc_new (w.alloc (.cells #[.int .i64 pb, .int .i64 pp] 41)) (.cells #[.slice da n1 dc, .slice sa n2 sc] 36)
  rw [alloc_size] at e
  obtain ⟨e0, e1⟩ := cells2 e
  have b0 := N.box.c0
  have b1 := N.box.c1
  have b2 := N.box.c2
  rw [N.B] at b0
  rw [N.P] at b1
  rw [N.S] at b2
  exact ⟨e0, e1, b0, b1, b2⟩
 clear HS3
 clear N hc
 go_enter Try.func53, Try.ntmps53
 go_wp2
 go_ret
 exact ⟨rfl, below_trans (below_alloc _ _) (below_alloc _ _)⟩
theorem Program_n1 (w : World) (p : Nat) (F : Nat → Prop) (C : Ch) (h : ChipAt w p F C) (hok : C.Ok) (pb pp : Int) (da sa : Option Addr) (n1 dc n2 sc : Nat) (hl1 : n1 ≤ 140737488355000) (hd : C.dark = false) (hn1 : ((n1 : Int) != 256 * (C.S : Int)) = true) : Calls Try.prog 53 #[.pointer (some ⟨p, 0, none⟩), .agg #[.int .i64 pb, .int .i64 pp], .agg #[.slice da n1 dc, .slice sa n2 sc]] w fun e w' => e = .returned (.int .i64 42) ∧ Below w.heap.size w w' := by
 obtain ⟨x, bs, fe, hc⟩ := h
 have hs := hok.s
 have g0 : (1 : Int) ≤ C.S := by omega
 have g1 : (C.S : Int) ≤ 8 := by omega
 have N := (hc.below (below_alloc _ (.cells #[.int .i64 pb, .int .i64 pp] 41))).below (below_alloc _ (.cells #[.slice da n1 dc, .slice sa n2 sc] 36))
 have c11 := N.box.c11
 rw [hc.dark, hd] at c11
 have HS3 : Hid (S3 (w.heap.size + 1) p da sa n1 dc n2 sc C ((w.alloc (.cells #[.int .i64 pb, .int .i64 pp] 41)).alloc (.cells #[.slice da n1 dc, .slice sa n2 sc] 36))) := by
  have e := alloc_new (w.alloc (.cells #[.int .i64 pb, .int .i64 pp] 41)) (.cells #[.slice da n1 dc, .slice sa n2 sc] 36)
  rw [alloc_size] at e
  obtain ⟨e0, e1⟩ := cells2 e
  have b0 := N.box.c0
  have b1 := N.box.c1
  have b2 := N.box.c2
  rw [N.B] at b0
  rw [N.P] at b1
  rw [N.S] at b2
  exact ⟨e0, e1, b0, b1, b2⟩
 clear N hc
 go_enter Try.func53, Try.ntmps53
 go_wp2
 refine wp_region_held_drew (S := (fun u => u.cell? ⟨w.heap.size + 1, 0, none⟩ = some (.slice da n1 dc) ∧ u.cell? ⟨w.heap.size + 1, 1, none⟩ = some (.slice sa n2 sc) ∧ u.cell? ⟨p, 0, none⟩ = some (.int .i64 (C.B : Int)) ∧ u.cell? ⟨p, 1, none⟩ = some (.int .i64 (C.P : Int)) ∧ u.cell? ⟨p, 2, none⟩ = some (.int .i64 (C.S : Int)))) (by kernel_rfl) (pg_drew HS3.out) fun O => ?_
 refine tk 0 ?_
 refine tk 1 ?_
 refine tk 2 ?_
 refine tk 3 ?_
 refine tk 4 ?_
 refine tk 5 ?_
 refine tk 6 ?_
 refine rd 7 fun K N => ?_
 go_simp
 go_at_call 82
 refine (data_any _ _ _ _ g0 g1).mono ?_
 rintro e u1 ⟨rfl, b1⟩
 have HB1 := J (below_trans (drew_below _) b1)
 have hZ := pg_keep HS3.out HB1.out
 clear b1
 go_wp2_with fail
 clear O
 refine N.out _ _ hZ fun O => ?_
 clear N K hZ
 try simp only [zz]
 refine tk 8 ?_
 refine tk 9 ?_
 refine tu 10 ?_
 refine tu 11 ?_
 refine tu 12 ?_
 refine tu 13 ?_
 refine tu 14 ?_
 refine tu 15 ?_
 refine tu 16 ?_
 refine tu 17 ?_
 refine tu 18 ?_
 refine tk 19 ?_
 refine td ?_
 clear O
 go_wp2
 go_ret
 exact ⟨rfl, below_trans (below_trans (below_alloc _ _) (below_alloc _ _)) HB1.out⟩
theorem Program_n2 (w : World) (p : Nat) (F : Nat → Prop) (C : Ch) (h : ChipAt w p F C) (hok : C.Ok) (pb pp : Int) (da sa : Option Addr) (n1 dc n2 sc : Nat) (hl1 : n1 ≤ 140737488355000) (hl2 : n2 ≤ 140737488355000) (hd : C.dark = false) (hn1 : ((n1 : Int) != 256 * (C.S : Int)) = false) (hn2 : ((n2 : Int) != 54 + 3 * (C.S : Int)) = true) : Calls Try.prog 53 #[.pointer (some ⟨p, 0, none⟩), .agg #[.int .i64 pb, .int .i64 pp], .agg #[.slice da n1 dc, .slice sa n2 sc]] w fun e w' => e = .returned (.int .i64 42) ∧ Below w.heap.size w w' := by
 obtain ⟨x, bs, fe, hc⟩ := h
 have hs := hok.s
 have g0 : (1 : Int) ≤ C.S := by omega
 have g1 : (C.S : Int) ≤ 8 := by omega
 have N := (hc.below (below_alloc _ (.cells #[.int .i64 pb, .int .i64 pp] 41))).below (below_alloc _ (.cells #[.slice da n1 dc, .slice sa n2 sc] 36))
 have c11 := N.box.c11
 rw [hc.dark, hd] at c11
 have HS3 : Hid (S3 (w.heap.size + 1) p da sa n1 dc n2 sc C ((w.alloc (.cells #[.int .i64 pb, .int .i64 pp] 41)).alloc (.cells #[.slice da n1 dc, .slice sa n2 sc] 36))) := by
  have e := alloc_new (w.alloc (.cells #[.int .i64 pb, .int .i64 pp] 41)) (.cells #[.slice da n1 dc, .slice sa n2 sc] 36)
  rw [alloc_size] at e
  obtain ⟨e0, e1⟩ := cells2 e
  have b0 := N.box.c0
  have b1 := N.box.c1
  have b2 := N.box.c2
  rw [N.B] at b0
  rw [N.P] at b1
  rw [N.S] at b2
  exact ⟨e0, e1, b0, b1, b2⟩
 clear N hc
 go_enter Try.func53, Try.ntmps53
 go_wp2
 refine wp_region_held_drew (S := (fun u => u.cell? ⟨w.heap.size + 1, 0, none⟩ = some (.slice da n1 dc) ∧ u.cell? ⟨w.heap.size + 1, 1, none⟩ = some (.slice sa n2 sc) ∧ u.cell? ⟨p, 0, none⟩ = some (.int .i64 (C.B : Int)) ∧ u.cell? ⟨p, 1, none⟩ = some (.int .i64 (C.P : Int)) ∧ u.cell? ⟨p, 2, none⟩ = some (.int .i64 (C.S : Int)))) (by kernel_rfl) (pg_drew HS3.out) fun O => ?_
 refine tk 0 ?_
 refine tk 1 ?_
 refine tk 2 ?_
 refine tk 3 ?_
 refine tk 4 ?_
 refine tk 5 ?_
 refine tk 6 ?_
 refine rd 7 fun K N => ?_
 go_simp
 go_at_call 82
 refine (data_any _ _ _ _ g0 g1).mono ?_
 rintro e u1 ⟨rfl, b1⟩
 have HB1 := J (below_trans (drew_below _) b1)
 have hZ := pg_keep HS3.out HB1.out
 clear b1
 go_wp2_with fail
 clear O
 refine N.out _ _ hZ fun O => ?_
 clear N K hZ
 try simp only [zz]
 refine tk 8 ?_
 refine tk 9 ?_
 refine tk 10 ?_
 refine tk 11 ?_
 refine tk 12 ?_
 refine tk 13 ?_
 refine tk 14 ?_
 refine tk 15 ?_
 refine tk 16 ?_
 refine rd 17 fun K N => ?_
 go_simp
 go_at_call 83
 refine (spareB_any _ _ _ _ g0 g1).mono ?_
 rintro e u2 ⟨rfl, b2⟩
 have HB2 := J (below_trans HB1.out b2)
 have hZ := pg_keep HS3.out HB2.out
 clear b2
 go_wp2_with fail
 clear O
 refine N.out _ _ hZ fun O => ?_
 clear N K hZ
 try simp only [zz]
 refine tk 18 ?_
 refine tk 19 ?_
 refine td ?_
 clear O
 go_wp2
 go_ret
 exact ⟨rfl, below_trans (below_trans (below_alloc _ _) (below_alloc _ _)) HB2.out⟩
theorem Program_ok (w : World) (p : Nat) (F : Nat → Prop) (C : Ch) (h : ChipAt w p F C) (hok : C.Ok) (pb pp : Int) (da sa : Option Addr) (n1 dc n2 sc : Nat) (hl1 : n1 ≤ 140737488355000) (hl2 : n2 ≤ 140737488355000) (htr : C.tr.length ≤ 3000000000000) (hd : C.dark = false) (hn1 : ((n1 : Int) != 256 * (C.S : Int)) = false) (hn2 : ((n2 : Int) != 54 + 3 * (C.S : Int)) = false)
  (zd zp : List Int) (hD : Reads w da n1 zd) (hZ : Reads w sa n2 zp) (hdF : ∀ y, da = some y → ¬ F y.block) (hzF : ∀ y, sa = some y → ¬ F y.block) :
  Calls Try.prog 53 #[.pointer (some ⟨p, 0, none⟩), .agg #[.int .i64 pb, .int .i64 pp], .agg #[.slice da n1 dc, .slice sa n2 sc]] w fun e w' => e = .returned (.int .i64 (noteC 1 pb pp (progC C pb pp (zd ++ zp))).1) ∧ ChipAt w' p (Fx F w w') (noteC 1 pb pp (progC C pb pp (zd ++ zp))).2 ∧ Only F w w' := by
 obtain ⟨x, bs, fe, hc⟩ := h
 have hs := hok.s
 have g0 : (1 : Int) ≤ C.S := by omega
 have g1 : (C.S : Int) ≤ 8 := by omega
 have N := (hc.below (below_alloc _ (.cells #[.int .i64 pb, .int .i64 pp] 41))).below (below_alloc _ (.cells #[.slice da n1 dc, .slice sa n2 sc] 36))
 have c11 := N.box.c11
 rw [hc.dark, hd] at c11
 have HS3 : Hid (S3 (w.heap.size + 1) p da sa n1 dc n2 sc C ((w.alloc (.cells #[.int .i64 pb, .int .i64 pp] 41)).alloc (.cells #[.slice da n1 dc, .slice sa n2 sc] 36))) := by
  have e := alloc_new (w.alloc (.cells #[.int .i64 pb, .int .i64 pp] 41)) (.cells #[.slice da n1 dc, .slice sa n2 sc] 36)
  rw [alloc_size] at e
  obtain ⟨e0, e1⟩ := cells2 e
  have b0 := N.box.c0
  have b1 := N.box.c1
  have b2 := N.box.c2
  rw [N.B] at b0
  rw [N.P] at b1
  rw [N.S] at b2
  exact ⟨e0, e1, b0, b1, b2⟩
 have HCH : Hid (ChipAt w p F C) := ⟨x, bs, fe, hc⟩
 have HFW : Hid (∀ k, F k → k < w.heap.size) := hc.fin
 have HFN : Hid (¬ F w.heap.size ∧ ¬ F (w.heap.size + 1)) := ⟨fun e => by have := HFW.out _ e; omega, fun e => by have := HFW.out _ e; omega⟩
 have HN : Hid (n1 = 256 * C.S ∧ n2 = 54 + 3 * C.S) := by
  have e1 : (n1 : Int) = 256 * C.S := by simpa using hn1
  have e2 : (n2 : Int) = 54 + 3 * C.S := by simpa using hn2
  constructor <;> omega
 have hcn := hok.cnt
 have HD := J hD
 have HZ := J hZ
 have HDF := J hdF
 have HZF := J hzF
 have HS5 : Hid (S5 w.heap.size pb pp da sa n1 dc n2 sc ((w.alloc (.cells #[.int .i64 pb, .int .i64 pp] 41)).alloc (.cells #[.slice da n1 dc, .slice sa n2 sc] 36))) := by
  obtain ⟨e0, e1⟩ := cells2 ((alloc_old (w.alloc (.cells #[.int .i64 pb, .int .i64 pp] 41)) (.cells #[.slice da n1 dc, .slice sa n2 sc] 36) (by simp)).trans (alloc_new w (.cells #[.int .i64 pb, .int .i64 pp] 41)))
  exact ⟨e0, e1, HS3.out.1, HS3.out.2.1⟩
 clear N hc hD hZ hdF hzF
 go_enter Try.func53, Try.ntmps53
 go_wp2
 refine wp_region_held_drew (S := (fun u => u.cell? ⟨w.heap.size + 1, 0, none⟩ = some (.slice da n1 dc) ∧ u.cell? ⟨w.heap.size + 1, 1, none⟩ = some (.slice sa n2 sc) ∧ u.cell? ⟨p, 0, none⟩ = some (.int .i64 (C.B : Int)) ∧ u.cell? ⟨p, 1, none⟩ = some (.int .i64 (C.P : Int)) ∧ u.cell? ⟨p, 2, none⟩ = some (.int .i64 (C.S : Int)))) (by kernel_rfl) (pg_drew HS3.out) fun O => ?_
 refine tk 0 ?_
 refine tk 1 ?_
 refine tk 2 ?_
 refine tk 3 ?_
 refine tk 4 ?_
 refine tk 5 ?_
 refine tk 6 ?_
 refine rd 7 fun K N => ?_
 go_simp
 go_at_call 82
 refine (data_any _ _ _ _ g0 g1).mono ?_
 rintro e u1 ⟨rfl, b1⟩
 have HB1 := J (below_trans (drew_below _) b1)
 have hZ := pg_keep HS3.out HB1.out
 clear b1
 go_wp2_with fail
 clear O
 refine N.out _ _ hZ fun O => ?_
 clear N K hZ
 try simp only [zz]
 refine tk 8 ?_
 refine tk 9 ?_
 refine tk 10 ?_
 refine tk 11 ?_
 refine tk 12 ?_
 refine tk 13 ?_
 refine tk 14 ?_
 refine tk 15 ?_
 refine tk 16 ?_
 refine rd 17 fun K N => ?_
 go_simp
 go_at_call 83
 refine (spareB_any _ _ _ _ g0 g1).mono ?_
 rintro e u2 ⟨rfl, b2⟩
 have HB2 := J (below_trans HB1.out b2)
 have hZ := pg_keep HS3.out HB2.out
 clear b2
 go_wp2_with fail
 clear O
 refine N.out _ _ hZ fun O => ?_
 clear N K hZ
 try simp only [zz]
 refine tk 18 ?_
 refine tk 19 ?_
 refine td ?_
 clear O
 have HB2d : Hid (Below w.heap.size w u2.drew) := below_trans (below_trans (below_trans (below_alloc _ _) (below_alloc _ _)) HB2.out) (drew_below _)
 have HS5d := J (s5_keep (F := fun _ => False) HS5.out (Only.ofB HB2.out) ⟨fun h => h, fun h => h⟩)
 go_wp2
 refine wp_region_held_drew (S := (fun u => u.cell? ⟨w.heap.size, 0, none⟩ = some (.int .i64 pb) ∧ u.cell? ⟨w.heap.size, 1, none⟩ = some (.int .i64 pp) ∧ u.cell? ⟨w.heap.size + 1, 0, none⟩ = some (.slice da n1 dc) ∧ u.cell? ⟨w.heap.size + 1, 1, none⟩ = some (.slice sa n2 sc))) (by kernel_rfl) (s5_drew HS5d.out) fun O => ?_
 refine tk 0 ?_
 refine tk 1 ?_
 refine tk 2 ?_
 refine tk 3 ?_
 refine tk 4 ?_
 refine rd 5 fun K N => ?_
 go_simp
 go_at_call 89
 refine (program_any _ p F C (HCH.out.below HB2d.out) hok (by omega) pb pp da sa n1 dc n2 sc zd zp HN.out.1 HN.out.2 (HD.out.below HB2d.out) (HZ.out.below HB2d.out) HDF.out HZF.out).mono ?_
 rintro e u3 ⟨rfl, k1, k2⟩
 have HC3 := J k1
 have HO3 := J (Only.trans (Only.ofB HB2d.out) k2 (fun _ _ h => h))
 have HO3d := J k2
 have hZ := s5_keep (s5_drew HS5d.out) HO3d.out HFN.out
 clear k1 k2
 go_wp2_with fail
 clear O
 refine N.out _ _ hZ fun O => ?_
 clear N K hZ
 try simp only [zz]
 refine rd 6 fun K N => ?_
 go_simp
 go_at_call 86
 obtain ⟨x3, bs3, fe3, hc3⟩ := HC3.out
 refine (note_any _ p _ _ x3 bs3 fe3 hc3 (by rw [progC_tr]; omega) 1 pb pp _).mono ?_
 rintro e u4 ⟨rfl, k1, k2⟩
 have HC4 := J k1
 have HO4 := J k2
 have HFX : Hid (¬ Fx F u2.drew u3 w.heap.size ∧ ¬ Fx F u2.drew u3 (w.heap.size + 1)) := fx_not HFN.out (block_lt_of_cell HS5d.out.2.2.1)
 have hZ := s5_keep (s5_keep (s5_drew HS5d.out) HO3d.out HFN.out) HO4.out HFX.out
 clear k1 k2 hc3
 go_wp2_with fail
 clear O
 refine N.out _ _ hZ fun O => ?_
 clear N K hZ
 try simp only [zz]
 refine tk 7 ?_
 refine td ?_
 clear O
 go_wp2
 go_ret
 refine ⟨rfl, ?_, ?_⟩
 ·exact HC4.out.grow (Below.refl _ _) (fun k hk => by
   rcases hk with (h1 | h1) | h1
   ·exact Or.inl h1
   ·exact Or.inr ⟨Nat.le_trans HB2d.out.size h1.1, Nat.lt_of_lt_of_le h1.2 HO4.out.size⟩
   ·exact Or.inr ⟨Nat.le_trans HO3.out.size h1.1, h1.2⟩) (fun k hk => Or.elim hk (fun h1 => Nat.lt_of_lt_of_le (HFW.out k h1) (Nat.le_trans HO3.out.size HO4.out.size)) (fun h1 => h1.2))
 ·exact HO3.out.trans HO4.out (fun j hj e => by
   rcases e with e | e
   ·exact e
   ·exact absurd (Nat.le_trans HB2d.out.size e.1) (by omega))
theorem Program_any (w : World) (p : Nat) (F : Nat → Prop) (C : Ch) (h : ChipAt w p F C) (hok : C.Ok) (pb pp : Int) (da sa : Option Addr) (n1 dc n2 sc : Nat) (hl1 : n1 ≤ 140737488355000) (hl2 : n2 ≤ 140737488355000) (htr : C.tr.length ≤ 3000000000000) (zd zp : List Int) (hD : Reads w da n1 zd) (hZ : Reads w sa n2 zp) (hdF : ∀ y, da = some y → ¬ F y.block) (hzF : ∀ y, sa = some y → ¬ F y.block) :
  Calls Try.prog 53 #[.pointer (some ⟨p, 0, none⟩), .agg #[.int .i64 pb, .int .i64 pp], .agg #[.slice da n1 dc, .slice sa n2 sc]] w fun e w' => e = .returned (.int .i64 (ProgramC C pb pp n1 n2 (zd ++ zp)).1) ∧ ChipAt w' p (Fx F w w') (ProgramC C pb pp n1 n2 (zd ++ zp)).2 ∧ Only F w w' := by
 unfold ProgramC
 cases hd : C.dark with
 | true =>
  refine (Program_dark w p F C h hok pb pp da sa n1 dc n2 sc hd).mono ?_
  rintro e w' ⟨rfl, hb⟩
  exact ⟨rfl, h.fx hb, Only.ofB hb⟩
 | false =>
  simp only [Bool.false_eq_true, if_false]
  by_cases e1 : n1 = 256 * C.S
  ·have d1 : ((n1 : Int) != 256 * (C.S : Int)) = false := by have : (n1 : Int) = 256 * C.S := by omega
                                                             simpa using this
   by_cases e2 : n2 = 54 + 3 * C.S
   ·have d2 : ((n2 : Int) != 54 + 3 * (C.S : Int)) = false := by have : (n2 : Int) = 54 + 3 * C.S := by omega
                                                                 simpa using this
    rw [if_neg (by omega)]
    exact Program_ok w p F C h hok pb pp da sa n1 dc n2 sc hl1 hl2 htr hd d1 d2 zd zp hD hZ hdF hzF
   ·have d2 : ((n2 : Int) != 54 + 3 * (C.S : Int)) = true := by have : ¬ (n2 : Int) = 54 + 3 * C.S := by omega
                                                                simpa using this
    rw [if_pos (Or.inr e2)]
    refine (Program_n2 w p F C h hok pb pp da sa n1 dc n2 sc hl1 hl2 hd d1 d2).mono ?_
    rintro e w' ⟨rfl, hb⟩
    exact ⟨rfl, h.fx hb, Only.ofB hb⟩
  ·have d1 : ((n1 : Int) != 256 * (C.S : Int)) = true := by have : ¬ (n1 : Int) = 256 * C.S := by omega
                                                            simpa using this
   rw [if_pos (Or.inl e1)]
   refine (Program_n1 w p F C h hok pb pp da sa n1 dc n2 sc hl1 hd d1).mono ?_
   rintro e w' ⟨rfl, hb⟩
   exact ⟨rfl, h.fx hb, Only.ofB hb⟩
theorem one_reads (u : World) : Reads (u.alloc (.cells #[.int .u8 0] 5)) (some ⟨u.heap.size, 0, none⟩) 1 [0] := by
 refine ⟨rfl, by simp, by simp, fun x hx i hi => ?_⟩
 cases hx
 have : i = 0 := by omega
 subst this
 simp [Addr.add]
def markB (m : List Int) (f : Int) : Bool := bits .and .u8 (bits .or .u8 0 (mk m f 0)) 1 == 1
def markC (C : Ch) (pb : Int) : Int × Ch :=
 if hasB C.B pb = false then (41, C) else
  match C.bl[pb.toNat]? with
  | none => (41, C)
  | some b => (endE (takeF C.cnt C.q).k, { C with q := takeR C.cnt C.q, cnt := C.cnt + 1, dark := C.dark || (takeF C.cnt C.q).k == 2, bl := C.bl.set pb.toNat { b with m := b.m || markB (takeF C.cnt C.q).m (takeF C.cnt C.q).f } })
theorem mark_a (w : World) (p : Nat) (F : Nat → Prop) (C : Ch) (x : Bx) (bs : List Bc) (fe : List Fe) (h : CAt w p F C x bs fe) (pb : Int) (hP : hasB C.B pb = false) :
  Calls Try.prog 88 #[.pointer (some ⟨p, 0, none⟩), .int .i64 pb] w fun e w' => e = .returned (.int .i64 41) ∧ Below w.heap.size w w' := by
 have HC := J h
 clear h
 go_enter Try.func88, Try.ntmps88
 go_wp2_with (first | (go_at_call 85; refine (hasBlock_any HC.out.box pb C.B HC.out.B).mono ?_; rintro e u1 ⟨rfl, h1⟩; rw [h1, hP]; clear h1))
 go_ret
 exact ⟨rfl, Below.refl _ _⟩
theorem mark_ok (w : World) (p : Nat) (F : Nat → Prop) (C : Ch) (x : Bx) (bs : List Bc) (fe : List Fe) (h : CAt w p F C x bs fe) (i : Nat) (b : Bc) (hi : bs[i]? = some b) (hBl : C.bl.length = C.B) (hcn : C.cnt ≤ 4000000000000) (mb : Bool) (hmb : markB (takeF C.cnt C.q).m (takeF C.cnt C.q).f = mb) :
  Calls Try.prog 88 #[.pointer (some ⟨p, 0, none⟩), .int .i64 (i : Int)] w fun e w' => e = .returned (.int .i64 (endE (takeF C.cnt C.q).k)) ∧ ChipAt w' p (Fx F w w') { C with q := takeR C.cnt C.q, cnt := C.cnt + 1, dark := C.dark || (takeF C.cnt C.q).k == 2, bl := C.bl.set i { b.v with m := b.v.m || mb } } ∧ Only F w w' := by
 have hil : i < bs.length := (List.getElem?_eq_some_iff.1 hi).1
 have hP : hasB C.B (i : Int) = true := by
  have e1 : bs.length = C.B := by have h1 := h.len; rw [hBl] at h1; exact h1
  exact decide_eq_true (by omega)
 have i1 : (i : Int) < (x.nb : Int) := by rw [h.nb]; omega
 have HFW : Hid (∀ k, F k → k < w.heap.size) := h.fin
 have HC := J h
 have HMB := J hmb
 clear h hmb
 go_enter Try.func88, Try.ntmps88
 go_upto_region 4 with (first | (go_at_call 85; refine (hasBlock_any HC.out.box (i : Int) C.B HC.out.B).mono ?_; rintro e u1 ⟨rfl, h1⟩; rw [h1, hP]; clear h1) | (go_at_call 103; refine (take_any _ p F C x bs fe HC.out hcn).mono ?_; rintro e u2 ⟨v, x2, rfl, vk, k1, k2, k3⟩; obtain ⟨ma, ml, mc, hve, mok, mle⟩ := vk.ex; have hvf := vk.fill; obtain ⟨fa, hfa⟩ : ∃ z, (takeF (C.cnt : Int) C.q).a = z := ⟨_, rfl⟩; obtain ⟨fk, hfk⟩ : ∃ z, (takeF (C.cnt : Int) C.q).k = z := ⟨_, rfl⟩; obtain ⟨ff, hff⟩ : ∃ z, (takeF (C.cnt : Int) C.q).f = z := ⟨_, rfl⟩; obtain ⟨fm, hfm⟩ : ∃ z, (takeF (C.cnt : Int) C.q).m = z := ⟨_, rfl⟩; rw [hfa, hfk, hff] at hve; rw [hfm] at mok; rw [hff] at hvf; subst hve; have HC2 := J k1; have O2 := J k3; have HG2 := J k2; have HM2 := J mok; have HE := J (And.intro hfa (And.intro hfk (And.intro hff hfm))); have HFF := J hvf; clear vk mok mle hvf k1 k2 k3 hfa hfk hff hfm))
 have HMB2 : Hid (markB fm ff = mb) := by obtain ⟨_, _, e3, e4⟩ := HE.out; have h9 := HMB.out; rw [e3, e4] at h9; exact h9
 have HW2 := J O2.out.size
 obtain ⟨u3, hu3⟩ : ∃ u, u = u2.alloc (.cells #[.int .i64 fa, .int .i64 fk, .slice ma ml mc, .int .u8 ff] 58) := ⟨_, rfl⟩
 have HB3 : Hid (Below u2.heap.size u2 u3) := by rw [hu3]; exact below_alloc _ _
 have HV3 : Hid (u3.heap[u2.heap.size]? = some (.cells #[.int .i64 fa, .int .i64 fk, .slice ma ml mc, .int .u8 ff] 58 (0, 0))) := by rw [hu3]; exact alloc_new _ _
 rw [← hu3]
 clear hu3
 obtain ⟨fb, hfb⟩ : ∃ g, g = u2.heap.size := ⟨_, rfl⟩
 rw [← hfb] at HV3 HW2 HB3 ⊢
 have HFB2 := J hfb
 clear hfb
 have HC3 := J (HC2.out.below (by rw [← HFB2.out]; exact HB3.out))
 have HM3 := J (HM2.out.keep (KeepT.of (fun k hk => HB3.out.block k (by rw [HFB2.out]; exact HC2.out.fin k hk)) (fun _ => False)) (fun h => h) (fun _ h => h))
 have HV4 := J ((alloc_old u3 (.cells #[.int .u8 0] 5) (lt_of_block HV3.out)).trans HV3.out)
 obtain ⟨q0, q1, q2, q3⟩ := cells4 HV4.out
 have HZ := J (one_reads u3)
 have HOW3 : Hid (Only (fun k => k = p ∨ k = x.c) w u3) := O2.out.trans (Only.ofB (F := fun _ => False) (by rw [← HFB2.out]; exact HB3.out)) (fun _ _ h => h.elim)
 go_upto_if 21 with (first | (go_at_call 106; refine (rise_any (some ⟨u3.heap.size, 0, none⟩) 1 1 [0] ma ml mc fm ff _ (by omega) HM3.out.le HZ.out (HM3.out.rd.below (below_alloc _ _))).mono ?_; rintro e u4 ⟨gr, cr, rfl, o4, b4⟩; have z0 := o4.cell 0 (by omega); rw [show (riseL [0] fm ff 1).getD 0 0 = bits .or .u8 0 (mk fm ff 0) from rfl] at z0; have HB4 := J (below_trans (below_alloc u3 (.cells #[.int .u8 0] 5)) b4); have HV5 := J ((b4.block _ (lt_of_block HV4.out)).trans HV4.out); clear b4 o4 q0 q1 q2 q3))
 have HC5 := J (HC3.out.below HB4.out)
 obtain ⟨q0, q1, q2, q3⟩ := cells4 HV5.out
 have c3 := HC5.out.box.c3
 obtain ⟨m0, m1, m2, m3⟩ := HC5.out.blk hi
 have fzb := frozen_of_row u4 x2.gb (i * 4) _ 106 HC5.out.row
 have i2 : (i : Int) < (x2.nb : Int) := by rw [HC5.out.nb]; omega
 have hcond : (bits .and .u8 (bits .or .u8 0 (mk fm ff 0)) 1 == 1) = mb := HMB2.out
 have HOW4 : Hid (Only F w u4) := (HOW3.out.mono (fun j _ e => by rcases e with e | e <;> rw [e]; exact HC.out.fp; exact HC.out.q.fc)).trans (Only.ofB (F := fun _ => False) HB4.out) (fun _ _ h => h.elim)
 have hfb : w.heap.size ≤ fb := HW2.out
 cases mb with
 | false =>
  clear m0 m1 m2 m3 fzb
  go_wp2_with (first | (go_at_call 105; refine (end_c _ p _ _ _ _ fe HC5.out fa fk ma ml mc ff).mono ?_; rintro e v9 ⟨rfl, ⟨x9, k9⟩, o9⟩; have HK9 := J k9; have HO9 := J o9; clear k9 o9))
  go_ret
  have hOW9 : Only F w v9 := HOW4.out.trans HO9.out (fun j _ e => by rw [e]; exact HC.out.fp)
  obtain ⟨ea, ek, ef, em⟩ := HE.out
  rw [ek]
  have h10 := HK9.out.keep (w' := v9) (G := Fx F w v9) (fun _ _ => rfl) (fun j hj => Or.inl hj) (fun j hj => Or.elim hj (fun h1 => Nat.lt_of_lt_of_le (HFW.out j h1) hOW9.size) (fun h1 => h1.2))
  have e5 : C.bl.set i { b.v with m := b.v.m || false } = C.bl := by
   rw [Bool.or_false]
   have e6 : C.bl[i]? = some b.v := by rw [← HC.out.bl, List.getElem?_map, hi]; rfl
   obtain ⟨hlt, e7⟩ := List.getElem?_eq_some_iff.1 e6
   have e8 : ({ b.v with m := b.v.m } : Bl) = b.v := rfl
   rw [e8, ← e7]
   exact List.set_getElem_self hlt
  rw [e5]
  exact ⟨rfl, ⟨x9, _, fe, h10⟩, hOW9⟩
 | true =>
  go_upto_region 6 with fail
  have HC6 := J (HC5.out.setB hi 0 (by omega) (.bool true) { b with m := true } rfl rfl rfl)
  have HO6 := J (Only.setCell (· = x2.gb) u4 x2.gb (i * 4) (.bool true) rfl)
  rw [Nat.add_zero] at HC6
  generalize hu6 : World.setCell u4 ⟨x2.gb, i * 4, none⟩ _ = u6 at HC6 HO6 ⊢
  clear hu6 m0 m1 m2 m3 fzb
  have hgb : x2.gb < w.heap.size := by rw [HG2.out]; exact HFW.out _ HC.out.fb
  have w0 := HO6.out.cell q0 (by omega)
  have w1 := HO6.out.cell q1 (by omega)
  have w2 := HO6.out.cell q2 (by omega)
  have w3 := HO6.out.cell q3 (by omega)
  clear q0 q1 q2 q3
  go_wp2_with (first | (go_at_call 105; refine (end_c _ p _ _ _ _ fe HC6.out fa fk ma ml mc ff).mono ?_; rintro e v9 ⟨rfl, ⟨x9, k9⟩, o9⟩; have HK9 := J k9; have HO9 := J o9; clear k9 o9))
  go_ret
  have hOW9 : Only F w v9 := (HOW4.out.trans HO6.out (fun j _ e => by rw [e, HG2.out]; exact HC.out.fb)).trans HO9.out (fun j _ e => by rw [e]; exact HC.out.fp)
  obtain ⟨ea, ek, ef, em⟩ := HE.out
  rw [ek]
  have h10 := HK9.out.keep (w' := v9) (G := Fx F w v9) (fun _ _ => rfl) (fun j hj => Or.inl hj) (fun j hj => Or.elim hj (fun h1 => Nat.lt_of_lt_of_le (HFW.out j h1) hOW9.size) (fun h1 => h1.2))
  rw [Bool.or_true]
  exact ⟨rfl, ⟨x9, _, fe, h10⟩, hOW9⟩
theorem mark_any (w : World) (p : Nat) (F : Nat → Prop) (C : Ch) (h : ChipAt w p F C) (hok : C.Ok) (hcn : C.cnt ≤ 4000000000000) (pb : Int) :
  Calls Try.prog 88 #[.pointer (some ⟨p, 0, none⟩), .int .i64 pb] w fun e w' => e = .returned (.int .i64 (markC C pb).1) ∧ ChipAt w' p (Fx F w w') (markC C pb).2 ∧ Only F w w' := by
 obtain ⟨x, bs, fe, hc⟩ := h
 have h : ChipAt w p F C := ⟨x, bs, fe, hc⟩
 unfold markC
 cases hp : hasB C.B pb with
 | false =>
  refine (mark_a w p F C x bs fe hc pb hp).mono ?_
  rintro e w' ⟨rfl, hb⟩
  exact ⟨rfl, h.fx hb, Only.ofB hb⟩
 | true =>
  obtain ⟨i, rfl, hi⟩ : ∃ i : Nat, pb = i ∧ i < C.B := ⟨pb.toNat, by have := of_decide_eq_true hp; omega, by have := of_decide_eq_true hp; omega⟩
  have hbl : i < bs.length := by rw [hc.len, hok.bl]; exact hi
  have hib : bs[i]? = some bs[i] := List.getElem?_eq_getElem hbl
  obtain ⟨b, hb⟩ : ∃ b, bs[i] = b := ⟨_, rfl⟩
  rw [hb] at hib
  have e1 : C.bl[i]? = some b.v := by rw [← hc.bl, List.getElem?_map, hib]; rfl
  simp only [Int.toNat_natCast, e1, Bool.true_eq_false, if_false]
  exact mark_ok w p F C x bs fe hc i b hib hok.bl hcn _ rfl
def MarkC (C : Ch) (pb : Int) : Int × Ch := if C.dark then (45, C) else noteC 3 pb 0 (markC C pb)
theorem markC_tr (C : Ch) (pb : Int) : (markC C pb).2.tr = C.tr := by
 unfold markC
 split
 ·rfl
 ·split <;> rfl
theorem noted {w v : World} {p : Nat} (hF : ∀ k, F k → k < w.heap.size) (h1 : Only F w u) (h2 : Only (Fx F w u) u v) (hc : ChipAt v p (Fx (Fx F w u) u v) C) : ChipAt v p (Fx F w v) C ∧ Only F w v :=
 ⟨hc.grow (Below.refl _ _) (fun k hk => by
   rcases hk with (e | e) | e
   ·exact Or.inl e
   ·exact Or.inr ⟨e.1, Nat.lt_of_lt_of_le e.2 h2.size⟩
   ·exact Or.inr ⟨Nat.le_trans h1.size e.1, e.2⟩) (fun k hk => Or.elim hk (fun e => Nat.lt_of_lt_of_le (hF k e) (Nat.le_trans h1.size h2.size)) (fun e => e.2)),
  h1.trans h2 (fun j hj e => Or.elim e (fun e => e) (fun e => absurd e.1 (by omega)))⟩
theorem Mark_any (w : World) (p : Nat) (F : Nat → Prop) (C : Ch) (h : ChipAt w p F C) (hok : C.Ok) (htr : C.tr.length ≤ 3000000000000) (pb : Int) :
  Calls Try.prog 52 #[.pointer (some ⟨p, 0, none⟩), .int .i64 pb] w fun e w' => e = .returned (.int .i64 (MarkC C pb).1) ∧ ChipAt w' p (Fx F w w') (MarkC C pb).2 ∧ Only F w w' := by
 obtain ⟨x, bs, fe, hc⟩ := h
 have h : ChipAt w p F C := ⟨x, bs, fe, hc⟩
 have c11 := hc.box.c11
 rw [hc.dark] at c11
 have hcn := hok.cnt
 unfold MarkC
 cases hd : C.dark with
 | true =>
  rw [hd] at c11
  have HH := J h
  clear h hc
  go_enter Try.func52, Try.ntmps52
  go_wp2
  go_ret
  exact ⟨rfl, ChipAt.fx HH.out (Below.refl _ _), Only.refl _ _⟩
 | false =>
  rw [hd] at c11
  simp only [Bool.false_eq_true, if_false]
  have HFW := J hc.fin
  have HH := J h
  clear h hc
  go_enter Try.func52, Try.ntmps52
  go_wp2_with (first
   | (go_at_call 88; refine (mark_any _ p F C HH.out hok (by omega) pb).mono ?_; rintro e u1 ⟨rfl, k1, k2⟩; have HC1 := J k1; have HO1 := J k2; clear k1 k2 c11)
   | (go_at_call 86; obtain ⟨x3, bs3, fe3, hc3⟩ := HC1.out; refine (note_any _ p _ _ x3 bs3 fe3 hc3 (by rw [markC_tr]; omega) 3 pb 0 _).mono ?_; rintro e u2 ⟨rfl, k1, k2⟩; have HC2 := J k1; have HO2 := J k2; clear k1 k2 hc3))
  go_ret
  exact ⟨rfl, noted HFW.out HO1.out HO2.out HC2.out⟩
end Go.Proofs.Ytadlkikjfonkgaa
