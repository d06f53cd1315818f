/-
  SEAT Ytadlkikjfonkgaa: Ci, Cj.
-/
import Derived.Test.YtadlkikjfonkgaaQa
import Derived.Test.YtadlkikjfonkgaaQf
import Derived.Deep.DeepCutAuto
import Derived.Deep.CutRange
namespace Go.Proofs.Ytadlkikjfonkgaa
open Go.RowKit Go.Conc
set_option linter.unusedVariables false
set_option maxRecDepth 100000
set_option maxHeartbeats 4000000
variable {u u' w w' : World} {pl dc sc ml mc : Nat} {i k ff : Int} {da sa ma : Option Addr} {F : Nat → Prop} {x : Bx} {bs : List Bc} {fe : List Fe}
theorem jn_cells (u : World) (c0 c1 : Value) : (u.alloc (.cells #[c0, c1] 24)).cell? ⟨u.heap.size, 0, none⟩ = some c0 ∧ (u.alloc (.cells #[c0, c1] 24)).cell? ⟨u.heap.size, 1, none⟩ = some c1 := cells2 (alloc_new u _)
theorem jn_keep {g : Nat} {c0 c1 : Value} (h : u.cell? ⟨g, 0, none⟩ = some c0 ∧ u.cell? ⟨g, 1, none⟩ = some c1) (hb : Below u.heap.size u u') : u'.cell? ⟨g, 0, none⟩ = some c0 ∧ u'.cell? ⟨g, 1, none⟩ = some c1 :=
 ⟨(hb.cell (block_lt_of_cell h.1)).trans h.1, (hb.cell (block_lt_of_cell h.2)).trans h.2⟩
def S8 (pl fb : Nat) (i k : Int) (da sa ma : Option Addr) (n1 dc n2 sc ml mc : Nat) (ff : Int) (u : World) : Prop :=
 u.cell? ⟨pl, 0, none⟩ = some (.int .i64 i) ∧ u.cell? ⟨pl, 1, none⟩ = some (.int .i64 k) ∧ u.cell? ⟨pl + 1, 0, none⟩ = some (.slice da n1 dc) ∧ u.cell? ⟨pl + 1, 1, none⟩ = some (.slice sa n2 sc) ∧ u.cell? ⟨fb, 2, none⟩ = some (.slice ma ml mc) ∧ u.cell? ⟨fb, 3, none⟩ = some (.int .u8 ff)
theorem s8_keep {fb : Nat} {n1 n2 : Nat} (h : S8 pl fb i k da sa ma n1 dc n2 sc ml mc ff u) (hb : Below u.heap.size u u') : S8 pl fb i k da sa ma n1 dc n2 sc ml mc ff u' := by
 obtain ⟨h0, h1, h2, h3, h4, h5⟩ := h
 exact ⟨(hb.cell (block_lt_of_cell h0)).trans h0, (hb.cell (block_lt_of_cell h1)).trans h1, (hb.cell (block_lt_of_cell h2)).trans h2, (hb.cell (block_lt_of_cell h3)).trans h3, (hb.cell (block_lt_of_cell h4)).trans h4, (hb.cell (block_lt_of_cell h5)).trans h5⟩
theorem s8_drew {fb : Nat} {n1 n2 : Nat} (h : S8 pl fb i k da sa ma n1 dc n2 sc ml mc ff u) : S8 pl fb i k da sa ma n1 dc n2 sc ml mc ff u.drew := h
theorem prog_store {w0 u8 : World} {p : Nat} {C : Ch} {i k B0 gf cf : Nat} {b : Bc} {q : Pc} {zs : List Int} (hh : Bool) (h : CAt u8 p F C x bs fe) (ho : Own u8 B0 gf (pgB C.S) cf zs) (hi : bs[i]? = some b) (hk : b.ps[k]? = some q) (hB : w0.heap.size ≤ B0) (hr : ∀ y ∈ zs, (0 : Int) ≤ y ∧ y ≤ 255) (hS : 1 ≤ C.S ∧ C.S ≤ 8) (hfw : ∀ k, F k → k < w0.heap.size) :
  CAt ((u8.setCell ⟨b.g, k * 2, none⟩ (.slice (some ⟨gf, 0, none⟩) (pgB C.S) cf)).setCell ⟨b.g, k * 2 + 1, none⟩ (.bool hh)) p (Fx F w0 u8) { C with bl := C.bl.set i { b.v with ps := b.v.ps.set k ⟨zs, hh⟩ } } x (bs.set i { b with ps := b.ps.set k ⟨some ⟨gf, 0, none⟩, pgB C.S, cf, zs, hh⟩ }) fe ∧ Only (· = b.g) u8 ((u8.setCell ⟨b.g, k * 2, none⟩ (.slice (some ⟨gf, 0, none⟩) (pgB C.S) cf)).setCell ⟨b.g, k * 2 + 1, none⟩ (.bool hh)) := by
 have hpos : 0 < pgB C.S := by unfold pgB; omega
 obtain ⟨g', c', e1, e2, _⟩ := own_shape ho hpos
 cases e1
 have hl := ho.len
 have hrd := ho.reads hr (pgB C.S) (Nat.le_refl _)
 rw [List.take_of_length_le (by omega)] at hrd
 obtain ⟨cs, hcs⟩ := own_tag ho rfl
 have hq' : PcOk u8 (Fx F w0 u8) (pgB C.S) ⟨some ⟨gf, 0, none⟩, pgB C.S, cf, zs, hh⟩ := ⟨hl, hr, Or.inr ⟨gf, rfl, Or.inr ⟨Nat.le_trans hB ho.lt.1, ho.lt.2⟩, rfl, e2, hrd, ⟨cs, (0, 0), hcs⟩⟩⟩
 have hh9 := h.setP (w0 := w0) (G := Fx F w0 u8) (q' := ⟨some ⟨gf, 0, none⟩, pgB C.S, cf, zs, hh⟩) hi hk (fun k hk => Or.inl hk) (fun k hk => Or.elim hk (fun h1 => h.fin k h1) (fun h1 => h1.2)) hq'
 exact hh9
theorem prog_gb {p : Nat} {C : Ch} {i : Nat} {b : Bc} (h : CAt w p F C x bs fe) (hi : bs[i]? = some b) : x.gb ≠ b.g := tag_ne h.row (h.bok b (List.mem_of_getElem? hi)).row (t := 106) (u := 108) rfl rfl (by decide)
theorem prog_ok (w : World) (p : Nat) (F : Nat → Prop) (C : Ch) (x : Bx) (bs : List Bc) (fe : List Fe) (h : CAt w p F C x bs fe) (i k : Nat) (b : Bc) (q : Pc) (hi : bs[i]? = some b) (hk : b.ps[k]? = some q) (da sa : Option Addr) (n1 dc n2 sc : Nat) (hBl : C.bl.length = C.B) (hS : 1 ≤ C.S ∧ C.S ≤ 8) (hP2 : C.P ≤ 256) (hcn : C.cnt ≤ 4000000000000) (hm : b.m = false) (hr : b.r = true) (hx : decide ((k : Int) < b.nx) = false)
  (zd zp : List Int) (hn1 : n1 = 256 * C.S) (hn2 : n2 = 54 + 3 * C.S) (hD : Reads w da n1 zd) (hZ : Reads w sa n2 zp) (hdF : ∀ y, da = some y → ¬ F y.block) (hzF : ∀ y, sa = some y → ¬ F y.block) :
  Calls Try.prog 89 #[.pointer (some ⟨p, 0, none⟩), .agg #[.int .i64 (i : Int), .int .i64 (k : Int)], .agg #[.slice da n1 dc, .slice sa n2 sc]] w fun e w' => e = .returned (.int .i64 (endE (takeF C.cnt C.q).k)) ∧ ChipAt w' p (Fx F w w') { C with q := takeR C.cnt C.q, cnt := C.cnt + 1, dark := C.dark || (takeF C.cnt C.q).k == 2, bl := C.bl.set i { b.v with nx := (k : Int) + 1, ps := b.v.ps.set k ⟨fallL q.bits (zd ++ zp) (takeF C.cnt C.q).m (takeF C.cnt C.q).f (pgB C.S), (takeF C.cnt C.q).k == 0⟩ } } ∧ Only F w w' := by
 have hil : i < bs.length := (List.getElem?_eq_some_iff.1 hi).1
 have hkl : k < b.ps.length := (List.getElem?_eq_some_iff.1 hk).1
 have hP : hasP C.B C.P (i : Int) (k : Int) = true := by
  have e1 : bs.length = C.B := by have h1 := h.len; rw [hBl] at h1; exact h1
  have e2 : b.ps.length = C.P := (h.bok b (List.mem_of_getElem? hi)).np
  unfold hasP hasB
  rw [decide_eq_true (show (0 : Int) ≤ i ∧ (i : Int) < C.B by omega), decide_eq_true (show (0 : Int) ≤ k ∧ (k : Int) < C.P by omega)]
  rfl
 have i1 : (i : Int) < (x.nb : Int) := by rw [h.nb]; omega
 have k1 : (k : Int) < (b.ps.length : Int) := by omega
 have HC0 := J ((h.below (below_alloc _ (.cells #[.int .i64 (i : Int), .int .i64 (k : Int)] 41))).below (below_alloc _ (.cells #[.slice da n1 dc, .slice sa n2 sc] 36)))
 have HPL : Hid (((w.alloc (.cells #[.int .i64 (i : Int), .int .i64 (k : Int)] 41)).alloc (.cells #[.slice da n1 dc, .slice sa n2 sc] 36)).heap[w.heap.size]? = some (.cells #[.int .i64 (i : Int), .int .i64 (k : Int)] 41 (0, 0))) := (alloc_old _ _ (by simp)).trans (alloc_new w (.cells #[.int .i64 (i : Int), .int .i64 (k : Int)] 41))
 have HPG : Hid (((w.alloc (.cells #[.int .i64 (i : Int), .int .i64 (k : Int)] 41)).alloc (.cells #[.slice da n1 dc, .slice sa n2 sc] 36)).heap[w.heap.size + 1]? = some (.cells #[.slice da n1 dc, .slice sa n2 sc] 36 (0, 0))) := by have h2 := alloc_new (w.alloc (.cells #[.int .i64 (i : Int), .int .i64 (k : Int)] 41)) (.cells #[.slice da n1 dc, .slice sa n2 sc] 36); rw [alloc_size] at h2; exact h2
 have HFW : Hid (∀ k, F k → k < w.heap.size) := h.fin
 have hk256 : (k : Int) ≤ 256 := by have h9 := (h.bok b (List.mem_of_getElem? hi)).np; omega
 have HD := J hD
 have HZ := J hZ
 have HDF := J hdF
 have HZF := J hzF
 have HN := J (And.intro hn1 hn2)
 clear h hD hZ hdF hzF hn1 hn2
 go_enter Try.func89, Try.ntmps89
 go_wp2_with (first | (go_at_call 57; refine (hasPage_any x p C.B C.P (i : Int) (k : Int) _ HC0.out.box HC0.out.B HC0.out.P).mono ?_; rintro e u1 ⟨rfl, b1⟩; rw [hP]; have HC1 := J (HC0.out.below b1); have HPL1 := J ((b1.block _ (lt_of_block HPL.out)).trans HPL.out); have HPG1 := J ((b1.block _ (lt_of_block HPG.out)).trans HPG.out); have B1 := J (below_trans (below_trans (below_alloc w (.cells #[.int .i64 (i : Int), .int .i64 (k : Int)] 41)) (below_alloc _ (.cells #[.slice da n1 dc, .slice sa n2 sc] 36))) b1); have c3 := HC1.out.box.c3; obtain ⟨q0, q1⟩ := cells2 HPL1.out; obtain ⟨m0, m1, m2, m3⟩ := HC1.out.blk hi; clear b1))
 refine wp_region_held_drew (S := (fun u => u.cell? ⟨w.heap.size, 0, none⟩ = some (.int .i64 (i : Int)) ∧ u.cell? ⟨p, 3, none⟩ = some (.slice (some ⟨x.gb, 0, none⟩) x.nb x.nb))) (by kernel_rfl) (⟨q0, c3⟩) fun O => ?_
 refine tk 0 ?_
 refine tk 1 ?_
 refine tk 2 ?_
 refine tk 3 ?_
 refine tk 4 ?_
 refine tk 5 ?_
 refine tk 6 ?_
 refine tk 7 ?_
 refine td ?_
 clear O
 go_wp2
 rw [hm] at m0
 rw [hr] at m1
 refine wp_region_held_drew (S := (fun u => u.cell? ⟨x.gb, i * 4, none⟩ = some (.bool false) ∧ u.cell? ⟨x.gb, i * 4 + 1, none⟩ = some (.bool true) ∧ u.cell? ⟨x.gb, i * 4 + 2, none⟩ = some (.int .i64 b.nx) ∧ u.cell? ⟨w.heap.size, 1, none⟩ = some (.int .i64 (k : Int)))) (by kernel_rfl) (⟨m0, m1, m2, q1⟩) fun O => ?_
 refine tk 0 ?_
 refine tk 1 ?_
 refine tk 2 ?_
 refine tk 3 ?_
 refine tk 4 ?_
 refine tk 5 ?_
 refine tk 6 ?_
 refine tk 7 ?_
 refine tk 8 ?_
 refine tk 9 ?_
 refine tk 10 ?_
 refine tk 11 ?_
 refine tk 12 ?_
 refine tk 13 ?_
 refine tk 14 ?_
 refine tk 15 ?_
 refine tk 16 ?_
 refine tk 17 ?_
 refine tk 18 ?_
 refine tk 19 ?_
 refine td ?_
 clear O c3 q0 q1 m0 m1 m2 m3
 have HC1b : Hid (CAt u1.drew.drew p F C x bs fe) := (HC1.out.below (drew_below _)).below (drew_below _)
 go_upto_region 7 with (first | (go_at_call 103; refine (take_any _ p F C x bs fe HC1b.out hcn).mono ?_; rintro e u2 ⟨v, x2, rfl, vk, k1, k2, k3⟩; obtain ⟨ma, ml, mc, hve, mok, mle⟩ := vk.ex; have hvf := vk.fill; obtain ⟨fa, hfa⟩ : ∃ z, (takeF (C.cnt : Int) C.q).a = z := ⟨_, rfl⟩; obtain ⟨fk, hfk⟩ : ∃ z, (takeF (C.cnt : Int) C.q).k = z := ⟨_, rfl⟩; obtain ⟨ff, hff⟩ : ∃ z, (takeF (C.cnt : Int) C.q).f = z := ⟨_, rfl⟩; obtain ⟨fm, hfm⟩ : ∃ z, (takeF (C.cnt : Int) C.q).m = z := ⟨_, rfl⟩; rw [hfa, hfk, hff] at hve; rw [hfm] at mok; rw [hff] at hvf; subst hve; have HC2 := J k1; have O2 := J k3; have HG2 := J k2; have HM2 := J mok; have HE := J (And.intro hfa (And.intro hfk (And.intro hff hfm))); have HFF := J hvf; have HML := J mle; clear vk mok mle hvf k1 k2 k3 hfa hfk hff hfm))
 have hpc : ¬ (w.heap.size = p ∨ w.heap.size = x.c) := by have h1 := HFW.out _ HC1b.out.fp; have h2 := HFW.out _ HC1b.out.q.fc; omega
 have hpc1 : ¬ (w.heap.size + 1 = p ∨ w.heap.size + 1 = x.c) := by have h1 := HFW.out _ HC1b.out.fp; have h2 := HFW.out _ HC1b.out.q.fc; omega
 have HPL2 := J ((O2.out.block _ (lt_of_block HPL1.out) hpc).trans HPL1.out)
 have HPG2 := J ((O2.out.block _ (lt_of_block HPG1.out) hpc1).trans HPG1.out)
 have HW2 : Hid (w.heap.size + 2 ≤ u2.heap.size) := by have h1 := O2.out.size; have h2 := lt_of_block HPG1.out; unfold Hid; simp at h1; omega
 have HOW : Hid (Only (fun k => k = p ∨ k = x.c) w u2) := (Only.ofB (below_trans (below_trans B1.out (drew_below _)) (drew_below _))).trans O2.out (fun _ _ h => h)
 obtain ⟨u3, hu3⟩ : ∃ u, u = u2.alloc (.cells #[.int .i64 fa, .int .i64 fk, .slice ma ml mc, .int .u8 ff] 58) := ⟨_, rfl⟩
 have HB3 : Hid (Below u2.heap.size u2 u3) := by rw [hu3]; exact below_alloc _ _
 have HV3 : Hid (u3.heap[u2.heap.size]? = some (.cells #[.int .i64 fa, .int .i64 fk, .slice ma ml mc, .int .u8 ff] 58 (0, 0))) := by rw [hu3]; exact alloc_new _ _
 rw [← hu3]
 clear hu3
 obtain ⟨fb, hfb⟩ : ∃ g, g = u2.heap.size := ⟨_, rfl⟩
 rw [← hfb] at HV3 HW2 HB3 ⊢
 have HFB2 := J hfb
 clear hfb
 have HC3 := J (HC2.out.below (by rw [← HFB2.out]; exact HB3.out))
 have HPL3 := J ((HB3.out.block _ (by have := HW2.out; omega)).trans HPL2.out)
 have HPG3 := J ((HB3.out.block _ (by have := HW2.out; omega)).trans HPG2.out)
 have HM3 := J (HM2.out.keep (KeepT.of (fun k hk => HB3.out.block k (by rw [HFB2.out]; exact HC2.out.fin k hk)) (fun _ => False)) (fun h => h) (fun _ h => h))
 obtain ⟨q0, q1⟩ := cells2 HPL3.out
 obtain ⟨m0, m1, m2, m3⟩ := HC3.out.blk hi
 have fzb := frozen_of_row u3 x2.gb (i * 4 + 2) _ 106 HC3.out.row
 rw [HG2.out] at m0 m1 m2 m3 fzb
 have HOW3 : Hid (Only (fun k => k = p ∨ k = x.c) w u3) := HOW.out.trans (Only.ofB (F := fun _ => False) (by rw [← HFB2.out]; exact HB3.out)) (fun _ _ h => h.elim)
 have HD3 := J (reads_keep HD.out (fun y hy h0 => HOW3.out.block _ (by obtain ⟨b', o', e', hb', _⟩ := HD.out.pos h0; rw [hy] at e'; cases e'; exact hb') (fun e => HDF.out y hy (by rcases e with e | e <;> rw [e]; exact HC3.out.fp; exact HC1b.out.q.fc))))
 have HZ3 := J (reads_keep HZ.out (fun y hy h0 => HOW3.out.block _ (by obtain ⟨b', o', e', hb', _⟩ := HZ.out.pos h0; rw [hy] at e'; cases e'; exact hb') (fun e => HZF.out y hy (by rcases e with e | e <;> rw [e]; exact HC3.out.fp; exact HC1b.out.q.fc))))
 go_upto_region 8 with fail
 have HC4a := J (HC3.out.setB hi 2 (by omega) (.int .i64 ((k : Int) + 1)) { b with nx := (k : Int) + 1 } rfl rfl rfl)
 rw [HG2.out] at HC4a
 have HO4a := J (Only.setCell (· = x.gb) u3 x.gb (i * 4 + 2) (.int .i64 ((k : Int) + 1)) rfl)
 generalize hu4 : World.setCell u3 ⟨x.gb, i * 4 + 2, none⟩ _ = u4 at HC4a HO4a ⊢
 clear hu4
 have HC4 := HC4a
 have HO4 := HO4a
 clear HC4a HO4a m0 m1 m2 m3 fzb q0 q1
 have hgb : x.gb < w.heap.size := HFW.out _ HC1b.out.fb
 have HPL4 := J ((HO4.out.block _ (lt_of_block HPL3.out) (by omega)).trans HPL3.out)
 have HPG4 := J ((HO4.out.block _ (lt_of_block HPG3.out) (by omega)).trans HPG3.out)
 have HVB := J ((HO4.out.block _ (lt_of_block HV3.out) (by have := HW2.out; omega)).trans HV3.out)
 have HS8 : Hid (S8 w.heap.size fb (i : Int) (k : Int) da sa ma n1 dc n2 sc ml mc ff u4) := by
  obtain ⟨a0, a1⟩ := cells2 HPL4.out
  obtain ⟨a2, a3⟩ := cells2 HPG4.out
  obtain ⟨_, _, a4, a5⟩ := cells4 HVB.out
  exact ⟨a0, a1, a2, a3, a4, a5⟩
 have HD4 := J (reads_keep HD3.out (fun y hy h0 => HO4.out.block _ (by obtain ⟨b', o', e', hb', _⟩ := HD3.out.pos h0; rw [hy] at e'; cases e'; exact hb') (fun e => HDF.out y hy (by rw [e]; exact HC1b.out.fb))))
 have HZ4 := J (reads_keep HZ3.out (fun y hy h0 => HO4.out.block _ (by obtain ⟨b', o', e', hb', _⟩ := HZ3.out.pos h0; rw [hy] at e'; cases e'; exact hb') (fun e => HZF.out y hy (by rw [e]; exact HC1b.out.fb))))
 have HT4 : Hid (KeepT F (· = 106) u3 u4) := HO4.out.keepT (fun j o t hj ho ht => by
  have h9 := HC3.out.row
  rw [HG2.out] at h9
  rw [hj, h9] at ho
  cases ho
  exact ht.symm)
 have HM4 := J (HM3.out.keep HT4.out (by decide) (fun _ h => h))
 have hi4 : (bs.set i { b with nx := (k : Int) + 1 })[i]? = some { b with nx := (k : Int) + 1 } := List.getElem?_set_self hil
 have hk4 : ({ b with nx := (k : Int) + 1 } : Bc).ps[k]? = some q := hk
 have HNL : Hid (n1 + n2 = pgB C.S) := by obtain ⟨e1, e2⟩ := HN.out; unfold Hid; rw [e1, e2]; rfl
 have HWB : Hid (∀ y ∈ zd ++ zp, (0 : Int) ≤ y ∧ y ≤ 255) := fun y hy => by
  rcases List.mem_append.1 hy with h1 | h1
  ·exact HD4.out.2.1 y h1
  ·exact HZ4.out.2.1 y h1
 have hnl : n1 + n2 ≤ 2126 := by have h1 := HNL.out; have h2 := pgB_le hS.2; omega
 have HLL : Hid (pgB C.S ≤ 140737488351232) := by have h2 := pgB_le hS.2; unfold Hid; omega
 have HM4L : Hid (ml ≤ 140737488355000) := by have := HM4.out.le; unfold Hid; omega
 have HOW4 : Hid (Only F w u4) := (HOW3.out.mono (fun j _ e => by rcases e with e | e <;> rw [e]; exact HC1b.out.fp; exact HC1b.out.q.fc)).trans HO4.out (fun j _ e => by rw [e]; exact HC1b.out.fb)
 have HFBw : Hid (w.heap.size + 2 ≤ fb) := HW2.out
 have HQB : Hid (∀ y ∈ q.bits, (0 : Int) ≤ y ∧ y ≤ 255) := ((HC3.out.bok b (List.mem_of_getElem? hi)).pg q (List.mem_of_getElem? hk)).byt
 clear HPL HPG HPL1 HPG1 HPL2 HPG2 HPL3 HPG3 HC0 HC1 HOW HOW3 HD3 HZ3 HD HZ HM2 HM3 HV3 HB3 HC2 HPL4 HPG4
 refine wp_region_held_drew (S := (fun u => u.cell? ⟨w.heap.size, 0, none⟩ = some (.int .i64 (i : Int)) ∧ u.cell? ⟨w.heap.size, 1, none⟩ = some (.int .i64 (k : Int)) ∧ u.cell? ⟨w.heap.size + 1, 0, none⟩ = some (.slice da n1 dc) ∧ u.cell? ⟨w.heap.size + 1, 1, none⟩ = some (.slice sa n2 sc) ∧ u.cell? ⟨fb, 2, none⟩ = some (.slice ma ml mc) ∧ u.cell? ⟨fb, 3, none⟩ = some (.int .u8 ff))) (by kernel_rfl) (s8_drew HS8.out) fun O => ?_
 refine tk 0 ?_
 refine tk 1 ?_
 refine tk 3 ?_
 refine tk 4 ?_
 refine tk 5 ?_
 refine tk 6 ?_
 refine tk 9 ?_
 refine tk 10 ?_
 refine tk 11 ?_
 refine tk 12 ?_
 refine wpAnyH_ready (rs := [2, 7]) (by kernel_rfl) (by simp) ?_
 refine AllReadyH.cons (o := { dst := some 53, op := Op.call { callee := Callee.value (Operand.func 93), args := #[Operand.tmp 51, Operand.tmp 52], argTypes := #[29, 41] }, type := 24, pos := "commands.go:31", after := #[{ on := 0, ground := Ground.data }, { on := 1, ground := Ground.data }], guard := none }) rfl (fun K N => ?_) (AllReadyH.cons (o := { dst := some 58, op := Op.buildSlice 61 2 #[(0, Operand.tmp 55), (1, Operand.tmp 57)], type := 61, pos := "commands.go:31", after := #[{ on := 4, ground := Ground.data }, { on := 6, ground := Ground.data }], guard := none }) rfl (fun K N => ?_) AllReadyH.nil)
 ·go_simp
  go_at_call 93
  refine (bits_r _ p F _ _ _ fe (HC4.out.below (drew_below u4)) i k _ q hi4 hk4 hS).mono ?_
  rintro e u5 ⟨ab, cb, rfl, rb, lb, bb⟩
  have HBb := J (below_trans (drew_below u4) bb)
  have HRb := J rb
  have HLb := J lb
  clear rb lb bb
  have hZ := s8_keep HS8.out HBb.out
  go_wp2_with fail
  clear O
  refine N.out _ _ hZ fun O => ?_
  clear N K hZ
  try simp only [zz]
  refine rd 7 fun K N => ?_
  go_simp
  go_wp2_with fail
  have HBm := J (below_trans HBb.out (below_alloc u5 (.cells #[.slice da n1 dc, .slice sa n2 sc] 24)))
  have HJ0 := J (jn_cells u5 (.slice da n1 dc) (.slice sa n2 sc))
  have HRb2 := J (HRb.out.below (below_alloc u5 (.cells #[.slice da n1 dc, .slice sa n2 sc] 24)))
  have hZ := s8_keep HS8.out HBm.out
  clear O
  refine N.out _ _ hZ fun O => ?_
  clear N K hZ
  try simp only [zz]
  refine rd 8 fun K N => ?_
  go_simp
  go_at_call 108
  refine (join2 u5.heap.size da sa n1 dc n2 sc zd zp _ HJ0.out.1 HJ0.out.2 (HD4.out.below HBm.out) (HZ4.out.below HBm.out) (by omega)).mono ?_
  rintro e u6 ⟨vj, rfl, oj, bj⟩
  rw [HNL.out] at oj
  obtain ⟨aj, cj, rfl, rj⟩ := own_any oj HWB.out
  have HBj := J (below_trans HBm.out bj)
  have HRj := J rj
  have HRb3 := J (HRb2.out.below bj)
  clear oj rj bj
  have hZ := s8_keep HS8.out HBj.out
  go_wp2_with fail
  clear O
  refine N.out _ _ hZ fun O => ?_
  clear N K hZ
  try simp only [zz]
  refine rd 13 fun K N => ?_
  go_simp
  go_at_call 107
  refine (fall_ok ab _ cb q.bits aj cj (zd ++ zp) ma ml mc fm ff _ HLL.out HM4L.out HRb3.out HRj.out (HM4.out.rd.below HBj.out)).mono ?_
  rintro e u8 ⟨gf, cf, rfl, of, bf⟩
  have HOF := J of
  have HB8 := J (below_trans HBj.out bf)
  clear of bf
  have hZ := s8_keep HS8.out HB8.out
  go_wp2_with fail
  clear O
  refine N.out _ _ hZ fun O => ?_
  clear N K hZ
  try simp only [zz]
  refine tk 14 ?_
  refine tk 15 ?_
  refine tk 16 ?_
  refine tk 17 ?_
  refine tk 18 ?_
  refine td ?_
  clear O
  have HC8 := J (HC4.out.below HB8.out)
  have HS9 := J (s8_keep HS8.out HB8.out)
  have HV8 := J ((HB8.out.block _ (lt_of_block HVB.out)).trans HVB.out)
  obtain ⟨_, _, _, p3⟩ := HC8.out.blk hi4
  obtain ⟨v0, v1, v2, v3⟩ := cells4 HV8.out
  obtain ⟨_, s1, _, _, _, _⟩ := HS9.out
  obtain ⟨z0, z1⟩ := (HC8.out.bok _ (List.mem_of_getElem? hi4)).page hk4
  have fzp := fun j => frozen_of_row u8 b.g j _ 108 (HC8.out.bok _ (List.mem_of_getElem? hi4)).row
  rw [HG2.out] at p3
  go_upto_region 9 with fail
  refine wp_region_held_drew (S := (fun u => u.cell? ⟨x.gb, i * 4 + 3, none⟩ = some (.slice (some ⟨b.g, 0, none⟩) b.ps.length b.ps.length) ∧ u.cell? ⟨w.heap.size, 1, none⟩ = some (.int .i64 (k : Int)) ∧ u.cell? ⟨fb, 1, none⟩ = some (.int .i64 fk))) (by kernel_rfl) (⟨p3, s1, v1⟩) fun O => ?_
  refine tk 0 ?_
  refine tk 1 ?_
  refine tk 2 ?_
  refine tk 3 ?_
  refine tk 4 ?_
  refine tk 5 ?_
  refine tk 6 ?_
  refine tk 7 ?_
  refine tk 8 ?_
  refine tk 9 ?_
  refine tk 10 ?_
  refine tk 11 ?_
  refine rd 12 fun K N => ?_
  go_simp
  go_wp2_with fail
  have HX9 := J (prog_store (fk == 0) HC8.out HOF.out hi4 hk4 (Nat.le_trans HOW4.out.size HBj.out.size) (fallL_range _ _ _ _ HQB.out HWB.out HM4.out.rd.2.1 HFF.out _) hS HFW.out)
  have hbg := HFW.out _ (HC1b.out.bok b (List.mem_of_getElem? hi)).fg
  have hZ := (⟨HX9.out.2.cell p3 (fun e => prog_gb HC8.out hi4 (by rw [HG2.out]; exact e)), HX9.out.2.cell s1 (fun e => by have e2 : w.heap.size = b.g := e; omega), HX9.out.2.cell v1 (fun e => by have e2 : fb = b.g := e; have := HFBw.out; omega)⟩ : _ ∧ _ ∧ _)
  clear O
  refine N.out _ _ hZ fun O => ?_
  clear N K hZ
  try simp only [zz]
  refine td ?_
  generalize hu9 : World.setCell _ ⟨b.g, k * 2 + 1, none⟩ _ = u9 at HX9 ⊢
  clear hu9 O p3 s1 z0 z1 fzp
  have hnf : fb ≠ b.g := fun e => by have := HFBw.out; omega
  have w0 := HX9.out.2.cell v0 hnf
  have w1 := HX9.out.2.cell v1 hnf
  have w2 := HX9.out.2.cell v2 hnf
  have w3 := HX9.out.2.cell v3 hnf
  clear v0 v1 v2 v3 hnf
  have HXD := J (And.intro (HX9.out.1.below (drew_below u9)) (HX9.out.2.trans (Only.ofB (F := fun _ => False) (drew_below u9)) (fun _ _ h => h.elim)))
  go_wp2_with (first | (go_at_call 105; refine (end_c _ p _ _ _ _ fe HXD.out.1 fa fk ma ml mc ff).mono ?_; rintro e v9 ⟨rfl, ⟨x9, k9⟩, o9⟩; have HK9 := J k9; have HO9 := J o9; clear k9 o9))
  go_ret
  have hOW8 : Only F w u8 := HOW4.out.trans (Only.ofB (F := fun _ => False) HB8.out) (fun _ _ h => h.elim)
  have hOW9 : Only F w v9 := (hOW8.trans HXD.out.2 (fun j _ e => by rw [e]; exact (HC1b.out.bok b (List.mem_of_getElem? hi)).fg)).trans HO9.out (fun j _ e => by rw [e]; exact HC1b.out.fp)
  obtain ⟨ea, ek, ef, em⟩ := HE.out
  rw [ek, ef, em]
  have h10 := HK9.out.keep (w' := v9) (G := Fx F w v9) (fun _ _ => rfl) (fun j hj => Or.elim hj Or.inl (fun h1 => Or.inr ⟨h1.1, Nat.lt_of_lt_of_le h1.2 (Nat.le_trans HXD.out.2.size HO9.out.size)⟩)) (fun j hj => Or.elim hj (fun h1 => Nat.lt_of_lt_of_le (HFW.out j h1) hOW9.size) (fun h1 => h1.2))
  simp only [List.set_set] at h10
  exact ⟨rfl, ⟨x9, _, fe, h10⟩, hOW9⟩
 ·go_simp
  go_wp2_with fail
  have HBm := J (below_trans (drew_below u4) (below_alloc u4.drew (.cells #[.slice da n1 dc, .slice sa n2 sc] 24)))
  have HJ0 := J (jn_cells u4.drew (.slice da n1 dc) (.slice sa n2 sc))
  have hZ := s8_keep HS8.out HBm.out
  clear O
  refine N.out _ _ hZ fun O => ?_
  clear N K hZ
  try simp only [zz]
  refine rd 2 fun K N => ?_
  go_simp
  go_at_call 93
  refine (bits_r _ p F _ _ _ fe (HC4.out.below HBm.out) i k _ q hi4 hk4 hS).mono ?_
  rintro e u5 ⟨ab, cb, rfl, rb, lb, bb⟩
  have HBb := J (below_trans HBm.out bb)
  have HRb := J rb
  have HLb := J lb
  have HJ1 := J (jn_keep HJ0.out bb)
  clear HJ0
  have HJ0 := HJ1
  clear rb lb bb
  have hZ := s8_keep HS8.out HBb.out
  go_wp2_with fail
  clear O
  refine N.out _ _ hZ fun O => ?_
  clear N K hZ
  try simp only [zz]
  refine rd 8 fun K N => ?_
  go_simp
  go_at_call 108
  refine (join2 u4.heap.size da sa n1 dc n2 sc zd zp _ HJ0.out.1 HJ0.out.2 (HD4.out.below HBb.out) (HZ4.out.below HBb.out) (by omega)).mono ?_
  rintro e u6 ⟨vj, rfl, oj, bj⟩
  rw [HNL.out] at oj
  obtain ⟨aj, cj, rfl, rj⟩ := own_any oj HWB.out
  have HBj := J (below_trans HBb.out bj)
  have HRj := J rj
  have HRb3 := J (HRb.out.below bj)
  clear oj rj bj
  have hZ := s8_keep HS8.out HBj.out
  go_wp2_with fail
  clear O
  refine N.out _ _ hZ fun O => ?_
  clear N K hZ
  try simp only [zz]
  refine rd 13 fun K N => ?_
  go_simp
  go_at_call 107
  refine (fall_ok ab _ cb q.bits aj cj (zd ++ zp) ma ml mc fm ff _ HLL.out HM4L.out HRb3.out HRj.out (HM4.out.rd.below HBj.out)).mono ?_
  rintro e u8 ⟨gf, cf, rfl, of, bf⟩
  have HOF := J of
  have HB8 := J (below_trans HBj.out bf)
  clear of bf
  have hZ := s8_keep HS8.out HB8.out
  go_wp2_with fail
  clear O
  refine N.out _ _ hZ fun O => ?_
  clear N K hZ
  try simp only [zz]
  refine tk 14 ?_
  refine tk 15 ?_
  refine tk 16 ?_
  refine tk 17 ?_
  refine tk 18 ?_
  refine td ?_
  clear O
  have HC8 := J (HC4.out.below HB8.out)
  have HS9 := J (s8_keep HS8.out HB8.out)
  have HV8 := J ((HB8.out.block _ (lt_of_block HVB.out)).trans HVB.out)
  obtain ⟨_, _, _, p3⟩ := HC8.out.blk hi4
  obtain ⟨v0, v1, v2, v3⟩ := cells4 HV8.out
  obtain ⟨_, s1, _, _, _, _⟩ := HS9.out
  obtain ⟨z0, z1⟩ := (HC8.out.bok _ (List.mem_of_getElem? hi4)).page hk4
  have fzp := fun j => frozen_of_row u8 b.g j _ 108 (HC8.out.bok _ (List.mem_of_getElem? hi4)).row
  rw [HG2.out] at p3
  go_upto_region 9 with fail
  refine wp_region_held_drew (S := (fun u => u.cell? ⟨x.gb, i * 4 + 3, none⟩ = some (.slice (some ⟨b.g, 0, none⟩) b.ps.length b.ps.length) ∧ u.cell? ⟨w.heap.size, 1, none⟩ = some (.int .i64 (k : Int)) ∧ u.cell? ⟨fb, 1, none⟩ = some (.int .i64 fk))) (by kernel_rfl) (⟨p3, s1, v1⟩) fun O => ?_
  refine tk 0 ?_
  refine tk 1 ?_
  refine tk 2 ?_
  refine tk 3 ?_
  refine tk 4 ?_
  refine tk 5 ?_
  refine tk 6 ?_
  refine tk 7 ?_
  refine tk 8 ?_
  refine tk 9 ?_
  refine tk 10 ?_
  refine tk 11 ?_
  refine rd 12 fun K N => ?_
  go_simp
  go_wp2_with fail
  have HX9 := J (prog_store (fk == 0) HC8.out HOF.out hi4 hk4 (Nat.le_trans HOW4.out.size HBj.out.size) (fallL_range _ _ _ _ HQB.out HWB.out HM4.out.rd.2.1 HFF.out _) hS HFW.out)
  have hbg := HFW.out _ (HC1b.out.bok b (List.mem_of_getElem? hi)).fg
  have hZ := (⟨HX9.out.2.cell p3 (fun e => prog_gb HC8.out hi4 (by rw [HG2.out]; exact e)), HX9.out.2.cell s1 (fun e => by have e2 : w.heap.size = b.g := e; omega), HX9.out.2.cell v1 (fun e => by have e2 : fb = b.g := e; have := HFBw.out; omega)⟩ : _ ∧ _ ∧ _)
  clear O
  refine N.out _ _ hZ fun O => ?_
  clear N K hZ
  try simp only [zz]
  refine td ?_
  generalize hu9 : World.setCell _ ⟨b.g, k * 2 + 1, none⟩ _ = u9 at HX9 ⊢
  clear hu9 O p3 s1 z0 z1 fzp
  have hnf : fb ≠ b.g := fun e => by have := HFBw.out; omega
  have w0 := HX9.out.2.cell v0 hnf
  have w1 := HX9.out.2.cell v1 hnf
  have w2 := HX9.out.2.cell v2 hnf
  have w3 := HX9.out.2.cell v3 hnf
  clear v0 v1 v2 v3 hnf
  have HXD := J (And.intro (HX9.out.1.below (drew_below u9)) (HX9.out.2.trans (Only.ofB (F := fun _ => False) (drew_below u9)) (fun _ _ h => h.elim)))
  go_wp2_with (first | (go_at_call 105; refine (end_c _ p _ _ _ _ fe HXD.out.1 fa fk ma ml mc ff).mono ?_; rintro e v9 ⟨rfl, ⟨x9, k9⟩, o9⟩; have HK9 := J k9; have HO9 := J o9; clear k9 o9))
  go_ret
  have hOW8 : Only F w u8 := HOW4.out.trans (Only.ofB (F := fun _ => False) HB8.out) (fun _ _ h => h.elim)
  have hOW9 : Only F w v9 := (hOW8.trans HXD.out.2 (fun j _ e => by rw [e]; exact (HC1b.out.bok b (List.mem_of_getElem? hi)).fg)).trans HO9.out (fun j _ e => by rw [e]; exact HC1b.out.fp)
  obtain ⟨ea, ek, ef, em⟩ := HE.out
  rw [ek, ef, em]
  have h10 := HK9.out.keep (w' := v9) (G := Fx F w v9) (fun _ _ => rfl) (fun j hj => Or.elim hj Or.inl (fun h1 => Or.inr ⟨h1.1, Nat.lt_of_lt_of_le h1.2 (Nat.le_trans HXD.out.2.size HO9.out.size)⟩)) (fun j hj => Or.elim hj (fun h1 => Nat.lt_of_lt_of_le (HFW.out j h1) hOW9.size) (fun h1 => h1.2))
  simp only [List.set_set] at h10
  exact ⟨rfl, ⟨x9, _, fe, h10⟩, hOW9⟩
structure Ch.Ok (C : Ch) : Prop where
 fits : Fits C.B C.P C.S = true
 bl : C.bl.length = C.B
 ps : ∀ b ∈ C.bl, b.ps.length = C.P
 cnt : C.cnt ≤ C.tr.length
 fl : ∀ b p, ∀ z ∈ C.fl b p, z < 8 * pgB C.S
theorem Ch.Ok.s {C : Ch} (h : C.Ok) : 1 ≤ C.S ∧ C.S ≤ 8 := by have := of_decide_eq_true h.fits; omega
theorem Ch.Ok.p {C : Ch} (h : C.Ok) : 4 ≤ C.P ∧ C.P ≤ 256 := by have := of_decide_eq_true h.fits; omega
theorem Ch.Ok.b {C : Ch} (h : C.Ok) : 8 ≤ C.B ∧ C.B ≤ 4096 := by have := of_decide_eq_true h.fits; omega
def progN (C : Ch) (pb pp : Int) (b : Bl) (q : Pg) (want : List Int) : Ch :=
 { C with q := takeR C.cnt C.q, cnt := C.cnt + 1, dark := C.dark || (takeF C.cnt C.q).k == 2, bl := C.bl.set pb.toNat { b with nx := pp + 1, ps := b.ps.set pp.toNat ⟨fallL q.bits want (takeF C.cnt C.q).m (takeF C.cnt C.q).f (pgB C.S), (takeF C.cnt C.q).k == 0⟩ } }
def progC (C : Ch) (pb pp : Int) (want : List Int) : Int × Ch :=
 if hasP C.B C.P pb pp = false then (41, C) else
  match C.bl[pb.toNat]? with
  | none => (41, C)
  | some b =>
   if b.m || !b.r || decide (pp < b.nx) then (43, C) else
    match b.ps[pp.toNat]? with
    | none => (41, C)
    | some q => (endE (takeF C.cnt C.q).k, progN C pb pp b q want)
def noteC (k pb pp : Int) (r : Int × Ch) : Int × Ch := (r.1, { r.2 with tr := r.2.tr ++ [⟨k, pb, pp, r.1⟩] })
def ProgramC (C : Ch) (pb pp : Int) (n1 n2 : Nat) (want : List Int) : Int × Ch :=
 if C.dark then (45, C) else if n1 ≠ 256 * C.S ∨ n2 ≠ 54 + 3 * C.S then (42, C) else noteC 1 pb pp (progC C pb pp want)
theorem ChipAt.grow {p : Nat} {G : Nat → Prop} {C : Ch} (h : ChipAt w p F C) (hb : Below w.heap.size w w') (hF : ∀ k, F k → G k) (hG : ∀ k, G k → k < w'.heap.size) : ChipAt w' p G C := by
 obtain ⟨x, bs, fe, h1⟩ := h
 exact ⟨x, bs, fe, h1.keep (fun k hk => hb.block k (h1.fin k hk)) hF hG⟩
theorem ChipAt.fx {p : Nat} {C : Ch} (h : ChipAt w p F C) (hb : Below w.heap.size w w') : ChipAt w' p (Fx F w w') C :=
 h.grow hb (fun _ h => Or.inl h) (fun k hk => Or.elim hk (fun h1 => Nat.lt_of_lt_of_le (h.fin k h1) hb.size) (fun h1 => h1.2))
theorem hasP_nat {B P : Nat} {pb pp : Int} (h : hasP B P pb pp = true) : ∃ i k : Nat, pb = i ∧ pp = k ∧ i < B ∧ k < P := by
 unfold hasP hasB at h
 simp only [Bool.and_eq_true, decide_eq_true_eq] at h
 exact ⟨pb.toNat, pp.toNat, by omega, by omega, by omega, by omega⟩
theorem program_any (w : World) (p : Nat) (F : Nat → Prop) (C : Ch) (h : ChipAt w p F C) (hok : C.Ok) (hcn : C.cnt ≤ 4000000000000) (pb pp : Int) (da sa : Option Addr) (n1 dc n2 sc : Nat) (zd zp : List Int) (hn1 : n1 = 256 * C.S) (hn2 : n2 = 54 + 3 * C.S) (hD : Reads w da n1 zd) (hZ : Reads w sa n2 zp) (hdF : ∀ y, da = some y → ¬ F y.block) (hzF : ∀ y, sa = some y → ¬ F y.block) :
  Calls Try.prog 89 #[.pointer (some ⟨p, 0, none⟩), .agg #[.int .i64 pb, .int .i64 pp], .agg #[.slice da n1 dc, .slice sa n2 sc]] w fun e w' => e = .returned (.int .i64 (progC C pb pp (zd ++ zp)).1) ∧ ChipAt w' p (Fx F w w') (progC C pb pp (zd ++ zp)).2 ∧ Only F w w' := by
 obtain ⟨x, bs, fe, hc⟩ := h
 have h : ChipAt w p F C := ⟨x, bs, fe, hc⟩
 unfold progC
 cases hp : hasP C.B C.P pb pp with
 | false =>
  refine (prog_a w p F C x bs fe hc pb pp hp da sa n1 dc n2 sc).mono ?_
  rintro e w' ⟨rfl, hb⟩
  exact ⟨rfl, h.fx hb, Only.ofB hb⟩
 | true =>
  obtain ⟨i, k, rfl, rfl, hi, hk⟩ := hasP_nat hp
  have hbl : i < bs.length := by rw [hc.len, hok.bl]; exact hi
  have hib : bs[i]? = some bs[i] := List.getElem?_eq_getElem hbl
  obtain ⟨b, hb⟩ : ∃ b, bs[i] = b := ⟨_, rfl⟩
  rw [hb] at hib
  have hkl : k < b.ps.length := by rw [(hc.bok b (List.mem_of_getElem? hib)).np]; exact hk
  have hkq : b.ps[k]? = some b.ps[k] := List.getElem?_eq_getElem hkl
  obtain ⟨q, hq⟩ : ∃ q, b.ps[k] = q := ⟨_, rfl⟩
  rw [hq] at hkq
  have e1 : C.bl[i]? = some b.v := by rw [← hc.bl, List.getElem?_map, hib]; rfl
  have e2 : b.v.ps[k]? = some q.v := by show (b.ps.map Pc.v)[k]? = _; rw [List.getElem?_map, hkq]; rfl
  simp only [Int.toNat_natCast, e1, e2, Bool.true_eq_false, if_false]
  have fin43 : ∀ {e : Ending} {w' : World}, (e = .returned (.int .i64 43) ∧ Below w.heap.size w w') → (b.v.m || !b.v.r || decide ((k : Int) < b.v.nx)) = true → e = .returned (.int .i64 (if (b.v.m || !b.v.r || decide ((k : Int) < b.v.nx)) = true then ((43 : Int), C) else (endE (takeF C.cnt C.q).k, progN C i k b.v q.v (zd ++ zp))).1) ∧ ChipAt w' p (Fx F w w') (if (b.v.m || !b.v.r || decide ((k : Int) < b.v.nx)) = true then ((43 : Int), C) else (endE (takeF C.cnt C.q).k, progN C i k b.v q.v (zd ++ zp))).2 ∧ Only F w w' := by
   rintro e w' ⟨rfl, hB⟩ hif
   rw [if_pos hif]
   exact ⟨rfl, h.fx hB, Only.ofB hB⟩
  cases hm : b.m with
  | true => exact (prog_m w p F C x bs fe hc i k b q hib hkq da sa n1 dc n2 sc hok.bl hm).mono fun e w' hr => fin43 hr (by show (b.m || !b.r || _) = true; rw [hm]; rfl)
  | false =>
   cases hr : b.r with
   | false => exact (prog_r w p F C x bs fe hc i k b q hib hkq da sa n1 dc n2 sc hok.bl hm hr).mono fun e w' hr' => fin43 hr' (by show (b.m || !b.r || _) = true; rw [hm, hr]; rfl)
   | true =>
    cases hx : decide ((k : Int) < b.nx) with
    | true => exact (prog_n w p F C x bs fe hc i k b q hib hkq da sa n1 dc n2 sc hok.bl hm hr hx).mono fun e w' hr' => fin43 hr' (by show (b.m || !b.r || decide ((k : Int) < b.nx)) = true; rw [hm, hr, hx]; rfl)
    | false =>
     have hif : (b.v.m || !b.v.r || decide ((k : Int) < b.v.nx)) = false := by show (b.m || !b.r || decide ((k : Int) < b.nx)) = false; rw [hm, hr, hx]; rfl
     rw [hif, if_neg (by decide)]
     refine (prog_ok w p F C x bs fe hc i k b q hib hkq da sa n1 dc n2 sc hok.bl hok.s hok.p.2 hcn hm hr hx zd zp hn1 hn2 hD hZ hdF hzF).mono ?_
     rintro e w' ⟨rfl, h1, h2⟩
     exact ⟨rfl, h1, h2⟩
end Go.Proofs.Ytadlkikjfonkgaa
