/-
  SEAT Ytadlkikjfonkgaa: Xv, Xw.
-/
import Derived.Test.YtadlkikjfonkgaaQa
import Derived.Test.YtadlkikjfonkgaaQbk
import Derived.Test.YtadlkikjfonkgaaQj
import Derived.Test.YtadlkikjfonkgaaQn
import Derived.Test.YtadlkikjfonkgaaQh
import Derived.Test.YtadlkikjfonkgaaQt
import Derived.Test.YtadlkikjfonkgaaQy
import Derived.Test.YtadlkikjfonkgaaQz
import Derived.Test.YtadlkikjfonkgaaQl
import Derived.Test.YtadlkikjfonkgaaQs
namespace Go.Proofs.Ytadlkikjfonkgaa
open Go.RowKit Go.Conc
set_option linter.unusedVariables false
set_option maxRecDepth 100000
set_option maxHeartbeats 4000000
variable {w0 w w' W1 u1 W2 : World} {d : Nat} {F Fp Fd : Nat → Prop} {C C' : Ch}
structure TwoAt (w0 w : World) (b p d : Nat) (F Fp Fd : Nat → Prop) (C : Ch) (fs : List Fc) : Prop where
 box : w.heap[b]? = some (.cells #[.pointer (some ⟨p, 0, none⟩), .pointer (some ⟨d, 0, none⟩)] 88 (0, 0))
 ch : ChipAt w p Fp C
 rf : RefAt w0 w d Fd C fs
 fp : ∀ k, Fp k → F k ∧ ¬ Fd k ∧ k ≠ b
 fd : ∀ k, Fd k → F k ∧ k ≠ b
 fb : F b
 lim : ∀ k, F k → w0.heap.size ≤ k ∧ k < w.heap.size
theorem TwoAt.both {b p : Nat} {fs : List Fc} (h : TwoAt w0 w b p d F Fp Fd C fs) : BothAt w0 w b F C fs :=
 ⟨p, d, Fp, Fd, h.box, h.ch, h.rf, h.fp, h.fd, h.fb, h.lim⟩
theorem TwoAt.below {b p : Nat} {fs : List Fc} (h : TwoAt w0 w b p d F Fp Fd C fs) (hb : Below w.heap.size w w') : TwoAt w0 w' b p d F Fp Fd C fs :=
 ⟨(hb.block _ (lt_of_block h.box)).trans h.box, h.ch.below hb, h.rf.below hb, h.fp, h.fd, h.fb, fun k hk => ⟨(h.lim k hk).1, Nat.lt_of_lt_of_le (h.lim k hk).2 hb.size⟩⟩
theorem TwoAt.half {b p : Nat} {fs : List Fc} (h : TwoAt w0 w b p d F Fp Fd C fs) (b1 : Below w.heap.size w W1) (o1 : Only Fp W1 u1) (b2 : Below u1.heap.size u1 W2) : RefAt w0 W2 d Fd C fs ∧ W2.heap[b]? = some (.cells #[.pointer (some ⟨p, 0, none⟩), .pointer (some ⟨d, 0, none⟩)] 88 (0, 0)) := by
 have hb := (b1.block _ (lt_of_block h.box)).trans h.box
 have hb2 := (o1.block _ (lt_of_block hb) (fun e => (h.fp _ e).2.2 rfl)).trans hb
 exact ⟨((h.rf.below b1).only o1 (fun k hk e => (h.fp k e).2.1 hk) (fun k hk => (h.lim k (h.fp k hk).1).1)).below b2, (b2.block _ (lt_of_block hb2)).trans hb2⟩
theorem TwoAt.cell {b p : Nat} {fs : List Fc} (h : TwoAt w0 w b p d F Fp Fd C fs) {W1 : World} (o1 : Only Fp W1 u1) {q i : Nat} {v : Value} (hq : w.heap.size ≤ q) (hc : W1.cell? ⟨q, i, none⟩ = some v) : u1.cell? ⟨q, i, none⟩ = some v :=
 o1.cell hc (fun e => by have := (h.lim _ (h.fp _ e).1).2; omega)
theorem TwoAt.step {u2 : World} {b p : Nat} {fs : List Fc} (h : TwoAt w0 w b p d F Fp Fd C fs) (b1 : Below w.heap.size w W1) (c1 : ChipAt u1 p (Fx Fp W1 u1) C') (o1 : Only Fp W1 u1) (b2 : Below u1.heap.size u1 W2) (c2 : RefAt w0 u2 d (Fx Fd W2 u2) C' fs) (o2 : Only Fd W2 u2) (b3 : Below u2.heap.size u2 w') : BothAt w0 w' b (Fx F w w') C' fs ∧ Only F w w' := by
 have s1 := b1.size
 have s2 := o1.size
 have s3 := b2.size
 have s4 := o2.size
 have s5 := b3.size
 have hp : ∀ k, Fp k → k < w.heap.size := fun k hk => (h.lim k (h.fp k hk).1).2
 have hd : ∀ k, Fd k → k < w.heap.size := fun k hk => (h.lim k (h.fd k hk).1).2
 have hbl := (h.lim b h.fb).2
 have hbx := (h.half b1 o1 b2).2
 refine ⟨⟨p, d, Fx Fp W1 u1, Fx Fd W2 u2, ?_, ?_, c2.below b3, fun k hk => ?_, fun k hk => ?_, Or.inl h.fb, fun k hk => ?_⟩, ?_⟩
 ·have h2 := (o2.block _ (lt_of_block hbx) (fun e => (h.fd _ e).2 rfl)).trans hbx
  exact (b3.block _ (lt_of_block h2)).trans h2
 ·refine ((c1.below b2).only o2 (fun k hk e => ?_)).below b3
  have h1 := hd k e
  rcases hk with h9 | h9
  ·exact (h.fp k h9).2.1 e
  ·have := h9.1; omega
 ·rcases hk with h9 | h9
  ·have h8 := hp k h9
   refine ⟨Or.inl (h.fp k h9).1, fun e => ?_, (h.fp k h9).2.2⟩
   rcases e with e | e
   ·exact (h.fp k h9).2.1 e
   ·have := e.1; omega
  ·have h8 := h9.1
   have h7 := h9.2
   refine ⟨Or.inr ⟨by omega, by omega⟩, fun e => ?_, by omega⟩
   rcases e with e | e
   ·have := hd k e; omega
   ·have := e.1; omega
 ·rcases hk with h9 | h9
  ·exact ⟨Or.inl (h.fd k h9).1, (h.fd k h9).2⟩
  ·have h8 := h9.1
   have h7 := h9.2
   exact ⟨Or.inr ⟨by omega, by omega⟩, by omega⟩
 ·rcases hk with h9 | h9
  ·have := (h.lim k h9).2
   exact ⟨(h.lim k h9).1, by omega⟩
  ·have := (h.lim b h.fb).1
   exact ⟨by have := h9.1; omega, h9.2⟩
 ·have e1 : Only F w W1 := Only.ofB b1
  have e2 := e1.trans o1 (fun k _ e => (h.fp k e).1)
  have e3 := e2.trans (Only.ofB (F := F) b2) (fun _ _ e => e)
  have e4 := e3.trans o2 (fun k _ e => (h.fd k e).1)
  exact e4.trans (Only.ofB (F := F) b3) (fun _ _ e => e)
theorem plays2_any (w0 w : World) (b : Nat) (F : Nat → Prop) (C : Ch) (fs : List Fc) (h : BothAt w0 w b F C fs) (hok : C.Ok) (hfb : faultsB fs = true) (htr : C.tr.length ≤ 3000000000000) (ob op bit : Int) (fit : Bool) (da : Option Addr) (dn dc : Nat) (za : Option Addr) (zn zc : Nat) (bk : Value) :
  Calls Try.prog 34 #[.pointer (some ⟨b, 0, none⟩), .agg #[.int .i64 2, .int .i64 ob, .int .i64 op, .int .i64 bit, .bool fit, .slice da dn dc, .slice za zn zc], bk] w fun e w' => e = .returned (.bool true) ∧ BothAt w0 w' b (Fx F w w') (EraseC C ob).2 fs ∧ Only F w w' := by
 obtain ⟨p, d, Fp, Fd, hbx, hch, hrf, hp1, hd1, hbF, hFf⟩ := h
 have HTw : Hid (TwoAt w0 w b p d F Fp Fd C fs) := ⟨hbx, hch, hrf, hp1, hd1, hbF, hFf⟩
 have HBW := J (below_trans (below_alloc w (.cells #[.int .i64 2, .int .i64 ob, .int .i64 op, .int .i64 bit, .bool fit, .slice da dn dc, .slice za zn zc] 56)) (drew_below _))
 have HX3 : Hid ((w.alloc (.cells #[.int .i64 2, .int .i64 ob, .int .i64 op, .int .i64 bit, .bool fit, .slice da dn dc, .slice za zn zc] 56)).drew.heap[w.heap.size]? = some (.cells #[.int .i64 2, .int .i64 ob, .int .i64 op, .int .i64 bit, .bool fit, .slice da dn dc, .slice za zn zc] 56 (0, 0))) := alloc_new w (.cells #[.int .i64 2, .int .i64 ob, .int .i64 op, .int .i64 bit, .bool fit, .slice da dn dc, .slice za zn zc] 56)
 clear hbx hch hrf hp1 hd1 hbF hFf
 go_enter Try.func34, Try.ntmps34
 go_upto_region 5 with fail
 generalize hq3 : w.heap.size = q3 at HX3 ⊢
 have hQ : w.heap.size ≤ q3 := Nat.le_of_eq hq3
 obtain ⟨W1, hW1⟩ : ∃ x, (w.alloc (.cells #[.int .i64 2, .int .i64 ob, .int .i64 op, .int .i64 bit, .bool fit, .slice da dn dc, .slice za zn zc] 56)).drew = x := ⟨_, rfl⟩
 rw [hW1] at HBW HX3
 have HT1 := J (HTw.out.below HBW.out)
 have HS1 : Hid ((fun u => u.cell? ⟨b, 0, none⟩ = some (.pointer (some ⟨p, 0, none⟩)) ∧ u.cell? ⟨q3, 1, none⟩ = some (.int .i64 ob)) W1) := ⟨(cells2 HT1.out.box).1, (cells7 HX3.out).2.1⟩
 have HS1d : Hid ((fun u => u.cell? ⟨b, 0, none⟩ = some (.pointer (some ⟨p, 0, none⟩)) ∧ u.cell? ⟨q3, 1, none⟩ = some (.int .i64 ob)) (w.alloc (.cells #[.int .i64 2, .int .i64 ob, .int .i64 op, .int .i64 bit, .bool fit, .slice da dn dc, .slice za zn zc] 56)).drew) := by rw [hW1]; exact HS1.out
 refine wp_region_held_drew (S := (fun u => u.cell? ⟨b, 0, none⟩ = some (.pointer (some ⟨p, 0, none⟩)) ∧ u.cell? ⟨q3, 1, none⟩ = some (.int .i64 ob))) (by kernel_rfl) (HS1d.out) fun O => ?_
 rw [hW1] at O ⊢
 refine tk 0 ?_
 refine tk 1 ?_
 refine tk 2 ?_
 refine tk 3 ?_
 refine tk 4 ?_
 refine tk 5 ?_
 refine tk 6 ?_
 refine rd 7 fun K N => ?_
 go_simp
 go_at_call 51
 refine (Erase_any W1 p Fp C HT1.out.ch hok htr ob).mono ?_
 rintro e u3 ⟨rfl, hc3, ho3⟩
 have HC3 := J hc3
 have HO3 := J ho3
 have hZ : (fun u => u.cell? ⟨b, 0, none⟩ = some (.pointer (some ⟨p, 0, none⟩)) ∧ u.cell? ⟨q3, 1, none⟩ = some (.int .i64 ob)) u3 := ⟨ho3.cell HS1.out.1 (fun e => (HTw.out.fp _ e).2.2 rfl), HTw.out.cell ho3 hQ HS1.out.2⟩
 clear hc3 ho3
 go_wp2_with fail
 clear O
 refine N.out _ _ hZ fun O => ?_
 clear N K hZ
 try simp only [zz]
 refine tk 8 ?_
 refine td ?_
 clear O HS1d
 go_upto_region 6 with fail
 obtain ⟨W4, hW4⟩ : ∃ x, u3.drew = x := ⟨_, rfl⟩
 have HW4 := J (show Below u3.heap.size u3 W4 by rw [← hW4]; exact drew_below u3)
 have HH4 := J (HTw.out.half HBW.out HO3.out HW4.out)
 have HX4 := J ((HW4.out.block _ (Nat.lt_of_lt_of_le (lt_of_block HX3.out) HO3.out.size)).trans ((HO3.out.block _ (lt_of_block HX3.out) (fun e => by have := (HTw.out.lim _ (HTw.out.fp _ e).1).2; omega)).trans HX3.out))
 have HS2 : Hid ((fun u => u.cell? ⟨b, 1, none⟩ = some (.pointer (some ⟨d, 0, none⟩)) ∧ u.cell? ⟨q3, 1, none⟩ = some (.int .i64 ob)) W4) := ⟨(cells2 HH4.out.2).2, (cells7 HX4.out).2.1⟩
 have HS2d : Hid ((fun u => u.cell? ⟨b, 1, none⟩ = some (.pointer (some ⟨d, 0, none⟩)) ∧ u.cell? ⟨q3, 1, none⟩ = some (.int .i64 ob)) u3.drew) := by rw [hW4]; exact HS2.out
 refine wp_region_held_drew (S := (fun u => u.cell? ⟨b, 1, none⟩ = some (.pointer (some ⟨d, 0, none⟩)) ∧ u.cell? ⟨q3, 1, none⟩ = some (.int .i64 ob))) (by kernel_rfl) (HS2d.out) fun O => ?_
 rw [hW4] at O ⊢
 refine tk 0 ?_
 refine tk 2 ?_
 refine tk 3 ?_
 refine tk 4 ?_
 refine tk 5 ?_
 refine tk 6 ?_
 refine tk 7 ?_
 refine tk 8 ?_
 refine rd 1 fun K N => ?_
 go_simp
 go_at_call 11
 refine (no_any' _ _).mono ?_
 rintro e u9 ⟨rfl, hu9⟩
 subst u9
 have hZ : (fun u => u.cell? ⟨b, 1, none⟩ = some (.pointer (some ⟨d, 0, none⟩)) ∧ u.cell? ⟨q3, 1, none⟩ = some (.int .i64 ob)) W4 := HS2.out
 go_wp2_with fail
 clear O
 refine N.out _ _ hZ fun O => ?_
 clear N K hZ
 try simp only [zz]
 refine rd 9 fun K N => ?_
 go_simp
 go_at_call 66
 refine (rErase_any w0 W4 d Fd C fs HH4.out.1 hok hfb htr ob).mono ?_
 rintro e u4 ⟨rfl, hc4, ho4⟩
 have HC4 := J hc4
 have HO4 := J ho4
 have hS4 : (fun u => u.cell? ⟨b, 1, none⟩ = some (.pointer (some ⟨d, 0, none⟩)) ∧ u.cell? ⟨q3, 1, none⟩ = some (.int .i64 ob)) u4 := ⟨ho4.cell HS2.out.1 (fun e => (HTw.out.fd _ e).2 rfl), ho4.cell HS2.out.2 (fun e => by have := (HTw.out.lim _ (HTw.out.fd _ e).1).2; omega)⟩
 have hZ : (fun u => u.cell? ⟨b, 1, none⟩ = some (.pointer (some ⟨d, 0, none⟩)) ∧ u.cell? ⟨q3, 1, none⟩ = some (.int .i64 ob)) u4 := hS4
 clear hc4 ho4
 go_wp2_with fail
 clear O
 refine N.out _ _ hZ fun O => ?_
 clear N K hZ
 try simp only [zz]
 refine tk 10 ?_
 refine tk 11 ?_
 refine td ?_
 clear O
 go_wp2
 go_ret
 exact ⟨by simp, HTw.out.step HBW.out HC3.out HO3.out HW4.out HC4.out HO4.out (Below.refl _ _)⟩
theorem plays3_any (w0 w : World) (b : Nat) (F : Nat → Prop) (C : Ch) (fs : List Fc) (h : BothAt w0 w b F C fs) (hok : C.Ok) (hfb : faultsB fs = true) (htr : C.tr.length ≤ 3000000000000) (ob op bit : Int) (fit : Bool) (da : Option Addr) (dn dc : Nat) (za : Option Addr) (zn zc : Nat) (bk : Value) :
  Calls Try.prog 34 #[.pointer (some ⟨b, 0, none⟩), .agg #[.int .i64 3, .int .i64 ob, .int .i64 op, .int .i64 bit, .bool fit, .slice da dn dc, .slice za zn zc], bk] w fun e w' => e = .returned (.bool true) ∧ BothAt w0 w' b (Fx F w w') (MarkC C ob).2 fs ∧ Only F w w' := by
 obtain ⟨p, d, Fp, Fd, hbx, hch, hrf, hp1, hd1, hbF, hFf⟩ := h
 have HTw : Hid (TwoAt w0 w b p d F Fp Fd C fs) := ⟨hbx, hch, hrf, hp1, hd1, hbF, hFf⟩
 have HBW := J (below_trans (below_alloc w (.cells #[.int .i64 3, .int .i64 ob, .int .i64 op, .int .i64 bit, .bool fit, .slice da dn dc, .slice za zn zc] 56)) (drew_below _))
 have HX3 : Hid ((w.alloc (.cells #[.int .i64 3, .int .i64 ob, .int .i64 op, .int .i64 bit, .bool fit, .slice da dn dc, .slice za zn zc] 56)).drew.heap[w.heap.size]? = some (.cells #[.int .i64 3, .int .i64 ob, .int .i64 op, .int .i64 bit, .bool fit, .slice da dn dc, .slice za zn zc] 56 (0, 0))) := alloc_new w (.cells #[.int .i64 3, .int .i64 ob, .int .i64 op, .int .i64 bit, .bool fit, .slice da dn dc, .slice za zn zc] 56)
 clear hbx hch hrf hp1 hd1 hbF hFf
 go_enter Try.func34, Try.ntmps34
 go_upto_region 8 with fail
 generalize hq3 : w.heap.size = q3 at HX3 ⊢
 have hQ : w.heap.size ≤ q3 := Nat.le_of_eq hq3
 obtain ⟨W1, hW1⟩ : ∃ x, (w.alloc (.cells #[.int .i64 3, .int .i64 ob, .int .i64 op, .int .i64 bit, .bool fit, .slice da dn dc, .slice za zn zc] 56)).drew = x := ⟨_, rfl⟩
 rw [hW1] at HBW HX3
 have HT1 := J (HTw.out.below HBW.out)
 have HS1 : Hid ((fun u => u.cell? ⟨b, 0, none⟩ = some (.pointer (some ⟨p, 0, none⟩)) ∧ u.cell? ⟨q3, 1, none⟩ = some (.int .i64 ob)) W1) := ⟨(cells2 HT1.out.box).1, (cells7 HX3.out).2.1⟩
 have HS1d : Hid ((fun u => u.cell? ⟨b, 0, none⟩ = some (.pointer (some ⟨p, 0, none⟩)) ∧ u.cell? ⟨q3, 1, none⟩ = some (.int .i64 ob)) (w.alloc (.cells #[.int .i64 3, .int .i64 ob, .int .i64 op, .int .i64 bit, .bool fit, .slice da dn dc, .slice za zn zc] 56)).drew) := by rw [hW1]; exact HS1.out
 refine wp_region_held_drew (S := (fun u => u.cell? ⟨b, 0, none⟩ = some (.pointer (some ⟨p, 0, none⟩)) ∧ u.cell? ⟨q3, 1, none⟩ = some (.int .i64 ob))) (by kernel_rfl) (HS1d.out) fun O => ?_
 rw [hW1] at O ⊢
 refine tk 0 ?_
 refine tk 1 ?_
 refine tk 2 ?_
 refine tk 3 ?_
 refine tk 4 ?_
 refine tk 5 ?_
 refine tk 6 ?_
 refine rd 7 fun K N => ?_
 go_simp
 go_at_call 52
 refine (Mark_any W1 p Fp C HT1.out.ch hok htr ob).mono ?_
 rintro e u3 ⟨rfl, hc3, ho3⟩
 have HC3 := J hc3
 have HO3 := J ho3
 have hZ : (fun u => u.cell? ⟨b, 0, none⟩ = some (.pointer (some ⟨p, 0, none⟩)) ∧ u.cell? ⟨q3, 1, none⟩ = some (.int .i64 ob)) u3 := ⟨ho3.cell HS1.out.1 (fun e => (HTw.out.fp _ e).2.2 rfl), HTw.out.cell ho3 hQ HS1.out.2⟩
 clear hc3 ho3
 go_wp2_with fail
 clear O
 refine N.out _ _ hZ fun O => ?_
 clear N K hZ
 try simp only [zz]
 refine tk 8 ?_
 refine td ?_
 clear O HS1d
 go_upto_region 9 with fail
 obtain ⟨W4, hW4⟩ : ∃ x, u3.drew = x := ⟨_, rfl⟩
 have HW4 := J (show Below u3.heap.size u3 W4 by rw [← hW4]; exact drew_below u3)
 have HH4 := J (HTw.out.half HBW.out HO3.out HW4.out)
 have HX4 := J ((HW4.out.block _ (Nat.lt_of_lt_of_le (lt_of_block HX3.out) HO3.out.size)).trans ((HO3.out.block _ (lt_of_block HX3.out) (fun e => by have := (HTw.out.lim _ (HTw.out.fp _ e).1).2; omega)).trans HX3.out))
 have HS2 : Hid ((fun u => u.cell? ⟨b, 1, none⟩ = some (.pointer (some ⟨d, 0, none⟩)) ∧ u.cell? ⟨q3, 1, none⟩ = some (.int .i64 ob)) W4) := ⟨(cells2 HH4.out.2).2, (cells7 HX4.out).2.1⟩
 have HS2d : Hid ((fun u => u.cell? ⟨b, 1, none⟩ = some (.pointer (some ⟨d, 0, none⟩)) ∧ u.cell? ⟨q3, 1, none⟩ = some (.int .i64 ob)) u3.drew) := by rw [hW4]; exact HS2.out
 refine wp_region_held_drew (S := (fun u => u.cell? ⟨b, 1, none⟩ = some (.pointer (some ⟨d, 0, none⟩)) ∧ u.cell? ⟨q3, 1, none⟩ = some (.int .i64 ob))) (by kernel_rfl) (HS2d.out) fun O => ?_
 rw [hW4] at O ⊢
 refine tk 0 ?_
 refine tk 2 ?_
 refine tk 3 ?_
 refine tk 4 ?_
 refine tk 5 ?_
 refine tk 6 ?_
 refine tk 7 ?_
 refine tk 8 ?_
 refine rd 1 fun K N => ?_
 go_simp
 go_at_call 11
 refine (no_any' _ _).mono ?_
 rintro e u9 ⟨rfl, hu9⟩
 subst u9
 have hZ : (fun u => u.cell? ⟨b, 1, none⟩ = some (.pointer (some ⟨d, 0, none⟩)) ∧ u.cell? ⟨q3, 1, none⟩ = some (.int .i64 ob)) W4 := HS2.out
 go_wp2_with fail
 clear O
 refine N.out _ _ hZ fun O => ?_
 clear N K hZ
 try simp only [zz]
 refine rd 9 fun K N => ?_
 go_simp
 go_at_call 67
 refine (rMark_any w0 W4 d Fd C fs HH4.out.1 hok hfb (by have := hok.cnt; omega) (by omega) ob).mono ?_
 rintro e u4 ⟨rfl, hc4, ho4⟩
 have HC4 := J hc4
 have HO4 := J ho4
 have hS4 : (fun u => u.cell? ⟨b, 1, none⟩ = some (.pointer (some ⟨d, 0, none⟩)) ∧ u.cell? ⟨q3, 1, none⟩ = some (.int .i64 ob)) u4 := ⟨ho4.cell HS2.out.1 (fun e => (HTw.out.fd _ e).2 rfl), ho4.cell HS2.out.2 (fun e => by have := (HTw.out.lim _ (HTw.out.fd _ e).1).2; omega)⟩
 have hZ : (fun u => u.cell? ⟨b, 1, none⟩ = some (.pointer (some ⟨d, 0, none⟩)) ∧ u.cell? ⟨q3, 1, none⟩ = some (.int .i64 ob)) u4 := hS4
 clear hc4 ho4
 go_wp2_with fail
 clear O
 refine N.out _ _ hZ fun O => ?_
 clear N K hZ
 try simp only [zz]
 refine tk 10 ?_
 refine tk 11 ?_
 refine td ?_
 clear O
 go_wp2
 go_ret
 exact ⟨by simp, HTw.out.step HBW.out HC3.out HO3.out HW4.out HC4.out HO4.out (Below.refl _ _)⟩
theorem plays4_any (w0 w : World) (b : Nat) (F : Nat → Prop) (C : Ch) (fs : List Fc) (h : BothAt w0 w b F C fs) (hok : C.Ok) (hln : ∀ b p, (C.fl b p).length ≤ 4000000000000) (ob op bit : Int) (hbit : bit ≤ 9223372036854775807) (fit : Bool) (da : Option Addr) (dn dc : Nat) (za : Option Addr) (zn zc : Nat) (bk : Value) :
  Calls Try.prog 34 #[.pointer (some ⟨b, 0, none⟩), .agg #[.int .i64 4, .int .i64 ob, .int .i64 op, .int .i64 bit, .bool fit, .slice da dn dc, .slice za zn zc], bk] w fun e w' => e = .returned (.bool true) ∧ BothAt w0 w' b (Fx F w w') (FlipC C ob op bit).2 fs ∧ Only F w w' := by
 obtain ⟨p, d, Fp, Fd, hbx, hch, hrf, hp1, hd1, hbF, hFf⟩ := h
 have HTw : Hid (TwoAt w0 w b p d F Fp Fd C fs) := ⟨hbx, hch, hrf, hp1, hd1, hbF, hFf⟩
 have HBW := J (below_trans (below_alloc w (.cells #[.int .i64 4, .int .i64 ob, .int .i64 op, .int .i64 bit, .bool fit, .slice da dn dc, .slice za zn zc] 56)) (drew_below _))
 have HX3 : Hid ((w.alloc (.cells #[.int .i64 4, .int .i64 ob, .int .i64 op, .int .i64 bit, .bool fit, .slice da dn dc, .slice za zn zc] 56)).drew.heap[w.heap.size]? = some (.cells #[.int .i64 4, .int .i64 ob, .int .i64 op, .int .i64 bit, .bool fit, .slice da dn dc, .slice za zn zc] 56 (0, 0))) := alloc_new w (.cells #[.int .i64 4, .int .i64 ob, .int .i64 op, .int .i64 bit, .bool fit, .slice da dn dc, .slice za zn zc] 56)
 clear hbx hch hrf hp1 hd1 hbF hFf
 go_enter Try.func34, Try.ntmps34
 go_upto_region 11 with fail
 generalize hq3 : w.heap.size = q3 at HX3 ⊢
 have hQ : w.heap.size ≤ q3 := Nat.le_of_eq hq3
 obtain ⟨W1, hW1⟩ : ∃ x, (w.alloc (.cells #[.int .i64 4, .int .i64 ob, .int .i64 op, .int .i64 bit, .bool fit, .slice da dn dc, .slice za zn zc] 56)).drew = x := ⟨_, rfl⟩
 rw [hW1] at HBW HX3
 have HT1 := J (HTw.out.below HBW.out)
 have HS1 : Hid ((fun u => u.cell? ⟨b, 0, none⟩ = some (.pointer (some ⟨p, 0, none⟩)) ∧ u.cell? ⟨q3, 1, none⟩ = some (.int .i64 ob) ∧ u.cell? ⟨q3, 2, none⟩ = some (.int .i64 op) ∧ u.cell? ⟨q3, 3, none⟩ = some (.int .i64 bit)) W1) := ⟨(cells2 HT1.out.box).1, ⟨(cells7 HX3.out).2.1, (cells7 HX3.out).2.2.1, (cells7 HX3.out).2.2.2.1⟩⟩
 have HS1d : Hid ((fun u => u.cell? ⟨b, 0, none⟩ = some (.pointer (some ⟨p, 0, none⟩)) ∧ u.cell? ⟨q3, 1, none⟩ = some (.int .i64 ob) ∧ u.cell? ⟨q3, 2, none⟩ = some (.int .i64 op) ∧ u.cell? ⟨q3, 3, none⟩ = some (.int .i64 bit)) (w.alloc (.cells #[.int .i64 4, .int .i64 ob, .int .i64 op, .int .i64 bit, .bool fit, .slice da dn dc, .slice za zn zc] 56)).drew) := by rw [hW1]; exact HS1.out
 refine wp_region_held_drew (S := (fun u => u.cell? ⟨b, 0, none⟩ = some (.pointer (some ⟨p, 0, none⟩)) ∧ u.cell? ⟨q3, 1, none⟩ = some (.int .i64 ob) ∧ u.cell? ⟨q3, 2, none⟩ = some (.int .i64 op) ∧ u.cell? ⟨q3, 3, none⟩ = some (.int .i64 bit))) (by kernel_rfl) (HS1d.out) fun O => ?_
 rw [hW1] at O ⊢
 refine tk 0 ?_
 refine tk 1 ?_
 refine tk 2 ?_
 refine tk 3 ?_
 refine tk 4 ?_
 refine tk 5 ?_
 refine tk 6 ?_
 refine tk 7 ?_
 refine rd 8 fun K N => ?_
 go_simp
 go_at_call 56
 refine (Flip_any W1 p Fp C HT1.out.ch hok hln ob op bit hbit).mono ?_
 rintro e u3 ⟨rfl, hc3, ho3⟩
 have HC3 := J hc3
 have HO3 := J ho3
 have hZ : (fun u => u.cell? ⟨b, 0, none⟩ = some (.pointer (some ⟨p, 0, none⟩)) ∧ u.cell? ⟨q3, 1, none⟩ = some (.int .i64 ob) ∧ u.cell? ⟨q3, 2, none⟩ = some (.int .i64 op) ∧ u.cell? ⟨q3, 3, none⟩ = some (.int .i64 bit)) u3 := ⟨ho3.cell HS1.out.1 (fun e => (HTw.out.fp _ e).2.2 rfl), ⟨HTw.out.cell ho3 hQ HS1.out.2.1, HTw.out.cell ho3 hQ HS1.out.2.2.1, HTw.out.cell ho3 hQ HS1.out.2.2.2⟩⟩
 clear hc3 ho3
 go_wp2_with fail
 clear O
 refine N.out _ _ hZ fun O => ?_
 clear N K hZ
 try simp only [zz]
 refine tk 9 ?_
 refine td ?_
 clear O HS1d
 go_upto_region 12 with fail
 obtain ⟨W4, hW4⟩ : ∃ x, u3.drew = x := ⟨_, rfl⟩
 have HW4 := J (show Below u3.heap.size u3 W4 by rw [← hW4]; exact drew_below u3)
 have HH4 := J (HTw.out.half HBW.out HO3.out HW4.out)
 have HX4 := J ((HW4.out.block _ (Nat.lt_of_lt_of_le (lt_of_block HX3.out) HO3.out.size)).trans ((HO3.out.block _ (lt_of_block HX3.out) (fun e => by have := (HTw.out.lim _ (HTw.out.fp _ e).1).2; omega)).trans HX3.out))
 have HS2 : Hid ((fun u => u.cell? ⟨b, 1, none⟩ = some (.pointer (some ⟨d, 0, none⟩)) ∧ u.cell? ⟨q3, 1, none⟩ = some (.int .i64 ob) ∧ u.cell? ⟨q3, 2, none⟩ = some (.int .i64 op) ∧ u.cell? ⟨q3, 3, none⟩ = some (.int .i64 bit)) W4) := ⟨(cells2 HH4.out.2).2, ⟨(cells7 HX4.out).2.1, (cells7 HX4.out).2.2.1, (cells7 HX4.out).2.2.2.1⟩⟩
 have HS2d : Hid ((fun u => u.cell? ⟨b, 1, none⟩ = some (.pointer (some ⟨d, 0, none⟩)) ∧ u.cell? ⟨q3, 1, none⟩ = some (.int .i64 ob) ∧ u.cell? ⟨q3, 2, none⟩ = some (.int .i64 op) ∧ u.cell? ⟨q3, 3, none⟩ = some (.int .i64 bit)) u3.drew) := by rw [hW4]; exact HS2.out
 refine wp_region_held_drew (S := (fun u => u.cell? ⟨b, 1, none⟩ = some (.pointer (some ⟨d, 0, none⟩)) ∧ u.cell? ⟨q3, 1, none⟩ = some (.int .i64 ob) ∧ u.cell? ⟨q3, 2, none⟩ = some (.int .i64 op) ∧ u.cell? ⟨q3, 3, none⟩ = some (.int .i64 bit))) (by kernel_rfl) (HS2d.out) fun O => ?_
 rw [hW4] at O ⊢
 refine tk 0 ?_
 refine tk 2 ?_
 refine tk 3 ?_
 refine tk 4 ?_
 refine tk 5 ?_
 refine tk 6 ?_
 refine tk 7 ?_
 refine tk 8 ?_
 refine tk 9 ?_
 refine rd 1 fun K N => ?_
 go_simp
 go_at_call 11
 refine (no_any' _ _).mono ?_
 rintro e u9 ⟨rfl, hu9⟩
 subst u9
 have hZ : (fun u => u.cell? ⟨b, 1, none⟩ = some (.pointer (some ⟨d, 0, none⟩)) ∧ u.cell? ⟨q3, 1, none⟩ = some (.int .i64 ob) ∧ u.cell? ⟨q3, 2, none⟩ = some (.int .i64 op) ∧ u.cell? ⟨q3, 3, none⟩ = some (.int .i64 bit)) W4 := HS2.out
 go_wp2_with fail
 clear O
 refine N.out _ _ hZ fun O => ?_
 clear N K hZ
 try simp only [zz]
 refine rd 10 fun K N => ?_
 go_simp
 go_at_call 68
 refine (rFlip_any w0 W4 d Fd C fs HH4.out.1 hok hln ob op bit hbit).mono ?_
 rintro e u4 ⟨rfl, hc4, ho4⟩
 have HC4 := J hc4
 have HO4 := J ho4
 have hS4 : (fun u => u.cell? ⟨b, 1, none⟩ = some (.pointer (some ⟨d, 0, none⟩)) ∧ u.cell? ⟨q3, 1, none⟩ = some (.int .i64 ob) ∧ u.cell? ⟨q3, 2, none⟩ = some (.int .i64 op) ∧ u.cell? ⟨q3, 3, none⟩ = some (.int .i64 bit)) u4 := ⟨ho4.cell HS2.out.1 (fun e => (HTw.out.fd _ e).2 rfl), ⟨ho4.cell HS2.out.2.1 (fun e => by have := (HTw.out.lim _ (HTw.out.fd _ e).1).2; omega), ho4.cell HS2.out.2.2.1 (fun e => by have := (HTw.out.lim _ (HTw.out.fd _ e).1).2; omega), ho4.cell HS2.out.2.2.2 (fun e => by have := (HTw.out.lim _ (HTw.out.fd _ e).1).2; omega)⟩⟩
 have hZ : (fun u => u.cell? ⟨b, 1, none⟩ = some (.pointer (some ⟨d, 0, none⟩)) ∧ u.cell? ⟨q3, 1, none⟩ = some (.int .i64 ob) ∧ u.cell? ⟨q3, 2, none⟩ = some (.int .i64 op) ∧ u.cell? ⟨q3, 3, none⟩ = some (.int .i64 bit)) u4 := hS4
 clear hc4 ho4
 go_wp2_with fail
 clear O
 refine N.out _ _ hZ fun O => ?_
 clear N K hZ
 try simp only [zz]
 refine tk 11 ?_
 refine tk 12 ?_
 refine td ?_
 clear O
 go_wp2
 go_ret
 exact ⟨by simp, HTw.out.step HBW.out HC3.out HO3.out HW4.out HC4.out HO4.out (Below.refl _ _)⟩
theorem BothAt.grow {b : Nat} {G : Nat → Prop} {fs : List Fc} (h : BothAt w0 w b F C fs) (hF : ∀ k, F k → G k) (hG : ∀ k, G k → w0.heap.size ≤ k ∧ k < w.heap.size) : BothAt w0 w b G C fs := by
 obtain ⟨p, d, Fp, Fd, hbx, hch, hrf, hp1, hd1, hbF, hFf⟩ := h
 exact ⟨p, d, Fp, Fd, hbx, hch, hrf, fun k hk => ⟨hF k (hp1 k hk).1, (hp1 k hk).2⟩, fun k hk => ⟨hF k (hd1 k hk).1, (hd1 k hk).2⟩, hF _ hbF, hG⟩
theorem BothAt.below {b : Nat} {fs : List Fc} (h : BothAt w0 w b F C fs) (hb : Below w.heap.size w w') : BothAt w0 w' b F C fs := by
 obtain ⟨p, d, Fp, Fd, hbx, hch, hrf, hp1, hd1, hbF, hFf⟩ := h
 exact (TwoAt.below ⟨hbx, hch, hrf, hp1, hd1, hbF, hFf⟩ hb).both
theorem BothAt.fb {b : Nat} {fs : List Fc} (h : BothAt w0 w b F C fs) : F b ∧ ∀ k, F k → w0.heap.size ≤ k ∧ k < w.heap.size := by
 obtain ⟨p, d, Fp, Fd, hbx, hch, hrf, hp1, hd1, hbF, hFf⟩ := h
 exact ⟨hbF, hFf⟩
theorem BothAt.fxb {b : Nat} {fs : List Fc} (h : BothAt w0 w b F C fs) (hb : Below w.heap.size w w') : BothAt w0 w' b (Fx F w w') C fs ∧ Only F w w' := by
 have h1 := h.fb
 refine ⟨(h.below hb).grow (fun _ e => Or.inl e) (fun k hk => ?_), Only.ofB hb⟩
 have h2 := h1.2 _ h1.1
 have h3 := hb.size
 rcases hk with e | e
 ·have := h1.2 k e; exact ⟨this.1, by omega⟩
 ·exact ⟨by have := e.1; omega, e.2⟩
theorem BothAt.fxo {u : World} {b : Nat} {fs : List Fc} (h0 : BothAt w0 w b F C fs) (hb : Below w.heap.size w u) (h : BothAt w0 w' b (Fx F u w') C' fs) (ho : Only F u w') : BothAt w0 w' b (Fx F w w') C' fs ∧ Only F w w' := by
 have h1 := h0.fb
 have h2 := h1.2 _ h1.1
 have s1 := hb.size
 have s2 := ho.size
 refine ⟨h.grow (fun k hk => ?_) (fun k hk => ?_), (Only.ofB hb).trans ho (fun _ _ e => e)⟩
 ·rcases hk with e | e
  ·exact Or.inl e
  ·exact Or.inr ⟨by have := e.1; omega, e.2⟩
 ·rcases hk with e | e
  ·have := h1.2 k e; exact ⟨this.1, by omega⟩
  ·exact ⟨by have := e.1; omega, e.2⟩
theorem plays1_any (w0 w : World) (b : Nat) (F : Nat → Prop) (C : Ch) (fs : List Fc) (h : BothAt w0 w b F C fs) (hok : C.Ok) (hfb : faultsB fs = true) (htr : C.tr.length ≤ 3000000000000) (o : Opc) (ho : o.k = 1) (da : Option Addr) (dn dc : Nat) (za : Option Addr) (zn zc : Nat) (hD : Reads w da dn o.d) (hZ : Reads w za zn o.z) (hdl : dn ≤ 140737488354900) (hzl : zn ≤ 140737488354900) (hdF : ∀ y, da = some y → 0 < dn → ¬ F y.block) (hzF : ∀ y, za = some y → 0 < zn → ¬ F y.block) (bk : Value) :
  Calls Try.prog 34 #[.pointer (some ⟨b, 0, none⟩), .agg #[.int .i64 1, .int .i64 o.b, .int .i64 o.p, .int .i64 o.bit, .bool o.fit, .slice da dn dc, .slice za zn zc], bk] w fun e w' => e = .returned (.bool true) ∧ BothAt w0 w' b (Fx F w w') (ProgramC C o.b o.p (o.n1 C.S) (o.n2 C.S) (o.want C.S)).2 fs ∧ Only F w w' := by
 have HH := J h
 have HD := J hD
 have HZ := J hZ
 have HDF := J (And.intro hdF hzF)
 clear h hD hZ hdF hzF
 go_enter Try.func34, Try.ntmps34
 go_wp2_with (go_at_call 65; rw [← ho]; refine (programs_any w0 _ b F C fs (HH.out.below (below_alloc _ _)) hok hfb htr o da dn dc za zn zc (HD.out.below (below_alloc _ _)) (HZ.out.below (below_alloc _ _)) hdl hzl HDF.out.1 HDF.out.2).mono ?_; rintro e u3 ⟨rfl, hb3, ho3⟩)
 go_ret
 exact ⟨rfl, HH.out.fxo (below_alloc _ _) hb3 ho3⟩
theorem plays7_any (w0 w : World) (b : Nat) (F : Nat → Prop) (C : Ch) (fs : List Fc) (h : BothAt w0 w b F C fs) (hok : C.Ok) (ob op bit : Int) (fit : Bool) (da : Option Addr) (dn dc : Nat) (za : Option Addr) (zn zc : Nat) (bk : Value) :
  Calls Try.prog 34 #[.pointer (some ⟨b, 0, none⟩), .agg #[.int .i64 7, .int .i64 ob, .int .i64 op, .int .i64 bit, .bool fit, .slice da dn dc, .slice za zn zc], bk] w fun e w' => e = .returned (.bool true) ∧ BothAt w0 w' b (Fx F w w') C fs ∧ Only F w w' := by
 have HB0 := J h
 obtain ⟨p, d, Fp, Fd, hbx, hch, hrf, hp1, hd1, hbF, hFf⟩ := h
 have HTw : Hid (TwoAt w0 w b p d F Fp Fd C fs) := ⟨hbx, hch, hrf, hp1, hd1, hbF, hFf⟩
 have HBW := J (below_trans (below_alloc w (.cells #[.int .i64 7, .int .i64 ob, .int .i64 op, .int .i64 bit, .bool fit, .slice da dn dc, .slice za zn zc] 56)) (drew_below _))
 have HX3 : Hid ((w.alloc (.cells #[.int .i64 7, .int .i64 ob, .int .i64 op, .int .i64 bit, .bool fit, .slice da dn dc, .slice za zn zc] 56)).drew.heap[w.heap.size]? = some (.cells #[.int .i64 7, .int .i64 ob, .int .i64 op, .int .i64 bit, .bool fit, .slice da dn dc, .slice za zn zc] 56 (0, 0))) := alloc_new w (.cells #[.int .i64 7, .int .i64 ob, .int .i64 op, .int .i64 bit, .bool fit, .slice da dn dc, .slice za zn zc] 56)
 clear hbx hch hrf hp1 hd1 hbF hFf
 go_enter Try.func34, Try.ntmps34
 go_upto_region 22 with fail
 generalize hq3 : w.heap.size = q3 at HX3 ⊢
 obtain ⟨W1, hW1⟩ : ∃ x, (w.alloc (.cells #[.int .i64 7, .int .i64 ob, .int .i64 op, .int .i64 bit, .bool fit, .slice da dn dc, .slice za zn zc] 56)).drew = x := ⟨_, rfl⟩
 rw [hW1] at HBW HX3
 have HT1 := J (HTw.out.below HBW.out)
 have HS1 : Hid ((fun u => u.cell? ⟨b, 0, none⟩ = some (.pointer (some ⟨p, 0, none⟩)) ∧ u.cell? ⟨q3, 1, none⟩ = some (.int .i64 ob)) W1) := ⟨(cells2 HT1.out.box).1, (cells7 HX3.out).2.1⟩
 have HS1d : Hid ((fun u => u.cell? ⟨b, 0, none⟩ = some (.pointer (some ⟨p, 0, none⟩)) ∧ u.cell? ⟨q3, 1, none⟩ = some (.int .i64 ob)) (w.alloc (.cells #[.int .i64 7, .int .i64 ob, .int .i64 op, .int .i64 bit, .bool fit, .slice da dn dc, .slice za zn zc] 56)).drew) := by rw [hW1]; exact HS1.out
 refine wp_region_held_drew (S := (fun u => u.cell? ⟨b, 0, none⟩ = some (.pointer (some ⟨p, 0, none⟩)) ∧ u.cell? ⟨q3, 1, none⟩ = some (.int .i64 ob))) (by kernel_rfl) (HS1d.out) fun O => ?_
 rw [hW1] at O ⊢
 refine tk 0 ?_
 refine tk 1 ?_
 refine tk 2 ?_
 refine tk 3 ?_
 refine tk 4 ?_
 refine tk 5 ?_
 refine tk 6 ?_
 refine rd 7 fun K N => ?_
 go_simp
 go_at_call 50
 refine (Marked_any W1 p Fp C HT1.out.ch hok ob).mono ?_
 rintro e u9 ⟨rfl, hu9⟩
 subst u9
 have hZ : (fun u => u.cell? ⟨b, 0, none⟩ = some (.pointer (some ⟨p, 0, none⟩)) ∧ u.cell? ⟨q3, 1, none⟩ = some (.int .i64 ob)) W1 := HS1.out
 go_wp2_with fail
 clear O
 refine N.out _ _ hZ fun O => ?_
 clear N K hZ
 try simp only [zz]
 refine tk 8 ?_
 refine tk 9 ?_
 refine tk 10 ?_
 refine tk 11 ?_
 refine tk 12 ?_
 refine td ?_
 clear O HS1d
 go_upto_region 23 with fail
 obtain ⟨W4, hW4⟩ : ∃ x, W1.drew = x := ⟨_, rfl⟩
 have HW4 := J (show Below W1.heap.size W1 W4 by rw [← hW4]; exact drew_below W1)
 have HT4 := J (HT1.out.below HW4.out)
 have HS2 : Hid ((fun u => u.cell? ⟨b, 1, none⟩ = some (.pointer (some ⟨d, 0, none⟩)) ∧ u.cell? ⟨q3, 1, none⟩ = some (.int .i64 ob)) W4) := ⟨(cells2 HT4.out.box).2, (cells7 ((HW4.out.block _ (lt_of_block HX3.out)).trans HX3.out)).2.1⟩
 have HS2d : Hid ((fun u => u.cell? ⟨b, 1, none⟩ = some (.pointer (some ⟨d, 0, none⟩)) ∧ u.cell? ⟨q3, 1, none⟩ = some (.int .i64 ob)) W1.drew) := by rw [hW4]; exact HS2.out
 refine wp_region_held_drew (S := (fun u => u.cell? ⟨b, 1, none⟩ = some (.pointer (some ⟨d, 0, none⟩)) ∧ u.cell? ⟨q3, 1, none⟩ = some (.int .i64 ob))) (by kernel_rfl) (HS2d.out) fun O => ?_
 rw [hW4] at O ⊢
 refine tk 0 ?_
 refine tk 1 ?_
 refine tk 2 ?_
 refine tk 3 ?_
 refine tk 4 ?_
 refine tk 5 ?_
 refine tk 6 ?_
 refine rd 7 fun K N => ?_
 go_simp
 go_at_call 72
 refine (rMarked_any w0 W4 d Fd C fs HT4.out.rf hok ob).mono ?_
 rintro e u9 ⟨rfl, hu9⟩
 subst u9
 have hZ : (fun u => u.cell? ⟨b, 1, none⟩ = some (.pointer (some ⟨d, 0, none⟩)) ∧ u.cell? ⟨q3, 1, none⟩ = some (.int .i64 ob)) W4 := HS2.out
 go_wp2_with fail
 clear O
 refine N.out _ _ hZ fun O => ?_
 clear N K hZ
 try simp only [zz]
 refine tk 8 ?_
 refine tk 9 ?_
 refine tk 10 ?_
 refine tk 11 ?_
 refine tk 12 ?_
 refine td ?_
 clear O HS2d
 go_wp2_with (go_at_call 11; refine (no_any' _ _).mono ?_; rintro e v0 ⟨rfl, hv0⟩; subst v0)
 go_ret
 exact ⟨by simp, HB0.out.fxb (below_trans HBW.out HW4.out)⟩
end Go.Proofs.Ytadlkikjfonkgaa
