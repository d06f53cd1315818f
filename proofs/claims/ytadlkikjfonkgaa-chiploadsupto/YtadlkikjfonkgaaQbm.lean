/-
  SEAT Ytadlkikjfonkgaa: Xx, Vb.
-/
import Derived.Test.YtadlkikjfonkgaaQa
import Derived.Test.YtadlkikjfonkgaaQbl
import Derived.Test.YtadlkikjfonkgaaQl
import Derived.Test.YtadlkikjfonkgaaQq
import Derived.Test.YtadlkikjfonkgaaQbh
import Derived.Test.YtadlkikjfonkgaaQx
import Derived.Test.YtadlkikjfonkgaaQn
namespace Go.Proofs.Ytadlkikjfonkgaa
open Go.RowKit Go.Conc
set_option linter.unusedVariables false
set_option maxRecDepth 100000
set_option maxHeartbeats 4000000
variable {w0 w w' : World} {F : Nat → Prop} {C : Ch} {B e n : Nat} {xs : List Value}
theorem RefAt.look {p : Nat} {fs : List Fc} (h : RefAt w0 w p F C fs) : w.cell? ⟨p, 0, none⟩ = some (.int .i64 (C.B : Int)) ∧ w.cell? ⟨p, 1, none⟩ = some (.int .i64 (C.P : Int)) ∧ w.cell? ⟨p, 2, none⟩ = some (.int .i64 (C.S : Int)) ∧ w.cell? ⟨p, 5, none⟩ = some (.bool C.dark) ∧ w.cell? ⟨p, 6, none⟩ = some (.int .i64 (C.cnt : Int)) := by
 obtain ⟨x, rs, h⟩ := h
 have h1 := h.geo
 have h5 := h.box.c5
 have h6 := h.box.c6
 rw [h.dark] at h5
 rw [h.cnt] at h6
 exact ⟨h1.1, h1.2.1, h1.2.2, h5, h6⟩
theorem TwoAt.fxb {b p d : Nat} {Fp Fd : Nat → Prop} {fs : List Fc} (h : TwoAt w0 w' b p d F Fp Fd C fs) (ho : Only F w w') (h0 : w0.heap.size ≤ w.heap.size) : BothAt w0 w' b (Fx F w w') C fs ∧ Only F w w' := by
 have h1 := h.lim _ h.fb
 refine ⟨h.both.grow (fun _ e => Or.inl e) (fun k hk => ?_), ho⟩
 have h3 := ho.size
 rcases hk with e | e
 ·exact h.lim k e
 ·exact ⟨by
   have h4 := e.1
   omega, e.2⟩
theorem plays0_any (w0 w : World) (b : Nat) (F : Nat → Prop) (C : Ch) (fs : List Fc) (h : BothAt w0 w b F C fs) (ok : Int) (hk : ok < 1 ∨ 9 < ok) (ob op bit : Int) (fit : Bool) (da : Option Addr) (dn dc : Nat) (za : Option Addr) (zn zc : Nat) (bk : Value) :
  Calls Try.prog 34 #[.pointer (some ⟨b, 0, none⟩), .agg #[.int .i64 ok, .int .i64 ob, .int .i64 op, .int .i64 bit, .bool fit, .slice da dn dc, .slice za zn zc], bk] w fun e w' => e = .returned (.bool true) ∧ BothAt w0 w' b (Fx F w w') C fs ∧ Only F w w' := by
 obtain ⟨p, d, Fp, Fd, hbx, hch, hrf, hp1, hd1, hbF, hFf⟩ := h
 have HTw : Hid (TwoAt w0 w b p d F Fp Fd C fs) := ⟨hbx, hch, hrf, hp1, hd1, hbF, hFf⟩
 clear hbx hch hrf hp1 hd1 hbF hFf
 have d1 : decide (ok = 1) = false := decide_eq_false (by omega)
 have d2 : decide (ok = 2) = false := decide_eq_false (by omega)
 have d3 : decide (ok = 3) = false := decide_eq_false (by omega)
 have d4 : decide (ok = 4) = false := decide_eq_false (by omega)
 have d5 : decide (ok = 5) = false := decide_eq_false (by omega)
 have d6 : decide (ok = 6) = false := decide_eq_false (by omega)
 have d7 : decide (ok = 7) = false := decide_eq_false (by omega)
 have d8 : decide (ok = 8) = false := decide_eq_false (by omega)
 have d9 : decide (ok = 9) = false := decide_eq_false (by omega)
 have HT0 := J (HTw.out.below (below_alloc w (.cells #[.int .i64 ok, .int .i64 ob, .int .i64 op, .int .i64 bit, .bool fit, .slice da dn dc, .slice za zn zc] 56)))
 have HO0 : Hid (Only F w (w.alloc (.cells #[.int .i64 ok, .int .i64 ob, .int .i64 op, .int .i64 bit, .bool fit, .slice da dn dc, .slice za zn zc] 56))) := Only.ofB (below_alloc w (.cells #[.int .i64 ok, .int .i64 ob, .int .i64 op, .int .i64 bit, .bool fit, .slice da dn dc, .slice za zn zc] 56))
 go_enter Try.func34, Try.ntmps34
 go_upto_region 33 with fail
 obtain ⟨W1, hW1⟩ : ∃ x, (w.alloc (.cells #[.int .i64 ok, .int .i64 ob, .int .i64 op, .int .i64 bit, .bool fit, .slice da dn dc, .slice za zn zc] 56)).drew = x := ⟨_, rfl⟩
 have HW1 := J (show Below (w.alloc (.cells #[.int .i64 ok, .int .i64 ob, .int .i64 op, .int .i64 bit, .bool fit, .slice da dn dc, .slice za zn zc] 56)).heap.size (w.alloc (.cells #[.int .i64 ok, .int .i64 ob, .int .i64 op, .int .i64 bit, .bool fit, .slice da dn dc, .slice za zn zc] 56)) W1 by rw [← hW1]; exact drew_below _)
 have HT1 := J (HT0.out.below HW1.out)
 have HS0 : Hid (∀ u, TwoAt w0 u b p d F Fp Fd C fs → (fun u => TwoAt w0 u b p d F Fp Fd C fs ∧ u.cell? ⟨b, 0, none⟩ = some (.pointer (some ⟨p, 0, none⟩)) ∧ u.cell? ⟨b, 1, none⟩ = some (.pointer (some ⟨d, 0, none⟩)) ∧ u.cell? ⟨d, 0, none⟩ = some (.int .i64 (C.B : Int)) ∧ u.cell? ⟨d, 1, none⟩ = some (.int .i64 (C.P : Int)) ∧ u.cell? ⟨d, 2, none⟩ = some (.int .i64 (C.S : Int)) ∧ u.cell? ⟨d, 5, none⟩ = some (.bool C.dark) ∧ u.cell? ⟨d, 6, none⟩ = some (.int .i64 (C.cnt : Int))) u) := fun u h => ⟨h, (cells2 h.box).1, (cells2 h.box).2, h.rf.look⟩
 have HS1 : Hid ((fun u => TwoAt w0 u b p d F Fp Fd C fs ∧ u.cell? ⟨b, 0, none⟩ = some (.pointer (some ⟨p, 0, none⟩)) ∧ u.cell? ⟨b, 1, none⟩ = some (.pointer (some ⟨d, 0, none⟩)) ∧ u.cell? ⟨d, 0, none⟩ = some (.int .i64 (C.B : Int)) ∧ u.cell? ⟨d, 1, none⟩ = some (.int .i64 (C.P : Int)) ∧ u.cell? ⟨d, 2, none⟩ = some (.int .i64 (C.S : Int)) ∧ u.cell? ⟨d, 5, none⟩ = some (.bool C.dark) ∧ u.cell? ⟨d, 6, none⟩ = some (.int .i64 (C.cnt : Int))) W1) := HS0.out W1 HT1.out
 have HS1d : Hid ((fun u => TwoAt w0 u b p d F Fp Fd C fs ∧ u.cell? ⟨b, 0, none⟩ = some (.pointer (some ⟨p, 0, none⟩)) ∧ u.cell? ⟨b, 1, none⟩ = some (.pointer (some ⟨d, 0, none⟩)) ∧ u.cell? ⟨d, 0, none⟩ = some (.int .i64 (C.B : Int)) ∧ u.cell? ⟨d, 1, none⟩ = some (.int .i64 (C.P : Int)) ∧ u.cell? ⟨d, 2, none⟩ = some (.int .i64 (C.S : Int)) ∧ u.cell? ⟨d, 5, none⟩ = some (.bool C.dark) ∧ u.cell? ⟨d, 6, none⟩ = some (.int .i64 (C.cnt : Int))) (w.alloc (.cells #[.int .i64 ok, .int .i64 ob, .int .i64 op, .int .i64 bit, .bool fit, .slice da dn dc, .slice za zn zc] 56)).drew) := by rw [hW1]; exact HS1.out
 refine wp_region_held_drew (S := (fun u => TwoAt w0 u b p d F Fp Fd C fs ∧ u.cell? ⟨b, 0, none⟩ = some (.pointer (some ⟨p, 0, none⟩)) ∧ u.cell? ⟨b, 1, none⟩ = some (.pointer (some ⟨d, 0, none⟩)) ∧ u.cell? ⟨d, 0, none⟩ = some (.int .i64 (C.B : Int)) ∧ u.cell? ⟨d, 1, none⟩ = some (.int .i64 (C.P : Int)) ∧ u.cell? ⟨d, 2, none⟩ = some (.int .i64 (C.S : Int)) ∧ u.cell? ⟨d, 5, none⟩ = some (.bool C.dark) ∧ u.cell? ⟨d, 6, none⟩ = some (.int .i64 (C.cnt : Int)))) (by kernel_rfl) (HS1d.out) fun O => ?_
 rw [hW1] at O ⊢
 refine tk 0 ?_
 refine tk 1 ?_
 refine tk 2 ?_
 refine tk 3 ?_
 refine tk 5 ?_
 refine tk 6 ?_
 refine tk 7 ?_
 refine tk 8 ?_
 refine tk 9 ?_
 refine tk 10 ?_
 refine tk 11 ?_
 refine rd 4 fun K N => ?_
 go_simp
 go_at_call 17
 refine (Dark_any W1 p Fp C HT1.out.ch).mono ?_
 rintro e u9 ⟨rfl, hu9⟩
 subst u9
 have hZ : (fun u => TwoAt w0 u b p d F Fp Fd C fs ∧ u.cell? ⟨b, 0, none⟩ = some (.pointer (some ⟨p, 0, none⟩)) ∧ u.cell? ⟨b, 1, none⟩ = some (.pointer (some ⟨d, 0, none⟩)) ∧ u.cell? ⟨d, 0, none⟩ = some (.int .i64 (C.B : Int)) ∧ u.cell? ⟨d, 1, none⟩ = some (.int .i64 (C.P : Int)) ∧ u.cell? ⟨d, 2, none⟩ = some (.int .i64 (C.S : Int)) ∧ u.cell? ⟨d, 5, none⟩ = some (.bool C.dark) ∧ u.cell? ⟨d, 6, none⟩ = some (.int .i64 (C.cnt : Int))) W1 := HS1.out
 go_wp2_with fail
 clear O
 refine N.out _ _ hZ fun O => ?_
 clear N K hZ
 try simp only [zz]
 refine tk 12 ?_
 refine tk 13 ?_
 refine tk 14 ?_
 refine tk 15 ?_
 refine tk 16 ?_
 refine tk 17 ?_
 refine tk 19 ?_
 refine tk 20 ?_
 refine tk 21 ?_
 refine tk 22 ?_
 refine tk 23 ?_
 refine tk 24 ?_
 refine tk 25 ?_
 refine rd 18 fun K N => ?_
 go_simp
 go_at_call 18
 refine (Count_any W1 p Fp C HT1.out.ch).mono ?_
 rintro e u9 ⟨rfl, hu9⟩
 subst u9
 have hZ : (fun u => TwoAt w0 u b p d F Fp Fd C fs ∧ u.cell? ⟨b, 0, none⟩ = some (.pointer (some ⟨p, 0, none⟩)) ∧ u.cell? ⟨b, 1, none⟩ = some (.pointer (some ⟨d, 0, none⟩)) ∧ u.cell? ⟨d, 0, none⟩ = some (.int .i64 (C.B : Int)) ∧ u.cell? ⟨d, 1, none⟩ = some (.int .i64 (C.P : Int)) ∧ u.cell? ⟨d, 2, none⟩ = some (.int .i64 (C.S : Int)) ∧ u.cell? ⟨d, 5, none⟩ = some (.bool C.dark) ∧ u.cell? ⟨d, 6, none⟩ = some (.int .i64 (C.cnt : Int))) W1 := HS1.out
 go_wp2_with fail
 clear O
 refine N.out _ _ hZ fun O => ?_
 clear N K hZ
 try simp only [zz]
 refine tk 26 ?_
 refine tk 27 ?_
 refine tk 28 ?_
 refine tk 29 ?_
 refine tk 30 ?_
 refine tk 31 ?_
 refine tk 32 ?_
 refine tk 34 ?_
 refine tk 35 ?_
 refine tk 36 ?_
 refine tk 37 ?_
 refine tk 38 ?_
 refine tk 39 ?_
 refine tk 40 ?_
 refine rd 33 fun K N => ?_
 go_simp
 go_at_call 60
 refine (geometry_any W1 p Fp C HT1.out.ch).mono ?_
 rintro e u9 ⟨rfl, hu9⟩
 have HU9 := J hu9
 have hZ : (fun u => TwoAt w0 u b p d F Fp Fd C fs ∧ u.cell? ⟨b, 0, none⟩ = some (.pointer (some ⟨p, 0, none⟩)) ∧ u.cell? ⟨b, 1, none⟩ = some (.pointer (some ⟨d, 0, none⟩)) ∧ u.cell? ⟨d, 0, none⟩ = some (.int .i64 (C.B : Int)) ∧ u.cell? ⟨d, 1, none⟩ = some (.int .i64 (C.P : Int)) ∧ u.cell? ⟨d, 2, none⟩ = some (.int .i64 (C.S : Int)) ∧ u.cell? ⟨d, 5, none⟩ = some (.bool C.dark) ∧ u.cell? ⟨d, 6, none⟩ = some (.int .i64 (C.cnt : Int))) u9 := HS0.out u9 (HT1.out.below hu9)
 clear hu9
 go_wp2_with fail
 clear O
 refine N.out _ _ hZ fun O => ?_
 clear N K hZ
 try simp only [zz]
 refine tk 41 ?_
 refine tk 42 ?_
 refine tk 43 ?_
 refine td ?_
 clear O
 go_wp2
 go_ret
 exact ⟨by simp, TwoAt.fxb (HT1.out.below HU9.out) ((HO0.out.trans (Only.ofB (F := F) HW1.out) (fun _ _ e => e)).trans (Only.ofB (F := F) HU9.out) (fun _ _ e => e)) (by have := HTw.out.lim _ HTw.out.fb; omega)⟩
theorem plays5_any (w0 w : World) (b : Nat) (F : Nat → Prop) (C : Ch) (fs : List Fc) (h : BothAt w0 w b F C fs)  (ob op bit : Int) (fit : Bool) (da : Option Addr) (dn dc : Nat) (za : Option Addr) (zn zc : Nat) (bk : Value) :
  Calls Try.prog 34 #[.pointer (some ⟨b, 0, none⟩), .agg #[.int .i64 5, .int .i64 ob, .int .i64 op, .int .i64 bit, .bool fit, .slice da dn dc, .slice za zn zc], bk] w fun e w' => e = .returned (.bool true) ∧ BothAt w0 w' b (Fx F w w') { C with dark := false } fs ∧ Only F w w' := by
 obtain ⟨p, d, Fp, Fd, hbx, hch, hrf, hp1, hd1, hbF, hFf⟩ := h
 have HTw : Hid (TwoAt w0 w b p d F Fp Fd C fs) := ⟨hbx, hch, hrf, hp1, hd1, hbF, hFf⟩
 clear hbx hch hrf hp1 hd1 hbF hFf
 have HT8 := J (HTw.out.below (below_alloc w (.cells #[.int .i64 5, .int .i64 ob, .int .i64 op, .int .i64 bit, .bool fit, .slice da dn dc, .slice za zn zc] 56)))
 have HO8 : Hid (Only F w (w.alloc (.cells #[.int .i64 5, .int .i64 ob, .int .i64 op, .int .i64 bit, .bool fit, .slice da dn dc, .slice za zn zc] 56))) := Only.ofB (below_alloc w (.cells #[.int .i64 5, .int .i64 ob, .int .i64 op, .int .i64 bit, .bool fit, .slice da dn dc, .slice za zn zc] 56))
 obtain ⟨x0, x1⟩ := cells2 HT8.out.box
 go_enter Try.func34, Try.ntmps34
 go_upto_region 15 with (go_at_call 25; refine (On_any _ p Fp C HT8.out.ch).mono ?_; rintro e u3 ⟨rfl, hc3, ho3⟩)
 have HC3 := J hc3
 have HO3 := J ho3
 have HH3 := J (HT8.out.half (Below.refl _ _) ho3 (Below.refl _ _))
 clear hc3 ho3 x0 x1
 obtain ⟨x0, x1⟩ := cells2 HH3.out.2
 go_upto_region 33 with (go_at_call 69; refine (rOn_any w0 _ d Fd C fs HH3.out.1).mono ?_; rintro e u4 ⟨rfl, hc4, ho4⟩)
 clear x0 x1
 have HT0 : Hid (TwoAt w0 u4 b p d F Fp Fd { C with dark := false } fs) := ⟨(ho4.block _ (lt_of_block HH3.out.2) (fun e => (HTw.out.fd _ e).2 rfl)).trans HH3.out.2, HC3.out.only ho4 (fun k hk e => (HTw.out.fp k hk).2.1 e), hc4, HTw.out.fp, HTw.out.fd, HTw.out.fb, fun k hk => ⟨(HTw.out.lim k hk).1, Nat.lt_of_lt_of_le (HTw.out.lim k hk).2 (Nat.le_trans HO8.out.size (Nat.le_trans HO3.out.size ho4.size))⟩⟩
 have HO0 : Hid (Only F w u4) := (HO8.out.trans HO3.out (fun k _ e => (HTw.out.fp k e).1)).trans ho4 (fun k _ e => (HTw.out.fd k e).1)
 clear hc4 ho4
 obtain ⟨W1, hW1⟩ : ∃ x, u4.drew = x := ⟨_, rfl⟩
 have HW1 := J (show Below u4.heap.size u4 W1 by rw [← hW1]; exact drew_below _)
 have HT1 := J (HT0.out.below HW1.out)
 have HS0 : Hid (∀ u, TwoAt w0 u b p d F Fp Fd ({ C with dark := false } : Ch) fs → (fun u => TwoAt w0 u b p d F Fp Fd ({ C with dark := false } : Ch) fs ∧ u.cell? ⟨b, 0, none⟩ = some (.pointer (some ⟨p, 0, none⟩)) ∧ u.cell? ⟨b, 1, none⟩ = some (.pointer (some ⟨d, 0, none⟩)) ∧ u.cell? ⟨d, 0, none⟩ = some (.int .i64 (({ C with dark := false } : Ch).B : Int)) ∧ u.cell? ⟨d, 1, none⟩ = some (.int .i64 (({ C with dark := false } : Ch).P : Int)) ∧ u.cell? ⟨d, 2, none⟩ = some (.int .i64 (({ C with dark := false } : Ch).S : Int)) ∧ u.cell? ⟨d, 5, none⟩ = some (.bool ({ C with dark := false } : Ch).dark) ∧ u.cell? ⟨d, 6, none⟩ = some (.int .i64 (({ C with dark := false } : Ch).cnt : Int))) u) := fun u h => ⟨h, (cells2 h.box).1, (cells2 h.box).2, h.rf.look⟩
 have HS1 : Hid ((fun u => TwoAt w0 u b p d F Fp Fd ({ C with dark := false } : Ch) fs ∧ u.cell? ⟨b, 0, none⟩ = some (.pointer (some ⟨p, 0, none⟩)) ∧ u.cell? ⟨b, 1, none⟩ = some (.pointer (some ⟨d, 0, none⟩)) ∧ u.cell? ⟨d, 0, none⟩ = some (.int .i64 (({ C with dark := false } : Ch).B : Int)) ∧ u.cell? ⟨d, 1, none⟩ = some (.int .i64 (({ C with dark := false } : Ch).P : Int)) ∧ u.cell? ⟨d, 2, none⟩ = some (.int .i64 (({ C with dark := false } : Ch).S : Int)) ∧ u.cell? ⟨d, 5, none⟩ = some (.bool ({ C with dark := false } : Ch).dark) ∧ u.cell? ⟨d, 6, none⟩ = some (.int .i64 (({ C with dark := false } : Ch).cnt : Int))) W1) := HS0.out W1 HT1.out
 have HS1d : Hid ((fun u => TwoAt w0 u b p d F Fp Fd ({ C with dark := false } : Ch) fs ∧ u.cell? ⟨b, 0, none⟩ = some (.pointer (some ⟨p, 0, none⟩)) ∧ u.cell? ⟨b, 1, none⟩ = some (.pointer (some ⟨d, 0, none⟩)) ∧ u.cell? ⟨d, 0, none⟩ = some (.int .i64 (({ C with dark := false } : Ch).B : Int)) ∧ u.cell? ⟨d, 1, none⟩ = some (.int .i64 (({ C with dark := false } : Ch).P : Int)) ∧ u.cell? ⟨d, 2, none⟩ = some (.int .i64 (({ C with dark := false } : Ch).S : Int)) ∧ u.cell? ⟨d, 5, none⟩ = some (.bool ({ C with dark := false } : Ch).dark) ∧ u.cell? ⟨d, 6, none⟩ = some (.int .i64 (({ C with dark := false } : Ch).cnt : Int))) u4.drew) := by rw [hW1]; exact HS1.out
 refine wp_region_held_drew (S := (fun u => TwoAt w0 u b p d F Fp Fd ({ C with dark := false } : Ch) fs ∧ u.cell? ⟨b, 0, none⟩ = some (.pointer (some ⟨p, 0, none⟩)) ∧ u.cell? ⟨b, 1, none⟩ = some (.pointer (some ⟨d, 0, none⟩)) ∧ u.cell? ⟨d, 0, none⟩ = some (.int .i64 (({ C with dark := false } : Ch).B : Int)) ∧ u.cell? ⟨d, 1, none⟩ = some (.int .i64 (({ C with dark := false } : Ch).P : Int)) ∧ u.cell? ⟨d, 2, none⟩ = some (.int .i64 (({ C with dark := false } : Ch).S : Int)) ∧ u.cell? ⟨d, 5, none⟩ = some (.bool ({ C with dark := false } : Ch).dark) ∧ u.cell? ⟨d, 6, none⟩ = some (.int .i64 (({ C with dark := false } : Ch).cnt : Int)))) (by kernel_rfl) (HS1d.out) fun O => ?_
 rw [hW1] at O ⊢
 refine tk 0 ?_
 refine tk 1 ?_
 refine tk 2 ?_
 refine tk 3 ?_
 refine tk 5 ?_
 refine tk 6 ?_
 refine tk 7 ?_
 refine tk 8 ?_
 refine tk 9 ?_
 refine tk 10 ?_
 refine tk 11 ?_
 refine rd 4 fun K N => ?_
 go_simp
 go_at_call 17
 refine (Dark_any W1 p Fp ({ C with dark := false } : Ch) HT1.out.ch).mono ?_
 rintro e u9 ⟨rfl, hu9⟩
 subst u9
 have hZ : (fun u => TwoAt w0 u b p d F Fp Fd ({ C with dark := false } : Ch) fs ∧ u.cell? ⟨b, 0, none⟩ = some (.pointer (some ⟨p, 0, none⟩)) ∧ u.cell? ⟨b, 1, none⟩ = some (.pointer (some ⟨d, 0, none⟩)) ∧ u.cell? ⟨d, 0, none⟩ = some (.int .i64 (({ C with dark := false } : Ch).B : Int)) ∧ u.cell? ⟨d, 1, none⟩ = some (.int .i64 (({ C with dark := false } : Ch).P : Int)) ∧ u.cell? ⟨d, 2, none⟩ = some (.int .i64 (({ C with dark := false } : Ch).S : Int)) ∧ u.cell? ⟨d, 5, none⟩ = some (.bool ({ C with dark := false } : Ch).dark) ∧ u.cell? ⟨d, 6, none⟩ = some (.int .i64 (({ C with dark := false } : Ch).cnt : Int))) W1 := HS1.out
 go_wp2_with fail
 clear O
 refine N.out _ _ hZ fun O => ?_
 clear N K hZ
 try simp only [zz]
 refine tk 12 ?_
 refine tk 13 ?_
 refine tk 14 ?_
 refine tk 15 ?_
 refine tk 16 ?_
 refine tk 17 ?_
 refine tk 19 ?_
 refine tk 20 ?_
 refine tk 21 ?_
 refine tk 22 ?_
 refine tk 23 ?_
 refine tk 24 ?_
 refine tk 25 ?_
 refine rd 18 fun K N => ?_
 go_simp
 go_at_call 18
 refine (Count_any W1 p Fp ({ C with dark := false } : Ch) HT1.out.ch).mono ?_
 rintro e u9 ⟨rfl, hu9⟩
 subst u9
 have hZ : (fun u => TwoAt w0 u b p d F Fp Fd ({ C with dark := false } : Ch) fs ∧ u.cell? ⟨b, 0, none⟩ = some (.pointer (some ⟨p, 0, none⟩)) ∧ u.cell? ⟨b, 1, none⟩ = some (.pointer (some ⟨d, 0, none⟩)) ∧ u.cell? ⟨d, 0, none⟩ = some (.int .i64 (({ C with dark := false } : Ch).B : Int)) ∧ u.cell? ⟨d, 1, none⟩ = some (.int .i64 (({ C with dark := false } : Ch).P : Int)) ∧ u.cell? ⟨d, 2, none⟩ = some (.int .i64 (({ C with dark := false } : Ch).S : Int)) ∧ u.cell? ⟨d, 5, none⟩ = some (.bool ({ C with dark := false } : Ch).dark) ∧ u.cell? ⟨d, 6, none⟩ = some (.int .i64 (({ C with dark := false } : Ch).cnt : Int))) W1 := HS1.out
 go_wp2_with fail
 clear O
 refine N.out _ _ hZ fun O => ?_
 clear N K hZ
 try simp only [zz]
 refine tk 26 ?_
 refine tk 27 ?_
 refine tk 28 ?_
 refine tk 29 ?_
 refine tk 30 ?_
 refine tk 31 ?_
 refine tk 32 ?_
 refine tk 34 ?_
 refine tk 35 ?_
 refine tk 36 ?_
 refine tk 37 ?_
 refine tk 38 ?_
 refine tk 39 ?_
 refine tk 40 ?_
 refine rd 33 fun K N => ?_
 go_simp
 go_at_call 60
 refine (geometry_any W1 p Fp ({ C with dark := false } : Ch) HT1.out.ch).mono ?_
 rintro e u9 ⟨rfl, hu9⟩
 have HU9 := J hu9
 have hZ : (fun u => TwoAt w0 u b p d F Fp Fd ({ C with dark := false } : Ch) fs ∧ u.cell? ⟨b, 0, none⟩ = some (.pointer (some ⟨p, 0, none⟩)) ∧ u.cell? ⟨b, 1, none⟩ = some (.pointer (some ⟨d, 0, none⟩)) ∧ u.cell? ⟨d, 0, none⟩ = some (.int .i64 (({ C with dark := false } : Ch).B : Int)) ∧ u.cell? ⟨d, 1, none⟩ = some (.int .i64 (({ C with dark := false } : Ch).P : Int)) ∧ u.cell? ⟨d, 2, none⟩ = some (.int .i64 (({ C with dark := false } : Ch).S : Int)) ∧ u.cell? ⟨d, 5, none⟩ = some (.bool ({ C with dark := false } : Ch).dark) ∧ u.cell? ⟨d, 6, none⟩ = some (.int .i64 (({ C with dark := false } : Ch).cnt : Int))) u9 := HS0.out u9 (HT1.out.below hu9)
 clear hu9
 go_wp2_with fail
 clear O
 refine N.out _ _ hZ fun O => ?_
 clear N K hZ
 try simp only [zz]
 refine tk 41 ?_
 refine tk 42 ?_
 refine tk 43 ?_
 refine td ?_
 clear O
 go_wp2
 go_ret
 exact ⟨by simp, TwoAt.fxb (HT1.out.below HU9.out) ((HO0.out.trans (Only.ofB (F := F) HW1.out) (fun _ _ e => e)).trans (Only.ofB (F := F) HU9.out) (fun _ _ e => e)) (by have := HTw.out.lim _ HTw.out.fb; omega)⟩
theorem info45b : (Try.prog.info? 45).map (fun i => (i.zero, i.size, i.bytes)) = some (some (.slice none 0 0), 1, 24) := by kernel_rfl
theorem own_sl {s : Nat} {v : Value} (h : w.ownsRow B e s v n xs) : ∃ a c, v = .slice a n c := by
 rcases h.2 with ⟨h1, h2⟩ | ⟨g, cap, cur, h1, _⟩
 ·exact ⟨none, 0, by rw [h1, h2]⟩
 ·exact ⟨_, cap, h1⟩
theorem owns_dn {B' s : Nat} {v : Value} (h : w.ownsRow B e s v n xs) (hb : B' ≤ B) : w.ownsRow B' e s v n xs :=
 ⟨h.1, h.2.imp id (fun ⟨g, cap, cur, h1, h2, h3⟩ => ⟨g, cap, cur, h1, Nat.le_trans hb h2, h3⟩)⟩
theorem BothAt.only {b : Nat} {H : Nat → Prop} {fs : List Fc} (h : BothAt w0 w b F C fs) (ho : Only H w w') (hd : ∀ j, F j → ¬ H j) (hl : ∀ j, H j → w0.heap.size ≤ j) : BothAt w0 w' b F C fs := by
 obtain ⟨p, d, Fp, Fd, hbx, hch, hrf, hp1, hd1, hbF, hFf⟩ := h
 exact ⟨p, d, Fp, Fd, (ho.block _ (lt_of_block hbx) (hd _ hbF)).trans hbx, hch.only ho (fun j hj => hd j (hp1 j hj).1), hrf.only ho (fun j hj => hd j (hd1 j hj).1) hl, hp1, hd1, hbF, fun j hj => ⟨(hFf j hj).1, Nat.lt_of_lt_of_le (hFf j hj).2 ho.size⟩⟩
theorem plays8_any (w0 w : World) (b : Nat) (F : Nat → Prop) (C : Ch) (fs : List Fc) (h : BothAt w0 w b F C fs) (htr : C.tr.length ≤ 3000000000000) (B k : Nat) (G : Nat → Prop) (P M T : List Rw) (hbk : BookAt w B k G P M T) (hl : T.length ≤ 1000000000000) (hB : w0.heap.size ≤ B) (hFG : ∀ j, F j → ¬ G j) (ob op bit : Int) (fit : Bool) (da : Option Addr) (dn dc : Nat) (za : Option Addr) (zn zc : Nat) :
  Calls Try.prog 34 #[.pointer (some ⟨b, 0, none⟩), .agg #[.int .i64 8, .int .i64 ob, .int .i64 op, .int .i64 bit, .bool fit, .slice da dn dc, .slice za zn zc], .pointer (some ⟨k, 0, none⟩)] w fun e w' => e = .returned (.bool true) ∧ BothAt w0 w' b F C fs ∧ Only G w w' ∧ ∃ r G', BookAt w' B k G' P M (T ++ [r]) ∧ r.n = C.tr.length ∧ (∀ j, G' j → G j ∨ w.heap.size ≤ j) := by
 obtain ⟨i0, hi, hz0, hz1, hz2⟩ := info_parts info45b
 have HBO := J h
 obtain ⟨p, d, Fp, Fd, hbx, hch, ⟨x, rs, hr⟩, hp1, hd1, hbF, hFf⟩ := h
 have HTw : Hid (TwoAt w0 w b p d F Fp Fd C fs) := ⟨hbx, hch, ⟨x, rs, hr⟩, hp1, hd1, hbF, hFf⟩
 have HRA := J hr
 have HBK := J hbk
 have HFG := J hFG
 have hTL := hr.tl
 have c7 := hr.box.c7
 have trr := hr.tr
 rw [hTL] at c7 trr
 have HC7 := J c7
 have HTR := J trr
 have HT1 := J (HTw.out.below (below_alloc w (.cells #[.int .i64 8, .int .i64 ob, .int .i64 op, .int .i64 bit, .bool fit, .slice da dn dc, .slice za zn zc] 56)))
 obtain ⟨vp, vm, vt, hk0, hrp, hrm, hrt⟩ := hbk.ex
 have HK0 := J hk0
 have HRT := J hrt
 clear hbx hch hr hp1 hd1 hbF hFf hbk hFG hTL c7 trr hk0 hrp hrm hrt
 obtain ⟨x0, x1⟩ := cells2 HT1.out.box
 go_enter Try.func34, Try.ntmps34
 go_upto_region 27 with (go_at_call 19; refine (Trace_any _ p Fp C HT1.out.ch (by omega)).mono ?_; rintro e u3 ⟨v, rfl, hov, hb3⟩; obtain ⟨ta, tc, rfl⟩ := own_sl hov)
 clear x0 x1
 have HOV := J hov
 have HB3 := J (below_trans (below_alloc w (.cells #[.int .i64 8, .int .i64 ob, .int .i64 op, .int .i64 bit, .bool fit, .slice da dn dc, .slice za zn zc] 56)) hb3)
 clear hov hb3
 have HBA := J (below_alloc u3 (.cells #[.slice ta C.tr.length tc] 45))
 have HBW := J (below_trans HB3.out HBA.out)
 have HNX := J (alloc_new u3 (.cells #[.slice ta C.tr.length tc] 45))
 have HRP : Hid ((u3.alloc (.cells #[.slice ta C.tr.length tc] 45)).ownsRow B 45 1 vt T.length (T.map Rw.v)) := owns_bel HRT.out.row HBW.out
 have HKU := J ((HBW.out.block k (lt_of_block HK0.out)).trans HK0.out)
 have HNK : Hid (∀ j, vt.ownBlock = some j → j ≠ k) := fun j hj e => by obtain ⟨cs, hc⟩ := own_tag HRT.out.row hj; rw [e, HK0.out] at hc; cases hc
 obtain ⟨k0, k1, k2⟩ := cells3 ((HB3.out.block k (lt_of_block HK0.out)).trans HK0.out)
 go_upto_region 28 with (at_builtin; refine wpList_append_lies _ rfl (.tmp 182) (.tmp 184) 74 rfl B 45 i0 (.slice none 0 0) 1 24 Try.underlying74 hi hz0 hz1 hz2 rfl (by decide) vt T.length (T.map Rw.v) rfl HRP.out ⟨u3.heap.size, 0, none⟩ 1 1 [.slice ta C.tr.length tc] rfl rfl (news1 HNX.out) (by intro u hu; simp at hu; subst hu; rfl) (by decide) (by simp [maxLen]; omega) (by omega) (Nat.le_trans (Nat.le_trans (HBK.out.lim k HBK.out.gk).1 (Nat.le_of_lt (HBK.out.lim k HBK.out.gk).2)) HBW.out.size) _ rfl ?_; intro gn cn Y own grow lies _; have HOW := J own; have HG := J grow; have HLI := J lies; have HKY := J ((HG.out.block k (lt_of_block HKU.out) (fun e => HNK.out k e.symm rfl)).trans HKU.out); have fz0 := fun j => frozen_of_row Y k j _ 76 HKY.out; obtain ⟨e0, e1, e2⟩ := cells3 HKY.out; clear own grow lies)
 have hov : (u3.alloc (.cells #[.slice ta C.tr.length tc] 45)).ownsRow (w.alloc (.cells #[.int .i64 8, .int .i64 ob, .int .i64 op, .int .i64 bit, .bool fit, .slice da dn dc, .slice za zn zc] 56)).heap.size 120 4 (.slice ta C.tr.length tc) C.tr.length (C.tr.flatMap Cmd.cells) := owns_bel HOV.out HBA.out
 have hvG : ∀ j, (Value.slice ta C.tr.length tc).ownBlock = some j → ¬ G j := fun j hj hg => by
  have h1 := HOV.out.lt j hj
  have h2 := (HBK.out.lim j hg).2
  have h3 : w.heap.size ≤ (w.alloc (.cells #[.int .i64 8, .int .i64 ob, .int .i64 op, .int .i64 bit, .bool fit, .slice da dn dc, .slice za zn zc] 56)).heap.size := (below_alloc w (.cells #[.int .i64 8, .int .i64 ob, .int .i64 op, .int .i64 bit, .bool fit, .slice da dn dc, .slice za zn zc] 56)).size
  omega
 have HBK3 := J (HBK.out.below HB3.out)
 have hBu : B ≤ (w.alloc (.cells #[.int .i64 8, .int .i64 ob, .int .i64 op, .int .i64 bit, .bool fit, .slice da dn dc, .slice za zn zc] 56)).heap.size := Nat.le_trans (Nat.le_trans (HBK.out.lim k HBK.out.gk).1 (Nat.le_of_lt (HBK.out.lim k HBK.out.gk).2)) (below_alloc w (.cells #[.int .i64 8, .int .i64 ob, .int .i64 op, .int .i64 bit, .bool fit, .slice da dn dc, .slice za zn zc] 56)).size
 have hA := HBK3.out.addT (L := [⟨ta, C.tr.length, tc, C.tr.flatMap Cmd.cells⟩]) HBA.out ((HB3.out.block k (lt_of_block HK0.out)).trans HK0.out) HOW.out HG.out (HLI.out.imp id (fun e => by rw [e]; simp)) rfl (by intro r hr; simp at hr; subst hr; exact owns_dn HOV.out hBu) (List.pairwise_singleton _ _) (by intro r hr; simp at hr; subst hr; exact hvG)
 have HA := J hA
 clear hA
 generalize hz : World.setCell Y ⟨k, 2, none⟩ _ = z at HA ⊢
 have HON : Hid (Only G w z) := (Only.ofB (F := G) HB3.out).trans HA.out.2 (fun _ _ e => e)
 have hbz : z.heap[b]? = some (.cells #[.pointer (some ⟨p, 0, none⟩), .pointer (some ⟨d, 0, none⟩)] 88 (0, 0)) := (HON.out.block _ (lt_of_block HTw.out.box) (HFG.out _ HTw.out.fb)).trans HTw.out.box
 have hFd : ∀ j, Fd j → ¬ G j := fun j hj => HFG.out j (HTw.out.fd j hj).1
 obtain ⟨y0, y1⟩ := cells2 hbz
 have y7 : z.cell? ⟨d, 7, none⟩ = some (.slice x.ta C.tr.length x.tc) := HON.out.cell HC7.out (hFd _ HRA.out.fp)
 have HO1 : Hid (z.ownsRow (w.alloc (.cells #[.int .i64 8, .int .i64 ob, .int .i64 op, .int .i64 bit, .bool fit, .slice da dn dc, .slice za zn zc] 56)).heap.size 120 4 (.slice ta C.tr.length tc) C.tr.length (C.tr.flatMap Cmd.cells)) := owns_keep HOV.out (fun g hg => by obtain ⟨cs, hc⟩ := own_tag HOV.out hg; exact HA.out.2.block g (lt_of_block hc) (hvG g hg))
 have HO2 : Hid (z.ownsRow 0 120 4 (.slice x.ta C.tr.length x.tc) C.tr.length (C.tr.flatMap Cmd.cells)) := owns_keep HTR.out (fun g hg => by obtain ⟨cs, hc⟩ := own_tag HTR.out hg; exact HON.out.block g (lt_of_block hc) (hFd g (HRA.out.ft g (by rw [HRA.out.tl]; exact hg))))
 clear hbz hov hvG hFd
 go_wp2_with (go_at_call 23; refine (sameTrace_eq z ta x.ta C.tr.length tc x.tc _ 0 C.tr HO1.out HO2.out (by omega)).mono ?_; rintro e u5 ⟨rfl, hb5⟩)
 go_ret
 have HON5 : Only G w u5 := HON.out.trans (Only.ofB (F := G) hb5) (fun _ _ e => e)
 refine ⟨rfl, HBO.out.only HON5 HFG.out (fun j hj => Nat.le_trans hB (HBK.out.lim j hj).1), HON5, _, _, HA.out.1.below hb5, rfl, fun j hj => ?_⟩
 have s3 := HB3.out.size
 rcases hj with e | ⟨r, hr, e⟩ | e
 ·exact Or.inl e
 ·simp at hr
  subst hr
  have h1 := HOV.out.lt j e
  have h3 : w.heap.size ≤ (w.alloc (.cells #[.int .i64 8, .int .i64 ob, .int .i64 op, .int .i64 bit, .bool fit, .slice da dn dc, .slice za zn zc] 56)).heap.size := (below_alloc w (.cells #[.int .i64 8, .int .i64 ob, .int .i64 op, .int .i64 bit, .bool fit, .slice da dn dc, .slice za zn zc] 56)).size
  exact Or.inr (by omega)
 ·exact Or.inr (by have := e.1; omega)
end Go.Proofs.Ytadlkikjfonkgaa
