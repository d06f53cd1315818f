/-
  SEAT Ytadlkikjfonkgaa: Vd.
-/
import Derived.Test.YtadlkikjfonkgaaQa
import Derived.Test.YtadlkikjfonkgaaQbm
import Derived.Test.YtadlkikjfonkgaaQu
import Derived.Test.YtadlkikjfonkgaaQr
import Derived.Test.YtadlkikjfonkgaaQl
namespace Go.Proofs.Ytadlkikjfonkgaa
open Go.RowKit Go.Conc
set_option linter.unusedVariables false
set_option maxRecDepth 100000
set_option maxHeartbeats 4000000
variable {D : List Int} {w : World} {B : Nat}
structure RgP (w v : World) (q : Nat) (C : Ch) (ob op : Int) (a1 : Option Addr) (m1 c1 : Nat) (a2 : Option Addr) (m2 c2 : Nat) (D Z : List Int) : Prop where
 box : v.heap[q]? = some (.cells #[.slice a1 m1 c1, .slice a2 m2 c2] 36 (0, 0))
 ge : w.heap.size ≤ q
 o1 : v.ownsRow w.heap.size 5 1 (.slice a1 m1 c1) m1 (D.map (Value.int .u8))
 o2 : v.ownsRow w.heap.size 5 1 (.slice a2 m2 c2) m2 (Z.map (Value.int .u8))
 ne : ∀ g, (Value.slice a1 m1 c1).ownBlock = some g → (Value.slice a2 m2 c2).ownBlock ≠ some g
 fin : if ReadE C ob op = 0 then m1 = 256 * C.S ∧ m2 = 54 + 3 * C.S ∧ D ++ Z = readL C ob.toNat op.toNat else m1 = 0 ∧ m2 = 0 ∧ D = [] ∧ Z = []
 bel : Below w.heap.size w v
structure RgR (w v : World) (q : Nat) (b1 : Option Addr) (m1 d1 : Nat) (b2 : Option Addr) (m2 d2 : Nat) (D Z : List Int) : Prop where
 box : v.heap[q]? = some (.cells #[.slice b1 m1 d1, .slice b2 m2 d2] 36 (0, 0))
 ge : w.heap.size ≤ q
 r1 : Reads v b1 m1 D
 r2 : Reads v b2 m2 Z
 new : ∀ y, (b1 = some y ∨ b2 = some y) → w.heap.size ≤ y.block
 bel : Below w.heap.size w v
theorem rd_eq {C : Ch} {pb pp : Int} {m1 m2 n1 n2 : Nat} {Z D2 Z2 : List Int} (hD : D.length = m1) (hD2 : D2.length = n1) (h : if ReadE C pb pp = 0 then m1 = 256 * C.S ∧ m2 = 54 + 3 * C.S ∧ D ++ Z = readL C pb.toNat pp.toNat else m1 = 0 ∧ m2 = 0 ∧ D = [] ∧ Z = [])
  (h2 : if ReadE C pb pp = 0 then n1 = 256 * C.S ∧ n2 = 54 + 3 * C.S ∧ D2 ++ Z2 = readL C pb.toNat pp.toNat else n1 = 0 ∧ n2 = 0 ∧ D2 = [] ∧ Z2 = []) : m1 = n1 ∧ m2 = n2 ∧ D = D2 ∧ Z = Z2 := by
 by_cases e : ReadE C pb pp = 0
 ·rw [if_pos e] at h h2
  have e1 : D ++ Z = D2 ++ Z2 := h.2.2.trans h2.2.2.symm
  have e2 := List.append_inj e1 (by omega)
  exact ⟨by omega, by omega, e2.1, e2.2⟩
 ·rw [if_neg e] at h h2
  obtain ⟨h1, h3, h4, h5⟩ := h
  obtain ⟨k1, k3, k4, k5⟩ := h2
  exact ⟨by omega, by omega, by rw [h4, k4], by rw [h5, k5]⟩
theorem own_len {n : Nat} {v : Value} (h : w.ownsRow B 5 1 v n (D.map (Value.int .u8))) : D.length = n := by
 have h1 := h.1
 simpa using h1
theorem owns_reads {m c : Nat} {a : Option Addr} (h : w.ownsRow B 5 1 (.slice a m c) m (D.map (Value.int .u8))) (hr : ∀ z ∈ D, 0 ≤ z ∧ z ≤ 255) : Reads w a m D := by
 have hl := own_len h
 rcases h.2 with ⟨h1, h2⟩ | ⟨g, cap, cur, h1, _⟩
 ·cases h1
  have hD : D = [] := List.eq_nil_of_length_eq_zero (by omega)
  rw [hD]
  exact reads_nil _
 ·injection h1 with h3 h4 h5
  subst h3
  exact own_reads'' (show Own w B g m c D from h) hr
theorem plays6_any (w0 w : World) (b : Nat) (F : Nat → Prop) (C : Ch) (fs : List Fc) (h : BothAt w0 w b F C fs) (hok : C.Ok) (B k : Nat) (G : Nat → Prop) (P M T : List Rw) (hbk : BookAt w B k G P M T) (hl : P.length ≤ 1000000000000) (hB : w0.heap.size ≤ B) (hFG : ∀ j, F j → ¬ G j) (ob op bit : Int) (fit : Bool) (da : Option Addr) (dn dc : Nat) (za : Option Addr) (zn zc : Nat) :
  Calls Try.prog 34 #[.pointer (some ⟨b, 0, none⟩), .agg #[.int .i64 6, .int .i64 ob, .int .i64 op, .int .i64 bit, .bool fit, .slice da dn dc, .slice za zn zc], .pointer (some ⟨k, 0, none⟩)] w fun e w' => e = .returned (.bool true) ∧ BothAt w0 w' b F C fs ∧ Only G w w' ∧ ∃ r1 r2 G', BookAt w' B k G' (P ++ [r1, r2]) M T ∧ r1.n ≤ 2048 ∧ r2.n ≤ 2048 ∧ (∀ j, G' j → G j ∨ w.heap.size ≤ j) := by
 have HBO := J h
 obtain ⟨p, d, Fp, Fd, hbx, hch, hrf, hp1, hd1, hbF, hFf⟩ := h
 have HTw : Hid (TwoAt w0 w b p d F Fp Fd C fs) := ⟨hbx, hch, hrf, hp1, hd1, hbF, hFf⟩
 have HBK := J hbk
 have HFG := J hFG
 have HBW := J (below_trans (below_alloc w (.cells #[.int .i64 6, .int .i64 ob, .int .i64 op, .int .i64 bit, .bool fit, .slice da dn dc, .slice za zn zc] 56)) (drew_below _))
 have HX3 : Hid ((w.alloc (.cells #[.int .i64 6, .int .i64 ob, .int .i64 op, .int .i64 bit, .bool fit, .slice da dn dc, .slice za zn zc] 56)).drew.heap[w.heap.size]? = some (.cells #[.int .i64 6, .int .i64 ob, .int .i64 op, .int .i64 bit, .bool fit, .slice da dn dc, .slice za zn zc] 56 (0, 0))) := alloc_new w (.cells #[.int .i64 6, .int .i64 ob, .int .i64 op, .int .i64 bit, .bool fit, .slice da dn dc, .slice za zn zc] 56)
 clear hbx hch hrf hp1 hd1 hbF hFf hbk hFG
 go_enter Try.func34, Try.ntmps34
 go_upto_region 17 with fail
 generalize hq3 : w.heap.size = q3 at HX3 ⊢
 have HQ3 := J hq3
 obtain ⟨W1, hW1⟩ : ∃ x, (w.alloc (.cells #[.int .i64 6, .int .i64 ob, .int .i64 op, .int .i64 bit, .bool fit, .slice da dn dc, .slice za zn zc] 56)).drew = x := ⟨_, rfl⟩
 rw [hW1] at HBW HX3
 have HT1 := J (HTw.out.below HBW.out)
 have HS1 : Hid (∀ u, Below W1.heap.size W1 u → u.cell? ⟨b, 0, none⟩ = some (.pointer (some ⟨p, 0, none⟩)) ∧ u.cell? ⟨q3, 1, none⟩ = some (.int .i64 ob) ∧ u.cell? ⟨q3, 2, none⟩ = some (.int .i64 op)) := fun u hu => by
  have h1 := (hu.block _ (lt_of_block HX3.out)).trans HX3.out
  exact ⟨(cells2 ((hu.block _ (lt_of_block HT1.out.box)).trans HT1.out.box)).1, (cells7 h1).2.1, (cells7 h1).2.2.1⟩
 have HS1d : Hid ((fun u => u.cell? ⟨b, 0, none⟩ = some (.pointer (some ⟨p, 0, none⟩)) ∧ u.cell? ⟨q3, 1, none⟩ = some (.int .i64 ob) ∧ u.cell? ⟨q3, 2, none⟩ = some (.int .i64 op)) (w.alloc (.cells #[.int .i64 6, .int .i64 ob, .int .i64 op, .int .i64 bit, .bool fit, .slice da dn dc, .slice za zn zc] 56)).drew) := by rw [hW1]; exact HS1.out W1 (Below.refl _ _)
 go_cut [10, 11] from 10 to 115 (fun s10 s11 wx => ∃ q a1 m1 c1 a2 m2 c2 D Z, s10 = .pointer (some ⟨q, 0, none⟩) ∧ s11 = .int .i64 (ReadE C ob op) ∧ RgP w wx q C ob op a1 m1 c1 a2 m2 c2 D Z ∧ wx.heap[q3]? = some (.cells #[.int .i64 6, .int .i64 ob, .int .i64 op, .int .i64 bit, .bool fit, .slice da dn dc, .slice za zn zc] 56 (0, 0)))
 case first =>
  refine wp_region_held_drew (S := (fun u => u.cell? ⟨b, 0, none⟩ = some (.pointer (some ⟨p, 0, none⟩)) ∧ u.cell? ⟨q3, 1, none⟩ = some (.int .i64 ob) ∧ u.cell? ⟨q3, 2, none⟩ = some (.int .i64 op))) (by kernel_rfl) (HS1d.out) fun O => ?_
  rw [hW1] at O ⊢
  refine tk 0 ?_
  refine tk 1 ?_
  refine tk 2 ?_
  refine tk 3 ?_
  refine tk 4 ?_
  refine tk 5 ?_
  refine wpAnyH_ready (rs := [6, 10]) (by kernel_rfl) (by simp) ?_
  refine AllReadyH.cons (o := { dst := some 113, op := Op.call { callee := Callee.value (Operand.func 13), args := #[Operand.tmp 110, Operand.tmp 112], argTypes := #[29, 41] }, type := 37, pos := "law.go:170", after := #[{ on := 3, ground := Ground.data }, { on := 5, ground := Ground.data }], guard := none }) rfl (fun K N => ?_) (AllReadyH.cons (o := { dst := some 10, op := Op.alloc 36, type := 0, pos := "law.go:170", after := #[], guard := none }) rfl (fun K N => ?_) AllReadyH.nil)
  ·go_simp
   go_at_call 13
   refine (Read_any W1 p Fp C HT1.out.ch hok ob op).mono ?_
   rintro e u3 hrd
   obtain ⟨⟨a1, m1, c1, a2, m2, c2, D, Z, rfl, o1, o2, nE, hf⟩, hb3⟩ := hrd
   have HB3 := J hb3
   have HO1 := J o1
   have HO2 := J o2
   have HNE := J nE
   have HF := J hf
   clear hb3 o1 o2 nE hf
   have hZ := HS1.out u3 HB3.out
   go_wp2_with fail
   clear O
   refine N.out _ _ hZ fun O => ?_
   clear N K hZ
   try simp only [zz]
   refine tk 7 ?_
   refine tk 8 ?_
   refine tk 9 ?_
   refine rd 10 fun K N => ?_
   go_simp
   go_wp2_with fail
   have hZ := HS1.out (u3.alloc (.cells #[.slice none 0 0, .slice none 0 0] 36)) (below_trans HB3.out (below_alloc u3 (.cells #[.slice none 0 0, .slice none 0 0] 36)))
   clear O
   refine N.out _ _ hZ fun O => ?_
   clear N K hZ
   try simp only [zz]
   refine rd 11 fun K N => ?_
   go_simp
   go_wp2_with fail
   have hb8 := below_alloc u3 (.cells #[.slice a1 m1 c1, .slice a2 m2 c2] 36)
   have HBV := J (below_trans HB3.out hb8)
   have hZ := HS1.out _ HBV.out
   clear O
   refine N.out _ _ hZ fun O => ?_
   clear N K hZ
   try simp only [zz]
   refine tk 12 ?_
   refine td ?_
   clear O
   go_wp2
   go_meet
   exact ⟨u3.heap.size, a1, m1, c1, a2, m2, c2, D, Z, rfl, rfl, ⟨alloc_new u3 _, Nat.le_trans HBW.out.size HB3.out.size, owns_dn (owns_bel HO1.out hb8) HBW.out.size, owns_dn (owns_bel HO2.out hb8) HBW.out.size, HNE.out, HF.out, below_trans HBW.out HBV.out⟩, (HBV.out.block _ (lt_of_block HX3.out)).trans HX3.out⟩
  ·go_simp
   go_wp2_with fail
   have HX6 := J (alloc_new W1 (.cells #[.slice none 0 0, .slice none 0 0] 36))
   have HBA := J (below_alloc W1 (.cells #[.slice none 0 0, .slice none 0 0] 36))
   have hZ := HS1.out (W1.alloc (.cells #[.slice none 0 0, .slice none 0 0] 36)) HBA.out
   clear O
   refine N.out _ _ hZ fun O => ?_
   clear N K hZ
   try simp only [zz]
   refine rd 6 fun K N => ?_
   go_simp
   go_at_call 13
   refine (Read_any (W1.alloc (.cells #[.slice none 0 0, .slice none 0 0] 36)) p Fp C (HT1.out.ch.below HBA.out) hok ob op).mono ?_
   rintro e u3 hrd
   obtain ⟨⟨a1, m1, c1, a2, m2, c2, D, Z, rfl, o1, o2, nE, hf⟩, hb3⟩ := hrd
   have HB3 := J hb3
   have HO1 := J o1
   have HO2 := J o2
   have HNE := J nE
   have HF := J hf
   clear hb3 o1 o2 nE hf
   have HBC := J (below_trans HBA.out HB3.out)
   have hZ := HS1.out u3 HBC.out
   go_wp2_with fail
   clear O
   refine N.out _ _ hZ fun O => ?_
   clear N K hZ
   try simp only [zz]
   refine tk 7 ?_
   refine tk 8 ?_
   refine tk 9 ?_
   have hx6 := (HB3.out.block _ (lt_of_block HX6.out)).trans HX6.out
   obtain ⟨t0, t1⟩ := cells2 hx6
   have fz := fun j => frozen_of_row u3 W1.heap.size j _ 36 hx6
   have HX7 := J hx6
   clear hx6
   refine rd 11 fun K N => ?_
   go_simp
   go_wp2_with fail
   have hs2 := heap_setCell_same _ W1.heap.size 1 #[.slice a1 m1 c1, .slice none 0 0] 36 (.slice a2 m2 c2) (heap_setCell_same u3 W1.heap.size 0 _ 36 (.slice a1 m1 c1) HX7.out)
   have hO : Only (· = W1.heap.size) u3 _ := (Only.setCell (· = W1.heap.size) u3 W1.heap.size 0 (.slice a1 m1 c1) rfl).trans' (Only.setCell _ _ W1.heap.size 1 (.slice a2 m2 c2) rfl)
   generalize hv9 : World.setCell _ ⟨W1.heap.size, 1, none⟩ _ = v9 at hs2 hO ⊢
   have HS9 := J hs2
   have HO9 := J hO
   have HBV : Hid (Below W1.heap.size W1 v9) := HBC.out.trans (hO.below (fun j e => by rw [e]; exact Nat.le_refl _) HBC.out.size)
   have hZ := HS1.out v9 HBV.out
   clear hs2 hO hv9 t0 t1 fz
   clear O
   refine N.out _ _ hZ fun O => ?_
   clear N K hZ
   try simp only [zz]
   refine tk 12 ?_
   refine td ?_
   clear O
   go_wp2
   go_meet
   have ho9 : ∀ {v : Value} {n : Nat} {xs : List Value}, u3.ownsRow (W1.alloc (.cells #[.slice none 0 0, .slice none 0 0] 36)).heap.size 5 1 v n xs → v9.ownsRow w.heap.size 5 1 v n xs := fun ho => owns_dn (owns_keep ho (fun y hy => by obtain ⟨cs, hcs⟩ := own_tag ho hy; exact HO9.out.block _ (lt_of_block hcs) (fun e9 => by rw [e9, HX7.out] at hcs; cases hcs))) (Nat.le_trans HBW.out.size HBA.out.size)
   exact ⟨W1.heap.size, a1, m1, c1, a2, m2, c2, D, Z, rfl, rfl, ⟨HS9.out, HBW.out.size, ho9 HO1.out, ho9 HO2.out, HNE.out, HF.out, below_trans HBW.out HBV.out⟩, (HBV.out.block _ (lt_of_block HX3.out)).trans HX3.out⟩
 case rest =>
 obtain ⟨q, a1, m1, c1, a2, m2, c2, D, Z, rfl, rfl, hrg, hx3⟩ := hcut
 have HRG := J hrg
 have HX3c := J hx3
 clear hrg hx3 HS1 HS1d HX3 HBW HT1 hW1
 go_upto_region 18 with fail
 obtain ⟨W4, hW4⟩ : ∃ x, wc.drew = x := ⟨_, rfl⟩
 have HW4 := J (show Below wc.heap.size wc W4 by rw [← hW4]; exact drew_below wc)
 have HT4 := J (HTw.out.below (below_trans HRG.out.bel HW4.out))
 have HRF4 := J HT4.out.rf
 have HX34 := J ((HW4.out.block _ (lt_of_block HX3c.out)).trans HX3c.out)
 have HS2 : Hid (∀ u, Below W4.heap.size W4 u → u.cell? ⟨b, 1, none⟩ = some (.pointer (some ⟨d, 0, none⟩)) ∧ u.cell? ⟨q3, 1, none⟩ = some (.int .i64 ob) ∧ u.cell? ⟨q3, 2, none⟩ = some (.int .i64 op)) := fun u hu => by
  have h1 := (hu.block _ (lt_of_block HX34.out)).trans HX34.out
  exact ⟨(cells2 ((hu.block _ (lt_of_block HT4.out.box)).trans HT4.out.box)).2, (cells7 h1).2.1, (cells7 h1).2.2.1⟩
 have HS2d : Hid ((fun u => u.cell? ⟨b, 1, none⟩ = some (.pointer (some ⟨d, 0, none⟩)) ∧ u.cell? ⟨q3, 1, none⟩ = some (.int .i64 ob) ∧ u.cell? ⟨q3, 2, none⟩ = some (.int .i64 op)) wc.drew) := by rw [hW4]; exact HS2.out W4 (Below.refl _ _)
 go_cut [12, 13] from 12 to 125 (fun s12 s13 wx => ∃ q2 b1 d1 b2 d2, s12 = .pointer (some ⟨q2, 0, none⟩) ∧ s13 = .int .i64 (ReadE C ob op) ∧ RgR W4 wx q2 b1 m1 d1 b2 m2 d2 D Z)
 case first =>
  refine wp_region_held_drew (S := (fun u => u.cell? ⟨b, 1, none⟩ = some (.pointer (some ⟨d, 0, none⟩)) ∧ u.cell? ⟨q3, 1, none⟩ = some (.int .i64 ob) ∧ u.cell? ⟨q3, 2, none⟩ = some (.int .i64 op))) (by kernel_rfl) (HS2d.out) fun O => ?_
  rw [hW4] at O ⊢
  refine tk 0 ?_
  refine tk 1 ?_
  refine tk 2 ?_
  refine tk 3 ?_
  refine tk 4 ?_
  refine tk 5 ?_
  refine wpAnyH_ready (rs := [6, 10]) (by kernel_rfl) (by simp) ?_
  refine AllReadyH.cons (o := { dst := some 123, op := Op.call { callee := Callee.value (Operand.func 70), args := #[Operand.tmp 120, Operand.tmp 122], argTypes := #[82, 41] }, type := 128, pos := "law.go:171", after := #[{ on := 3, ground := Ground.data }, { on := 5, ground := Ground.data }], guard := none }) rfl (fun K N => ?_) (AllReadyH.cons (o := { dst := some 12, op := Op.alloc 36, type := 0, pos := "law.go:171", after := #[], guard := none }) rfl (fun K N => ?_) AllReadyH.nil)
  ·go_simp
   go_at_call 70
   refine (rRead_any w0 W4 d Fd C fs HRF4.out hok ob op).mono ?_
   rintro e u3 hrd
   obtain ⟨⟨b1, m1x, d1, b2, m2x, d2, D2, Z2, rfl, o1, o2, nE, hf⟩, hb3⟩ := hrd
   obtain ⟨rfl, rfl, rfl, rfl⟩ := rd_eq (own_len HRG.out.o1) o1.1 HRG.out.fin hf
   have HB3 := J hb3
   have HO1 := J o1
   have HO2 := J o2
   have HNE := J nE
   clear hb3 o1 o2 nE hf
   have hZ := HS2.out u3 HB3.out
   go_wp2_with fail
   clear O
   refine N.out _ _ hZ fun O => ?_
   clear N K hZ
   try simp only [zz]
   refine tk 7 ?_
   refine tk 8 ?_
   refine tk 9 ?_
   refine rd 10 fun K N => ?_
   go_simp
   go_wp2_with fail
   have hZ := HS2.out (u3.alloc (.cells #[.slice none 0 0, .slice none 0 0] 36)) (below_trans HB3.out (below_alloc u3 (.cells #[.slice none 0 0, .slice none 0 0] 36)))
   clear O
   refine N.out _ _ hZ fun O => ?_
   clear N K hZ
   try simp only [zz]
   refine rd 11 fun K N => ?_
   go_simp
   go_wp2_with fail
   have hb8 := below_alloc u3 (.cells #[.slice b1 m1 d1, .slice b2 m2 d2] 36)
   have HBV := J (below_trans HB3.out hb8)
   have hZ := HS2.out _ HBV.out
   clear O
   refine N.out _ _ hZ fun O => ?_
   clear N K hZ
   try simp only [zz]
   refine tk 12 ?_
   refine td ?_
   clear O
   go_wp2
   go_meet
   exact ⟨u3.heap.size, b1, d1, b2, d2, rfl, rfl, ⟨alloc_new u3 _, HB3.out.size, HO1.out.below hb8, HO2.out.below hb8, HNE.out, HBV.out⟩⟩
  ·go_simp
   go_wp2_with fail
   have HX6 := J (alloc_new W4 (.cells #[.slice none 0 0, .slice none 0 0] 36))
   have HBA := J (below_alloc W4 (.cells #[.slice none 0 0, .slice none 0 0] 36))
   have hZ := HS2.out (W4.alloc (.cells #[.slice none 0 0, .slice none 0 0] 36)) HBA.out
   clear O
   refine N.out _ _ hZ fun O => ?_
   clear N K hZ
   try simp only [zz]
   refine rd 6 fun K N => ?_
   go_simp
   go_at_call 70
   refine (rRead_any w0 (W4.alloc (.cells #[.slice none 0 0, .slice none 0 0] 36)) d Fd C fs (HRF4.out.below HBA.out) hok ob op).mono ?_
   rintro e u3 hrd
   obtain ⟨⟨b1, m1x, d1, b2, m2x, d2, D2, Z2, rfl, o1, o2, nE, hf⟩, hb3⟩ := hrd
   obtain ⟨rfl, rfl, rfl, rfl⟩ := rd_eq (own_len HRG.out.o1) o1.1 HRG.out.fin hf
   have HB3 := J hb3
   have HO1 := J o1
   have HO2 := J o2
   have HNE := J nE
   clear hb3 o1 o2 nE hf
   have HBC := J (below_trans HBA.out HB3.out)
   have hZ := HS2.out u3 HBC.out
   go_wp2_with fail
   clear O
   refine N.out _ _ hZ fun O => ?_
   clear N K hZ
   try simp only [zz]
   refine tk 7 ?_
   refine tk 8 ?_
   refine tk 9 ?_
   have hx6 := (HB3.out.block _ (lt_of_block HX6.out)).trans HX6.out
   obtain ⟨t0, t1⟩ := cells2 hx6
   have fz := fun j => frozen_of_row u3 W4.heap.size j _ 36 hx6
   have HX7 := J hx6
   clear hx6
   refine rd 11 fun K N => ?_
   go_simp
   go_wp2_with fail
   have hs2 := heap_setCell_same _ W4.heap.size 1 #[.slice b1 m1 d1, .slice none 0 0] 36 (.slice b2 m2 d2) (heap_setCell_same u3 W4.heap.size 0 _ 36 (.slice b1 m1 d1) HX7.out)
   have hO : Only (· = W4.heap.size) u3 _ := (Only.setCell (· = W4.heap.size) u3 W4.heap.size 0 (.slice b1 m1 d1) rfl).trans' (Only.setCell _ _ W4.heap.size 1 (.slice b2 m2 d2) rfl)
   generalize hv9 : World.setCell _ ⟨W4.heap.size, 1, none⟩ _ = v9 at hs2 hO ⊢
   have HS9 := J hs2
   have HO9 := J hO
   have HBV : Hid (Below W4.heap.size W4 v9) := HBC.out.trans (hO.below (fun j e => by rw [e]; exact Nat.le_refl _) HBC.out.size)
   have hZ := HS2.out v9 HBV.out
   clear hs2 hO hv9 t0 t1 fz
   clear O
   refine N.out _ _ hZ fun O => ?_
   clear N K hZ
   try simp only [zz]
   refine tk 12 ?_
   refine td ?_
   clear O
   go_wp2
   go_meet
   have ho9 : ∀ {a : Option Addr} {l : Nat} {zs : List Int}, Reads u3 a l zs → (∀ y, a = some y → (W4.alloc (.cells #[.slice none 0 0, .slice none 0 0] 36)).heap.size ≤ y.block) → Reads v9 a l zs := fun hr hn => reads_keep hr (fun y hy h0 => HO9.out.block _ (reads_low' hr hy h0) (fun e9 => by have h1 := hn y hy; have h2 : y.block = W4.heap.size := e9; simp at h1; omega))
   exact ⟨W4.heap.size, b1, d1, b2, d2, rfl, rfl, ⟨HS9.out, Nat.le_refl _, ho9 HO1.out (fun y hy => HNE.out y (Or.inl hy)), ho9 HO2.out (fun y hy => HNE.out y (Or.inr hy)), fun y hy => Nat.le_trans HBA.out.size (HNE.out y hy), HBV.out⟩⟩
 case rest =>
 obtain ⟨q2, b1, d1, b2, d2, rfl, rfl, hrr⟩ := hcut
 have HRR := J hrr
 rename_i wcA _
 have HB4 := J (below_trans HW4.out HRR.out.bel)
 have HB0 := J (below_trans HRG.out.bel HB4.out)
 have HO1 := J (owns_bel HRG.out.o1 HB4.out)
 have HO2 := J (owns_bel HRG.out.o2 HB4.out)
 have HQB := J ((HB4.out.block _ (lt_of_block HRG.out.box)).trans HRG.out.box)
 have HGl : Hid (∀ j, G j → B ≤ j ∧ j < w.heap.size) := HBK.out.lim
 have HBw : Hid (B ≤ w.heap.size) := by have := HBK.out.lim k HBK.out.gk; unfold Hid; omega
 have HG1 : Hid (∀ j, (Value.slice a1 m1 c1).ownBlock = some j → ¬ G j) := fun j hj hg => by have h1 := HRG.out.o1.lt j hj; have h2 := HGl.out j hg; omega
 have HG2 : Hid (∀ j, (Value.slice a2 m2 c2).ownBlock = some j → ¬ G j) := fun j hj hg => by have h1 := HRG.out.o2.lt j hj; have h2 := HGl.out j hg; omega
 have HW : Hid (w.heap.size ≤ W4.heap.size) := Nat.le_trans HRG.out.bel.size HW4.out.size
 obtain ⟨y0, y1⟩ := cells2 HQB.out
 clear hrr HS2 HS2d HX34 HX3c HRF4 hW4
 go_upto_region 20 with (go_at_call 71; refine (page71_any _ B k G P M T (HBK.out.below HB0.out) hl a1 m1 c1 _ a2 m2 c2 _ (owns_dn HO1.out HBw.out) (owns_dn HO2.out HBw.out) HRG.out.ne HG1.out HG2.out).mono ?_; rintro e u6 ⟨rfl, hbk6, ho6⟩; have HBK6 := J hbk6; have HO6 := J ho6; clear hbk6 ho6 y0 y1)
 have HQ6 := J ((HO6.out.block _ (lt_of_block HQB.out) (fun hg => by have h2 := HGl.out _ hg; have h3 := HRG.out.ge; omega)).trans HQB.out)
 have HR6 := J ((HO6.out.block _ (lt_of_block HRR.out.box) (fun hg => by have h2 := HGl.out _ hg; have h3 := HRR.out.ge; have h4 := HW.out; omega)).trans HRR.out.box)
 have HP1 : Hid (u6.ownsRow w.heap.size 5 1 (.slice a1 m1 c1) m1 (D.map (Value.int .u8))) := owns_keep HO1.out (fun g hg => by obtain ⟨cs, hcs⟩ := own_tag HO1.out hg; exact HO6.out.block g (lt_of_block hcs) (HG1.out g hg))
 have HP2 : Hid (u6.ownsRow w.heap.size 5 1 (.slice a2 m2 c2) m2 (Z.map (Value.int .u8))) := owns_keep HO2.out (fun g hg => by obtain ⟨cs, hcs⟩ := own_tag HO2.out hg; exact HO6.out.block g (lt_of_block hcs) (HG2.out g hg))
 have HY1 := J (HRR.out.r1.only HO6.out (fun y hy hg => by have h2 := HGl.out _ hg; have h3 := HRR.out.new y (Or.inl hy); have h4 := HW.out; omega))
 have HY2 := J (HRR.out.r2.only HO6.out (fun y hy hg => by have h2 := HGl.out _ hg; have h3 := HRR.out.new y (Or.inr hy); have h4 := HW.out; omega))
 obtain ⟨y0, y1⟩ := cells2 HQ6.out
 obtain ⟨z0, z1⟩ := cells2 HR6.out
 go_wp2_with (first
  | (go_at_call 11; refine (no_any' _ _).mono ?_; rintro e u9 ⟨rfl, hu9⟩; subst u9)
  | (go_at_call 55; refine (samePage_eq u6 a1 a2 b1 b2 m1 m2 c1 c2 d1 d2 D Z (owns_reads HP1.out HY1.out.2.1) (owns_reads HP2.out HY2.out.2.1) HY1.out HY2.out).mono ?_; rintro e u7 ⟨rfl, hb7⟩; have HB7 := J hb7; clear hb7))
 go_ret
 have hO : Only G w u7 := ((Only.ofB (F := G) HB0.out).trans' HO6.out).trans' (Only.ofB HB7.out)
 refine ⟨by simp, HBO.out.only hO HFG.out (fun j hj => Nat.le_trans hB (HGl.out j hj).1), hO, _, _, _, HBK6.out.below HB7.out, ?_, ?_, fun j hj => ?_⟩
 ·have h1 := HRG.out.fin
  have h2 := hok.s
  show m1 ≤ 2048
  split at h1 <;> omega
 ·have h1 := HRG.out.fin
  have h2 := hok.s
  show m2 ≤ 2048
  split at h1 <;> omega
 ·rcases hj with e | ⟨r, hr, e⟩ | e
  ·exact Or.inl e
  ·simp at hr
   rcases hr with rfl | rfl
   ·exact Or.inr (HRG.out.o1.lt j e).1
   ·exact Or.inr (HRG.out.o2.lt j e).1
  ·exact Or.inr (by have h1 := e.1; have h2 := HB0.out.size; omega)
end Go.Proofs.Ytadlkikjfonkgaa
