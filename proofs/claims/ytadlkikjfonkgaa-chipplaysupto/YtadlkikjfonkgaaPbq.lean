/-
  SEAT Ytadlkikjfonkgaa: Vh, Vi.
-/
import Derived.Test.YtadlkikjfonkgaaPbn
import Derived.Test.YtadlkikjfonkgaaPbp
import Derived.Test.YtadlkikjfonkgaaPbm
import Derived.Test.YtadlkikjfonkgaaPw
import Derived.JoinedCond
import Derived.ProofKit
import Derived.OpenShut
import Derived.ChangeOld
import Derived.Deep.Grids
import Derived.Deep.SlicePairs
namespace Go.Proofs.Ytadlkikjfonkgaa
open Go.RowKit Go.Conc
set_option linter.unusedVariables false
theorem rdO_below {w w' : World} {a : Option Addr} {len : Nat} {xs : List Ox} (h : ReadsO w a len xs) (hb : Below w.heap.size w w') : ReadsO w' a len xs :=
 ⟨h.1, fun x hx => (h.2.1 x hx).below hb, h.2.2.1, fun y hy i hi j hj => (hb.cell (block_lt_of_cell (h.2.2.2 y hy i hi j hj))).trans (h.2.2.2 y hy i hi j hj)⟩
theorem readsI_nil (w : World) : ReadsI w none 0 [] := ⟨rfl, (fun _ h => by cases h), (fun _ => rfl), fun _ h => by cases h⟩
theorem MadeV.some {w0 w w' : World} {B P S : Int} {bad : List Int} {fs : List Fc} {e : Ending} (h : MadeV w0 w w' B P S bad fs e) : ∃ pv, e = .returned (.tuple #[.pointer pv, .bool true]) := by
 by_cases h0 : NewE B P S bad fs = 0
 ·obtain ⟨b, rfl, _⟩ := h.yes h0
  exact ⟨_, rfl⟩
 ·exact ⟨_, h.no h0⟩
set_option maxHeartbeats 2000000 in
set_option maxRecDepth 100000 in
theorem cp_far (w : World) (gB gP gS : Int) (ba : Option Addr) (bn bc : Nat) (bad : List Int) (hR : ReadsI w ba bn bad) (hbn : bn ≤ 1048576) (sa : Option Addr) (n cp : Nat) (fs : List Fc) (hF : ReadsF w sa n fs) (hn : n ≤ 1048576) (oa : Option Addr) (on oc : Nat) (pa : Option Addr) (pn pc : Nat) (hf : Fits gB gP gS = true) (hw : decide (gB * gP ≤ 128) = false) :
  Calls Try.prog 7 #[.agg #[.int .i64 gB, .int .i64 gP, .int .i64 gS], .slice ba bn bc, .slice sa n cp, .slice oa on oc, .slice pa pn pc] w fun e w' => e = .returned (.bool true) ∧ Below w.heap.size w w' := by
 have HB := hide (below_alloc w (.cells #[.int .i64 gB, .int .i64 gP, .int .i64 gS] 23))
 have HG : Hid ((w.alloc (.cells #[.int .i64 gB, .int .i64 gP, .int .i64 gS] 23)).heap[w.heap.size]? = some (.cells #[.int .i64 gB, .int .i64 gP, .int .i64 gS] 23 (0, 0))) := alloc_new w _
 obtain ⟨x0, x1, x2⟩ := cells3 HG.out
 have HQ : Hid ((Fits gB gP gS && decide (gB * gP ≤ 128)) = false) := by rw [hf, hw]; rfl
 clear hw
 go_enter Try.func7, Try.ntmps7
 go_wp2_with (first
  | (go_at_call 12; refine (heads_any _).mono ?_; rintro e uH ⟨rfl, bH⟩; have HBn := hide (below_trans HB.out bH); have HGn := hide ((bH.block _ (lt_of_block HG.out)).trans HG.out); clear HB HG x0 x1 x2; have HB := HBn; have HG := HGn; clear HBn HGn; obtain ⟨x0, x1, x2⟩ := cells3 HG.out; clear bH)
  | (go_at_call 31; refine (shape_any gB gP gS _).mono ?_; rintro e uS ⟨rfl, bS⟩; have HBn := hide (below_trans HB.out bS); have HGn := hide ((bS.block _ (lt_of_block HG.out)).trans HG.out); clear HB HG x0 x1 x2; have HB := HBn; have HG := HGn; clear HBn HGn; obtain ⟨x0, x1, x2⟩ := cells3 HG.out; clear bS)
  | (go_at_call 32; refine (few_any gB gP gS _).mono ?_; rintro e uF ⟨he, bF⟩; rw [HQ.out] at he; subst he; have HBn := hide (below_trans HB.out bF); have HGn := hide ((bF.block _ (lt_of_block HG.out)).trans HG.out); clear HB HG x0 x1 x2; have HB := HBn; have HG := HGn; clear HBn HGn; obtain ⟨x0, x1, x2⟩ := cells3 HG.out; clear bF))
 go_ret
 exact ⟨rfl, HB.out⟩
set_option maxHeartbeats 2000000 in
set_option maxRecDepth 100000 in
theorem cp_nil1 (w : World) (gB gP gS : Int) (ba : Option Addr) (bn bc : Nat) (bad : List Int) (hR : ReadsI w ba bn bad) (hbn : bn ≤ 1048576) (sa : Option Addr) (n cp : Nat) (fs : List Fc) (hF : ReadsF w sa n fs) (hn : n ≤ 1048576) (oa : Option Addr) (on oc : Nat) (pa : Option Addr) (pn pc : Nat) (hf : Fits gB gP gS = false) :
  Calls Try.prog 7 #[.agg #[.int .i64 gB, .int .i64 gP, .int .i64 gS], .slice ba bn bc, .slice sa n cp, .slice oa on oc, .slice pa pn pc] w fun e w' => e = .returned (.bool true) ∧ Below w.heap.size w w' := by
 have HB := hide (below_alloc w (.cells #[.int .i64 gB, .int .i64 gP, .int .i64 gS] 23))
 have HG : Hid ((w.alloc (.cells #[.int .i64 gB, .int .i64 gP, .int .i64 gS] 23)).heap[w.heap.size]? = some (.cells #[.int .i64 gB, .int .i64 gP, .int .i64 gS] 23 (0, 0))) := alloc_new w _
 obtain ⟨x0, x1, x2⟩ := cells3 HG.out
 have hne : NewE gB gP gS bad fs ≠ 0 := by unfold NewE; rw [if_pos hf]; decide
 go_enter Try.func7, Try.ntmps7
 go_wp2_with (first
  | (go_at_call 12; refine (heads_any _).mono ?_; rintro e uH ⟨rfl, bH⟩; have HBn := hide (below_trans HB.out bH); have HGn := hide ((bH.block _ (lt_of_block HG.out)).trans HG.out); clear HB HG x0 x1 x2; have HB := HBn; have HG := HGn; clear HBn HGn; obtain ⟨x0, x1, x2⟩ := cells3 HG.out; clear bH)
  | (go_at_call 33; have h9 := T1; clear h9; refine (made_any w _ gB gP gS none 0 0 [] (readsI_nil _) (by decide) sa n cp fs hF HB.out (by omega)).mono ?_; rintro e u2 hmd; obtain ⟨pv, rfl⟩ := hmd.some; have b2 := hmd.bel; have HM2 := hide hmd; clear hmd T1; have HBn := hide (below_trans HB.out b2); have HGn := hide ((b2.block _ (lt_of_block HG.out)).trans HG.out); clear HB HG x0 x1 x2; have HB := HBn; have HG := HGn; clear HBn HGn; obtain ⟨x0, x1, x2⟩ := cells3 HG.out; clear b2)
  | (go_at_call 33; refine (made_any w _ gB gP gS ba bn bc bad (hR.below HB.out) (by omega) sa n cp fs hF HB.out (by omega)).mono ?_; rintro e u1 hmd; obtain rfl := hmd.no hne; have b1 := hmd.bel; have T1 := hide True.intro; have HM1 := hide hmd; clear hmd; have HBn := hide (below_trans HB.out b1); have HGn := hide ((b1.block _ (lt_of_block HG.out)).trans HG.out); clear HB HG x0 x1 x2; have HB := HBn; have HG := HGn; clear HBn HGn; obtain ⟨x0, x1, x2⟩ := cells3 HG.out; clear b1)
  | (go_at_call 31; refine (shape_any gB gP gS _).mono ?_; rintro e uS ⟨rfl, bS⟩; have HBn := hide (below_trans HB.out bS); have HGn := hide ((bS.block _ (lt_of_block HG.out)).trans HG.out); clear HB HG x0 x1 x2; have HB := HBn; have HG := HGn; clear HBn HGn; obtain ⟨x0, x1, x2⟩ := cells3 HG.out; clear bS))
 go_ret
 exact ⟨rfl, HB.out⟩
set_option maxHeartbeats 2000000 in
set_option maxRecDepth 100000 in
theorem cp_nil2 (w : World) (gB gP gS : Int) (ba : Option Addr) (bn bc : Nat) (bad : List Int) (hR : ReadsI w ba bn bad) (hbn : bn ≤ 1048576) (sa : Option Addr) (n cp : Nat) (fs : List Fc) (hF : ReadsF w sa n fs) (hn : n ≤ 1048576) (oa : Option Addr) (on oc : Nat) (pa : Option Addr) (pn pc : Nat) (hf : Fits gB gP gS = true) (hw : decide (gB * gP ≤ 128) = true) (hne : NewE gB gP gS bad fs ≠ 0) :
  Calls Try.prog 7 #[.agg #[.int .i64 gB, .int .i64 gP, .int .i64 gS], .slice ba bn bc, .slice sa n cp, .slice oa on oc, .slice pa pn pc] w fun e w' => e = .returned (.bool true) ∧ Below w.heap.size w w' := by
 have HB := hide (below_alloc w (.cells #[.int .i64 gB, .int .i64 gP, .int .i64 gS] 23))
 have HG : Hid ((w.alloc (.cells #[.int .i64 gB, .int .i64 gP, .int .i64 gS] 23)).heap[w.heap.size]? = some (.cells #[.int .i64 gB, .int .i64 gP, .int .i64 gS] 23 (0, 0))) := alloc_new w _
 obtain ⟨x0, x1, x2⟩ := cells3 HG.out
 have HQ : Hid ((Fits gB gP gS && decide (gB * gP ≤ 128)) = true) := by rw [hf, hw]; rfl
 clear hw
 go_enter Try.func7, Try.ntmps7
 go_wp2_with (first
  | (go_at_call 12; refine (heads_any _).mono ?_; rintro e uH ⟨rfl, bH⟩; have HBn := hide (below_trans HB.out bH); have HGn := hide ((bH.block _ (lt_of_block HG.out)).trans HG.out); clear HB HG x0 x1 x2; have HB := HBn; have HG := HGn; clear HBn HGn; obtain ⟨x0, x1, x2⟩ := cells3 HG.out; clear bH)
  | (go_at_call 33; have h9 := T1; clear h9; refine (made_any w _ gB gP gS none 0 0 [] (readsI_nil _) (by decide) sa n cp fs hF HB.out (by omega)).mono ?_; rintro e u2 hmd; obtain ⟨pv, rfl⟩ := hmd.some; have b2 := hmd.bel; have HM2 := hide hmd; clear hmd T1; have HBn := hide (below_trans HB.out b2); have HGn := hide ((b2.block _ (lt_of_block HG.out)).trans HG.out); clear HB HG x0 x1 x2; have HB := HBn; have HG := HGn; clear HBn HGn; obtain ⟨x0, x1, x2⟩ := cells3 HG.out; clear b2)
  | (go_at_call 33; refine (made_any w _ gB gP gS ba bn bc bad (hR.below HB.out) (by omega) sa n cp fs hF HB.out (by omega)).mono ?_; rintro e u1 hmd; obtain rfl := hmd.no hne; have b1 := hmd.bel; have T1 := hide True.intro; have HM1 := hide hmd; clear hmd; have HBn := hide (below_trans HB.out b1); have HGn := hide ((b1.block _ (lt_of_block HG.out)).trans HG.out); clear HB HG x0 x1 x2; have HB := HBn; have HG := HGn; clear HBn HGn; obtain ⟨x0, x1, x2⟩ := cells3 HG.out; clear b1)
  | (go_at_call 31; refine (shape_any gB gP gS _).mono ?_; rintro e uS ⟨rfl, bS⟩; have HBn := hide (below_trans HB.out bS); have HGn := hide ((bS.block _ (lt_of_block HG.out)).trans HG.out); clear HB HG x0 x1 x2; have HB := HBn; have HG := HGn; clear HBn HGn; obtain ⟨x0, x1, x2⟩ := cells3 HG.out; clear bS)
  | (go_at_call 32; refine (few_any gB gP gS _).mono ?_; rintro e uF ⟨he, bF⟩; rw [HQ.out] at he; subst he; have HBn := hide (below_trans HB.out bF); have HGn := hide ((bF.block _ (lt_of_block HG.out)).trans HG.out); clear HB HG x0 x1 x2; have HB := HBn; have HG := HGn; clear HBn HGn; obtain ⟨x0, x1, x2⟩ := cells3 HG.out; clear bF))
 go_ret
 exact ⟨rfl, HB.out⟩
structure LkC (w0 w u : World) (b c : Nat) (F H : Nat → Prop) (Cb Cc : Ch) (fb fc : List Fc) : Prop where
 ex : ∃ Pb Pc, BothAt w0 u b Pb Cb fb ∧ BothAt w0 u c Pc Cc fc ∧ (∀ j, Pb j → ¬ Pc j) ∧ (∀ j, Pb j → F j ∨ w.heap.size ≤ j) ∧ (∀ j, Pc j → H j ∨ w.heap.size ≤ j)
 on : Only (fun j => F j ∨ H j) w u
theorem LkC.newBook {w0 w u : World} {b c : Nat} {F H : Nat → Prop} {Cb Cc : Ch} {fb fc : List Fc} (h : LkC w0 w u b c F H Cb Cc fb fc) : LkS w0 w (u.alloc (.cells #[.slice none 0 0, .slice none 0 0, .slice none 0 0] 76)) b c F H Cb Cc fb fc u.heap.size 0 := by
 obtain ⟨⟨Pb, Pc, h1, h2, h3, h4, h5⟩, ho⟩ := h
 have hb := below_alloc u (.cells #[.slice none 0 0, .slice none 0 0, .slice none 0 0] 76)
 have e : Only (fun _ => False) u _ := Only.ofB hb
 have hs := ho.size
 exact ⟨⟨Pb, Pc, fun j => j = u.heap.size, ⟨h1.only e (fun _ _ => id) (fun _ e => e.elim), h2.only e (fun _ _ => id) (fun _ e => e.elim), newBk u _ h1.old.size, (fun j hj e => by have h9 := (h1.lim j hj).2; omega), (fun j hj e => by have h9 := (h2.lim j hj).2; omega), h3⟩, h4, h5, fun j hj => Or.inr (by omega)⟩, ho.trans e (fun _ _ e => e.elim)⟩
theorem LkC.old {w0 w u : World} {b c : Nat} {F H : Nat → Prop} {Cb Cc : Ch} {fb fc : List Fc} (h : LkC w0 w u b c F H Cb Cc fb fc) : Below w0.heap.size w0 u := by
 obtain ⟨⟨Pb, Pc, h1, _⟩, _⟩ := h
 exact h1.old
theorem LkS.chips {w0 w u : World} {b c : Nat} {F H : Nat → Prop} {Cb Cc : Ch} {fb fc : List Fc} {k m : Nat} (h : LkS w0 w u b c F H Cb Cc fb fc k m) : LkC w0 w u b c F H Cb Cc fb fc := by
 obtain ⟨⟨Pb, Pc, G, h1, h2, h3, h4⟩, ho⟩ := h
 exact ⟨⟨Pb, Pc, h1.hb, h1.hc, h1.d3, h2, h3⟩, ho⟩
theorem LkS.apart {w0 w u : World} {b c : Nat} {F H : Nat → Prop} {Cb Cc : Ch} {fb fc : List Fc} {k m : Nat} (h : LkS w0 w u b c F H Cb Cc fb fc k m) (hm : m ≤ 400000000) :
  Calls Try.prog 36 #[.pointer (some ⟨k, 0, none⟩)] u fun e u' => e = .returned (.bool true) ∧ LkC w0 w u' b c F H Cb Cc fb fc := by
 obtain ⟨⟨Pb, Pc, G, h1, h2, h3, h4⟩, ho⟩ := h
 obtain ⟨P, M, T, hb, l1, l2, l3, s1, s2, s3⟩ := h1.bk
 refine (apart_any u w0.heap.size k G P M T hb (by omega) (by omega) (by omega) s1 s2 s3).mono (fun e u' hv => ⟨hv.1, ⟨⟨Pb, Pc, h1.hb.only hv.2 h1.d1 (fun j hj => (hb.lim j hj).1), h1.hc.only hv.2 h1.d2 (fun j hj => (hb.lim j hj).1), h1.d3, h2, h3⟩, ho.trans hv.2 (fun j hj e => (h4 j e).elim Or.inr (fun e => by omega))⟩⟩)
theorem LkC.below {w0 w u v : World} {b c : Nat} {F H : Nat → Prop} {Cb Cc : Ch} {fb fc : List Fc} (h : LkC w0 w u b c F H Cb Cc fb fc) (hb : Below u.heap.size u v) : LkC w0 w v b c F H Cb Cc fb fc := by
 obtain ⟨⟨Pb, Pc, h1, h2, h3, h4, h5⟩, ho⟩ := h
 have e : Only (fun _ => False) u v := Only.ofB hb
 exact ⟨⟨Pb, Pc, h1.only e (fun _ _ => id) (fun _ e => e.elim), h2.only e (fun _ _ => id) (fun _ e => e.elim), h3, h4, h5⟩, ho.trans e (fun _ _ e => e.elim)⟩
set_option maxHeartbeats 4000000 in
set_option maxRecDepth 100000 in
theorem cp_yes (w : World) (gB gP gS : Int) (ba : Option Addr) (bn bc : Nat) (bad : List Int) (hR : ReadsI w ba bn bad) (hbn : bn ≤ 1048576) (sa : Option Addr) (n cp : Nat) (fs : List Fc) (hF : ReadsF w sa n fs) (hn : n ≤ 1048576) (oa : Option Addr) (on oc : Nat) (pa : Option Addr) (pn pc : Nat) (xs ys : List Ox) (hO : ReadsO w oa on xs) (hon : on ≤ 1048576) (hP : ReadsO w pa pn ys) (hpn : pn ≤ 1048576) (hf : Fits gB gP gS = true) (hw : decide (gB * gP ≤ 128) = true) (hz : NewE gB gP gS bad fs = 0) :
  Calls Try.prog 7 #[.agg #[.int .i64 gB, .int .i64 gP, .int .i64 gS], .slice ba bn bc, .slice sa n cp, .slice oa on oc, .slice pa pn pc] w fun e w' => e = .returned (.bool true) ∧ Below w.heap.size w w' := by
 have HB := hide (below_alloc w (.cells #[.int .i64 gB, .int .i64 gP, .int .i64 gS] 23))
 have HG : Hid ((w.alloc (.cells #[.int .i64 gB, .int .i64 gP, .int .i64 gS] 23)).heap[w.heap.size]? = some (.cells #[.int .i64 gB, .int .i64 gP, .int .i64 gS] 23 (0, 0))) := alloc_new w _
 obtain ⟨x0, x1, x2⟩ := cells3 HG.out
 have HQ : Hid ((Fits gB gP gS && decide (gB * gP ≤ 128)) = true) := by rw [hf, hw]; rfl
 have hfb : faultsB fs = true := by
  unfold NewE at hz
  rw [hf, if_neg (by decide)] at hz
  cases h9 : bad.any (outB gB) with
  | true => rw [h9, if_pos rfl] at hz; cases hz
  | false =>
   rw [h9, if_neg (by decide)] at hz
   cases h8 : faultsB fs with
   | true => rfl
   | false => rw [h8, if_pos rfl] at hz; cases hz
 have hz2 : NewE gB gP gS [] fs = 0 := by
  unfold NewE
  rw [hf, if_neg (by decide), List.any_nil, if_neg (by decide), hfb, if_neg (by decide)]
 have h9 := of_decide_eq_true hf
 have HL1 := hide (newC_life gB.toNat gP.toNat gS.toNat bad (fs.map Fc.t) (by rw [show ((gB.toNat : Nat) : Int) = gB by omega, show ((gP.toNat : Nat) : Int) = gP by omega, show ((gS.toNat : Nat) : Int) = gS by omega]; exact hf))
 have HL2 := hide (newC_life gB.toNat gP.toNat gS.toNat [] (fs.map Fc.t) (by rw [show ((gB.toNat : Nat) : Int) = gB by omega, show ((gP.toNat : Nat) : Int) = gP by omega, show ((gS.toNat : Nat) : Int) = gS by omega]; exact hf))
 have HZ := hide (And.intro hz hz2)
 have HO := hide hO
 have HP := hide hP
 have HFB := hide hfb
 clear hw hz hz2 hO hP h9 hfb
 go_enter Try.func7, Try.ntmps7
 go_upto_region 9 with (first
  | (go_at_call 12; refine (heads_any _).mono ?_; rintro e uH ⟨rfl, bH⟩; have HBn := hide (below_trans HB.out bH); have HGn := hide ((bH.block _ (lt_of_block HG.out)).trans HG.out); clear HB HG x0 x1 x2; have HB := HBn; have HG := HGn; clear HBn HGn; obtain ⟨x0, x1, x2⟩ := cells3 HG.out; clear bH)
  | (go_at_call 33; have h9 := T1; clear h9; refine (made_any w _ gB gP gS none 0 0 [] (readsI_nil _) (by decide) sa n cp fs hF HB.out (by omega)).mono ?_; rintro e u2 hmd; obtain ⟨pc2, rfl, hb2⟩ := hmd.yes HZ.out.2; have HB2 := hide hb2; clear hb2; have b2 := hmd.bel; have HM2 := hide hmd; clear hmd T1; have HBn := hide (below_trans HB.out b2); have HGn := hide ((b2.block _ (lt_of_block HG.out)).trans HG.out); clear HB HG x0 x1 x2; have HB := HBn; have HG := HGn; clear HBn HGn; obtain ⟨x0, x1, x2⟩ := cells3 HG.out; clear b2)
  | (go_at_call 33; refine (made_any w _ gB gP gS ba bn bc bad (hR.below HB.out) (by omega) sa n cp fs hF HB.out (by omega)).mono ?_; rintro e u1 hmd; obtain ⟨pb, rfl, hb1⟩ := hmd.yes HZ.out.1; have HB1 := hide hb1; clear hb1; have b1 := hmd.bel; have T1 := hide True.intro; have HM1 := hide hmd; clear hmd; have HBn := hide (below_trans HB.out b1); have HGn := hide ((b1.block _ (lt_of_block HG.out)).trans HG.out); clear HB HG x0 x1 x2; have HB := HBn; have HG := HGn; clear HBn HGn; obtain ⟨x0, x1, x2⟩ := cells3 HG.out; clear b1)
  | (go_at_call 31; refine (shape_any gB gP gS _).mono ?_; rintro e uS ⟨rfl, bS⟩; have HBn := hide (below_trans HB.out bS); have HGn := hide ((bS.block _ (lt_of_block HG.out)).trans HG.out); clear HB HG x0 x1 x2; have HB := HBn; have HG := HGn; clear HBn HGn; obtain ⟨x0, x1, x2⟩ := cells3 HG.out; clear bS)
  | (go_at_call 32; refine (few_any gB gP gS _).mono ?_; rintro e uF ⟨he, bF⟩; rw [HQ.out] at he; subst he; have HBn := hide (below_trans HB.out bF); have HGn := hide ((bF.block _ (lt_of_block HG.out)).trans HG.out); clear HB HG x0 x1 x2; have HB := HBn; have HG := HGn; clear HBn HGn; obtain ⟨x0, x1, x2⟩ := cells3 HG.out; clear bF))
 have HST : Hid (LkC w w u2 pb pc2 (fun _ => False) (fun _ => False) (newC gB.toNat gP.toNat gS.toNat bad (fs.map Fc.t)) (newC gB.toNat gP.toNat gS.toNat [] (fs.map Fc.t)) fs fs) := by
  have e : Only (fun _ => False) u1 u2 := Only.ofB HM2.out.bel
  refine ⟨⟨_, _, HB1.out.only e (fun _ _ => id) (fun _ e => e.elim), HB2.out, fun j hj hc => ?_, fun j hj => Or.inr (HB1.out.lim j hj).1, fun j hj => Or.inr (HB2.out.lim j hj).1⟩, Only.ofB HB.out⟩
  have h1 := (HB1.out.lim j hj).2
  have h2 := hc.1
  omega
 clear HB1 HB2 HM1 HM2 HB HG x0 x1 x2 HZ
 have HSB := hide HST.out.newBook
 clear HST
 go_wp2
 go_loopw [16] (fun s16 wr => ∃ (i mm : Nat) (Cb Cc : Ch), i ≤ on ∧ s16 = .int .i64 i ∧ mm ≤ 2 * i ∧ Hid (Life Cb i ∧ Life Cc i) ∧ Hid (LkS w w wr pb pc2 (fun _ => False) (fun _ => False) Cb Cc fs fs u2.heap.size mm)) (fun s16 _ => on - (intOf s16).toNat)
 case atStart => exact ⟨0, 0, _, _, Nat.zero_le _, rfl, by omega, ⟨HL1.out, HL2.out⟩, HSB⟩
 case round =>
  clear HSB
  obtain ⟨i, mm, Cb, Cc, hi, rfl, hmm, HLL, HST⟩ := hrel
  by_cases hlt : i < on
  ·have hd1 : decide ((i : Int) < (on : Int)) = true := decide_eq_true (by omega)
   have HOW := hide (rdO_below HO.out HST.out.old)
   obtain ⟨gO, oO, x, hoa, hgO, hxi, hxo, k0, k1, k2, k3, k4, k5, k6⟩ := ReadsO.pos HOW.out hlt
   have HX := hide (HO.out.2.1 x (List.mem_of_getElem? hxi))
   subst hoa
   have HMM := hide hmm
   have hb4 : mm ≤ 400000000 := by omega
   have hb5 : mm + 1 ≤ 400000000 := by omega
   have hb6 : i ≤ 2000000000 := by omega
   clear hxi hxo hmm HOW
   by_cases hlp : i < pn
   ·have hd2 : decide ((i : Int) < (pn : Int)) = true := decide_eq_true (by omega)
    go_wp2_with (first
     | (go_at_call 34; have h9 := HS2; clear h9; refine (HS2.out.plays2 i HLL.out.2 hb6 HFB.out hb5 y HY.out).mono ?_; rintro e u5 ⟨rfl, hs5⟩; have HS5 := hide hs5; clear hs5)
     | (go_at_call 34; refine (HST.out.plays1 i HLL.out.1 hb6 HFB.out hb4 x HX.out).mono ?_; rintro e u4 ⟨rfl, hs4⟩; have HS2 := hide hs4; have HPW := hide (rdO_below HP.out hs4.old); obtain ⟨gP2, oP2, y, hpa, hgP2, hyi, hyo, j0, j1, j2, j3, j4, j5, j6⟩ := ReadsO.pos HPW.out hlp; have HY := hide (HP.out.2.1 y (List.mem_of_getElem? hyi)); subst hpa; clear hyi hyo HPW hs4 k0 k1 k2 k3 k4 k5 k6))
    go_roundw
    case rel => exact ⟨i + 1, mm + 2, _, _, by omega, by go_num, by have := HMM.out; omega, ⟨HLL.out.1.does _, HLL.out.2.does _⟩, HS5⟩
    case measure => simp [intOf]; omega
   ·have hd2 : decide ((i : Int) < (pn : Int)) = false := decide_eq_false (by omega)
    go_wp2_with (go_at_call 34; refine (HST.out.plays1 i HLL.out.1 hb6 HFB.out hb4 x HX.out).mono ?_; rintro e u4 ⟨rfl, hs4⟩; have HS2 := hide hs4; clear hs4 k0 k1 k2 k3 k4 k5 k6)
    go_roundw
    case rel => exact ⟨i + 1, mm + 1, _, _, by omega, by go_num, by have := HMM.out; omega, ⟨HLL.out.1.does _, ⟨HLL.out.2.ok, by have := HLL.out.2.tr; omega, HLL.out.2.fl.mono (by omega)⟩⟩, HS2⟩
    case measure => simp [intOf]; omega
  ·have hd1 : decide ((i : Int) < (on : Int)) = false := decide_eq_false (by omega)
   have hb4 : mm ≤ 300000000 := by omega
   have hb5 : mm + 30 ≤ 300000000 := by omega
   have hb7 : mm + 30 + 30 ≤ 400000000 := by omega
   have hb6 : i ≤ 2000000000 := by omega
   have HFC := HFB
   clear hmm hi
   go_wp2_with (first
    | (go_at_call 12; refine (heads_any _).mono ?_; rintro e uH ⟨rfl, bH⟩; have HE := hide (HS7.out.chips.below bH); clear bH)
    | (go_at_call 35; have h9 := HS6; clear h9; refine (HS6.out.chips.newBook.looks2 i HLL.out.2 hb6 HFC.out (by decide)).mono ?_; rintro e u9 ⟨rfl, hs9⟩; have HS7 := hide hs9; clear hs9 HS6)
    | (go_at_call 35; have h9 := HA5; clear h9; refine (HA5.out.newBook.looks1 i HLL.out.1 hb6 HFC.out (by decide)).mono ?_; rintro e u8 ⟨rfl, hs8⟩; have HS6 := hide hs8; clear hs8 HA5)
    | (go_at_call 36; refine (HS4.out.apart hb7).mono ?_; rintro e u7 ⟨rfl, hs7⟩; have HA5 := hide hs7; clear hs7 HS4)
    | (go_at_call 35; have h9 := HS3; clear h9; refine (HS3.out.looks2 i HLL.out.2 hb6 HFC.out hb5).mono ?_; rintro e u6 ⟨rfl, hs6⟩; have HS4 := hide hs6; clear hs6 HS3)
    | (go_at_call 35; have h9 := HST; clear h9; refine (HST.out.looks1 i HLL.out.1 hb6 HFC.out hb4).mono ?_; rintro e u5 ⟨rfl, hs5⟩; have HS3 := hide hs5; clear hs5 HST))
   go_ret
   exact ⟨rfl, HE.out.old⟩
theorem playsWalk (gB gP gS : Int) (ba : Option Addr) (bn bc : Nat) (bad : List Int) (sa : Option Addr) (n cp : Nat) (fs : List Fc) (oa : Option Addr) (on oc : Nat) (xs : List Ox) (pa : Option Addr) (pn pc : Nat) (ys : List Ox) (w : World) (hR : ReadsI w ba bn bad) (hbn : bn ≤ 1048576) (hF : ReadsF w sa n fs) (hn : n ≤ 1048576) (hO : ReadsO w oa on xs) (hon : on ≤ 1048576) (hP : ReadsO w pa pn ys) (hpn : pn ≤ 1048576) :
  Calls Try.prog 7 #[.agg #[.int .i64 gB, .int .i64 gP, .int .i64 gS], .slice ba bn bc, .slice sa n cp, .slice oa on oc, .slice pa pn pc] w fun e w' => e = .returned (.bool true) ∧ Below w.heap.size w w' := by
 cases hf : Fits gB gP gS with
 | false => exact cp_nil1 w gB gP gS ba bn bc bad hR hbn sa n cp fs hF hn oa on oc pa pn pc hf
 | true =>
  cases hw : decide (gB * gP ≤ 128) with
  | false => exact cp_far w gB gP gS ba bn bc bad hR hbn sa n cp fs hF hn oa on oc pa pn pc hf hw
  | true =>
   by_cases hz : NewE gB gP gS bad fs = 0
   ·exact cp_yes w gB gP gS ba bn bc bad hR hbn sa n cp fs hF hn oa on oc pa pn pc xs ys hO hon hP hpn hf hw hz
   ·exact cp_nil2 w gB gP gS ba bn bc bad hR hbn sa n cp fs hF hn oa on oc pa pn pc hf hw hz
end Go.Proofs.Ytadlkikjfonkgaa
namespace Go.Proofs.Ytadlkikjfonkgaa
open Go.ChangeShapes Go.WideShapes Go.ChangeAt Go.RowKit Go.Joins Go.Deep Go.ChangeMaps
set_option linter.unusedVariables false
theorem some_bulk {H : Type} (d : DataW H) : 0 < Rows.uptoBulk d := by
 rcases d with l | _ | _ | _ | _ | _ | _ | _
 ·cases l <;> simp [Rows.uptoBulk]
 all_goals simp [Rows.uptoBulk]
theorem many_bulk {H : Type} : ∀ l : List (DataW H), l.length ≤ Rows.uptoBulkAll l
 | [] => Nat.zero_le _
 | d :: r => by
  have h1 := many_bulk r
  have h2 := some_bulk d
  simp only [Rows.uptoBulkAll, List.length_cons]
  omega
theorem mem_bulk {H : Type} : ∀ {l : List (DataW H)} {d : DataW H}, d ∈ l → Rows.uptoBulk d ≤ Rows.uptoBulkAll l
 | [], _, h => by cases h
 | x :: r, d, h => by
  simp only [Rows.uptoBulkAll]
  rcases List.mem_cons.1 h with rfl | h
  ·omega
  ·have := mem_bulk h
   omega
theorem bulk_slice {H : Type} {es sp : List (DataW H)} (h : Rows.uptoBulk (.slice es sp) ≤ 1048576) : es.length + sp.length ≤ 1048576 ∧ ∀ d ∈ es, Rows.uptoBulk d ≤ 1048576 := by
 have h1 := many_bulk es
 have h2 := many_bulk sp
 simp only [Rows.uptoBulk] at h
 exact ⟨by omega, fun d hd => by have := mem_bulk hd; omega⟩
theorem bulk_part {H : Type} {ps : List (DataW H)} (h : Rows.uptoBulk (.agg ps) ≤ 1048576) {d : DataW H} (hd : d ∈ ps) : Rows.uptoBulk d ≤ 1048576 := by
 simp only [Rows.uptoBulk] at h
 have := mem_bulk hd
 omega
theorem c3 : Try.prog.cellsOf 3 = 1 := by kernel_rfl
theorem c4 : Try.prog.cellsOf 4 = 1 := by kernel_rfl
theorem c5 : Try.prog.cellsOf 5 = 1 := by kernel_rfl
theorem c24 : Try.prog.cellsOf 24 = 1 := by kernel_rfl
theorem c41 : Try.prog.cellsOf 41 = 2 := by kernel_rfl
theorem c36 : Try.prog.cellsOf 36 = 2 := by kernel_rfl
theorem c58 : Try.prog.cellsOf 58 = 4 := by kernel_rfl
theorem c56 : Try.prog.cellsOf 56 = 7 := by kernel_rfl
theorem c23 : Try.prog.cellsOf 23 = 3 := by kernel_rfl
section
variable {H : Type} {enc : TypeId × Value → H} {W : World}
theorem open_bytesU {fuel : Nat} {cs : List Value} {y : DataW H × List MemPlace} (h : DataW.trod enc Try.prog W 0 (fun _ => true) true fuel 24 cs = some y) (hw : Rows.uptoBulk y.1 ≤ 1048576) : ∃ a l c zs, cs = [.slice a l c] ∧ Reads W a l zs ∧ l ≤ 140737488351232 ∧ l ≤ c := by
 rcases open_ints Try.underlying24 Try.underlying5 c5 h with ⟨hcs, _⟩ | ⟨x, l, c, zs, hcs, _, hl, hm, hz, hx, hcell, hwz⟩
 ·exact ⟨none, 0, 0, [], hcs, ⟨rfl, (fun _ h => by cases h), fun _ => rfl, fun _ h => by cases h⟩, by omega, by omega⟩
 ·have hz' : zs.length = c := by simpa using hz
  have hd := congrArg Prod.fst hx
  simp only at hd
  rw [hd] at hw
  have h1 := (bulk_slice hw).1
  simp only [lits, List.length_map, List.length_take, List.length_drop] at h1
  refine ⟨some x, l, c, zs.take l, hcs, ⟨by simp; omega, fun n hn => bounds_u8 (hwz n (List.mem_of_mem_take hn)), (fun h => by cases h), fun y hy i hi => ?_⟩, by omega, hl⟩
  cases hy
  rw [hcell i (by omega)]
  simp [List.getD, hi]
set_option maxRecDepth 100000 in
theorem open_fault {fuel : Nat} {cs : List Value} {y : DataW H × List MemPlace} (hlen : cs.length = 4) (h : DataW.trod enc Try.prog W 0 (fun _ => true) true fuel 58 cs = some y) (hw : Rows.uptoBulk y.1 ≤ 1048576) : ∃ c : Fc, cs = c.row ∧ FcOk W c := by
 obtain ⟨y0, y1, y2, y3, k, hy, hcl, g0, g1, g2, g3⟩ := trod_struct4 Try.underlying58 h
 rw [hy] at hw
 have w2 : Rows.uptoBulk y2.1 ≤ 1048576 := bulk_part hw (by simp)
 match cs, hlen with
 | [v0, v1, v2, v3], _ =>
  obtain ⟨z0, e0, _, wf0⟩ := DataW.trod_int Try.underlying3 g0
  obtain ⟨z1, e1, _, wf1⟩ := DataW.trod_int Try.underlying3 g1
  obtain ⟨a, l, c, zs, e2, rd, hl, hc⟩ := open_bytesU g2 w2
  obtain ⟨z3, e3, _, wf3⟩ := DataW.trod_int Try.underlying5 g3
  simp [c3, c24, c5] at e0 e1 e2 e3
  subst e0 e1 e2 e3
  exact ⟨⟨z0, z1, a, l, c, z3, zs⟩, rfl, ⟨rd, hl, hc, bounds_u8 wf3, bounds_i64 wf0, bounds_i64 wf1⟩⟩
set_option maxRecDepth 100000 in
theorem open_faults {fuel : Nat} {v : Value} {y : DataW H × List MemPlace} (h : DataW.trod enc Try.prog W 0 (fun _ => true) true fuel 49 [v] = some y) (hw : Rows.uptoBulk y.1 ≤ 1048576) : ∃ a l c fs, v = .slice a l c ∧ ReadsF W a l fs ∧ l ≤ 1048576 := by
 rcases open_slice Try.underlying49 h with ⟨hcs, _⟩ | ⟨x, l, c, m, n, D, Pl, hcs, _, hl, hm, hmm, hx, hcell⟩
 ·injection hcs with hcs
  exact ⟨none, 0, 0, [], hcs, ⟨rfl, (fun _ h => by cases h), fun _ => rfl, fun _ h => by cases h⟩, by omega⟩
 ·injection hcs with hcs
  have hd := congrArg Prod.fst hx
  simp only at hd
  rw [hd] at hw
  obtain ⟨h1, h2⟩ := bulk_slice hw
  simp only [List.length_map, List.length_range] at h1
  have each : ∀ i, i < l → ∃ q : Fc, FcOk W q ∧ ∀ j, j < 4 → W.cell? (x.add (i * 4 + j)) = some (q.cell j) := by
   intro i hi
   obtain ⟨cs', k1, k2⟩ := hcell i (by rw [hmm]; simp; omega)
   rw [c58] at k1
   obtain ⟨_, hlen, hc⟩ := World.cells?_some k1
   obtain ⟨q, hq, hok⟩ := open_fault hlen k2 (h2 _ (List.mem_map.2 ⟨i, List.mem_range.2 hi, rfl⟩))
   refine ⟨q, hok, fun j hj => ?_⟩
   have h9 := hc j hj
   rw [Deep.add_add] at h9
   rw [h9, hq]
   rcases j with _ | _ | _ | _ | j
   ·rfl
   ·rfl
   ·rfl
   ·rfl
   ·omega
  have : Inhabited Fc := ⟨Fc.zero⟩
  obtain ⟨q, hq⟩ := Deep.choose_lt each
  refine ⟨some x, l, c, (List.range l).map q, hcs, ⟨by simp, fun e he => ?_, (fun h => by cases h), fun y hy i hi j hj => ?_⟩, by omega⟩
  ·obtain ⟨i, hi, rfl⟩ := List.mem_map.1 he
   exact (hq i (List.mem_range.1 hi)).1
  ·cases hy
   rw [(hq i hi).2 j hj]
   simp [List.getD_eq_getElem?_getD, hi]
set_option maxRecDepth 100000 in
theorem open_op {fuel : Nat} {cs : List Value} {y : DataW H × List MemPlace} (hlen : cs.length = 7) (h : DataW.trod enc Try.prog W 0 (fun _ => true) true fuel 56 cs = some y) (hw : Rows.uptoBulk y.1 ≤ 1048576) : ∃ x : Ox, cs = [x.cell 0, x.cell 1, x.cell 2, x.cell 3, x.cell 4, x.cell 5, x.cell 6] ∧ OxOk W x := by
 obtain ⟨xs, n, _, hy, hcl, hxl, hf⟩ := DataW.trod_struct Try.underlying56 h
 match xs, hxl with
 | [y0, y1, y2, y3, y4], _ =>
  rw [hy] at hw
  have w4 : Rows.uptoBulk y4.1 ≤ 1048576 := bulk_part hw (by simp)
  match cs, hlen with
  | [v0, v1, v2, v3, v4, v5, v6], _ =>
   have g0 := hf 0 _ rfl
   have g1 := hf 1 _ rfl
   have g2 := hf 2 _ rfl
   have g3 := hf 3 _ rfl
   have g4 := hf 4 _ rfl
   obtain ⟨z0, e0, _, wf0⟩ := DataW.trod_int Try.underlying3 g0
   obtain ⟨p0, p1, k1, _, _, q0, q1⟩ := trod_struct2 Try.underlying41 g1
   obtain ⟨z1, e1, _, wf1⟩ := DataW.trod_int Try.underlying3 q0
   obtain ⟨z2, e2, _, wf2⟩ := DataW.trod_int Try.underlying3 q1
   obtain ⟨z3, e3, _, wf3⟩ := DataW.trod_int Try.underlying3 g2
   obtain ⟨b4, e4, _⟩ := DataW.trod_bool Try.underlying4 g3
   obtain ⟨r0, r1, k2, hr, _, s0, s1⟩ := trod_struct2 Try.underlying36 g4
   rw [hr] at w4
   have wa : Rows.uptoBulk r0.1 ≤ 1048576 := bulk_part w4 (by simp)
   have wb : Rows.uptoBulk r1.1 ≤ 1048576 := bulk_part w4 (by simp)
   obtain ⟨a5, l5, c5', zs5, e5, rd5, hl5, hc5⟩ := open_bytesU s0 wa
   obtain ⟨a6, l6, c6, zs6, e6, rd6, hl6, hc6⟩ := open_bytesU s1 wb
   simp [c3, c4, c24, c41, c36] at e0 e1 e2 e3 e4 e5 e6
   subst e0 e1 e2 e3 e4 e5 e6
   exact ⟨⟨⟨z0, z1, z2, z3, b4, zs5, zs6⟩, a5, l5, c5', a6, l6, c6⟩, rfl, ⟨rd5, rd6, hl5, hl6, (bounds_i64 wf3).2⟩⟩
set_option maxRecDepth 100000 in
theorem open_opsU {fuel : Nat} {v : Value} {y : DataW H × List MemPlace} (h : DataW.trod enc Try.prog W 0 (fun _ => true) true fuel 50 [v] = some y) (hw : Rows.uptoBulk y.1 ≤ 1048576) : ∃ a l c xs, v = .slice a l c ∧ ReadsO W a l xs ∧ l ≤ 1048576 := by
 rcases open_slice Try.underlying50 h with ⟨hcs, _⟩ | ⟨x, l, c, m, n, D, Pl, hcs, _, hl, hm, hmm, hx, hcell⟩
 ·injection hcs with hcs
  exact ⟨none, 0, 0, [], hcs, ⟨rfl, (fun _ h => by cases h), fun _ => rfl, fun _ h => by cases h⟩, by omega⟩
 ·injection hcs with hcs
  have hd := congrArg Prod.fst hx
  simp only at hd
  rw [hd] at hw
  obtain ⟨h1, h2⟩ := bulk_slice hw
  simp only [List.length_map, List.length_range] at h1
  have each : ∀ i, i < l → ∃ q : Ox, OxOk W q ∧ ∀ j, j < 7 → W.cell? (x.add (i * 7 + j)) = some (q.cell j) := by
   intro i hi
   obtain ⟨cs', k1, k2⟩ := hcell i (by rw [hmm]; simp; omega)
   rw [c56] at k1
   obtain ⟨_, hlen, hc⟩ := World.cells?_some k1
   obtain ⟨q, hq, hok⟩ := open_op hlen k2 (h2 _ (List.mem_map.2 ⟨i, List.mem_range.2 hi, rfl⟩))
   refine ⟨q, hok, fun j hj => ?_⟩
   have h9 := hc j hj
   rw [Deep.add_add] at h9
   rw [h9, hq]
   rcases j with _ | _ | _ | _ | _ | _ | _ | j
   ·rfl
   ·rfl
   ·rfl
   ·rfl
   ·rfl
   ·rfl
   ·rfl
   ·omega
  have : Inhabited Ox := ⟨Ox.zero⟩
  obtain ⟨q, hq⟩ := Deep.choose_lt each
  refine ⟨some x, l, c, (List.range l).map q, hcs, ⟨by simp, fun e he => ?_, (fun h => by cases h), fun y hy i hi j hj => ?_⟩, by omega⟩
  ·obtain ⟨i, hi, rfl⟩ := List.mem_map.1 he
   exact (hq i (List.mem_range.1 hi)).1
  ·cases hy
   rw [(hq i hi).2 j hj]
   simp [List.getD_eq_getElem?_getD, hi]
theorem open_intsU {fuel : Nat} {v : Value} {y : DataW H × List MemPlace} (h : DataW.trod enc Try.prog W 0 (fun _ => true) true fuel 48 [v] = some y) (hw : Rows.uptoBulk y.1 ≤ 1048576) : ∃ a l c zs, v = .slice a l c ∧ ReadsI W a l zs ∧ l ≤ 1048576 := by
 rcases open_ints Try.underlying48 Try.underlying3 c3 h with ⟨hcs, _⟩ | ⟨x, l, c, zs, hcs, _, hl, hm, hz, hx, hcell, hwz⟩
 ·injection hcs with hcs
  exact ⟨none, 0, 0, [], hcs, ⟨rfl, (fun _ h => by cases h), fun _ => rfl, fun _ h => by cases h⟩, by omega⟩
 ·injection hcs with hcs
  have hz' : zs.length = c := by simpa using hz
  have hd := congrArg Prod.fst hx
  simp only at hd
  rw [hd] at hw
  have h1 := (bulk_slice hw).1
  simp only [lits, List.length_map, List.length_take, List.length_drop] at h1
  refine ⟨some x, l, c, zs.take l, hcs, ⟨by simp; omega, fun n hn => bounds_i64 (hwz n (List.mem_of_mem_take hn)), (fun h => by cases h), fun y hy i hi => ?_⟩, by omega⟩
  cases hy
  rw [hcell i (by omega)]
  simp [List.getD, hi]
end
theorem five_bulk {H : Type} {d0 d1 d2 d3 d4 : DataW H} (hk : Rows.uptoSmall H ([d0, d1, d2, d3, d4] ++ []) = true) : Rows.uptoBulk d1 ≤ 1048576 ∧ Rows.uptoBulk d2 ≤ 1048576 ∧ Rows.uptoBulk d3 ≤ 1048576 ∧ Rows.uptoBulk d4 ≤ 1048576 := by
 have h : Rows.uptoBulkAll [d0, d1, d2, d3, d4] ≤ 1048576 := of_decide_eq_true hk
 simp only [Rows.uptoBulkAll] at h
 omega
end Go.Proofs.Ytadlkikjfonkgaa
