/-
  SEAT Ytadlkikjfonkgaa: Nf, La, Lb, Lc, Ld.
-/
import Derived.Test.YtadlkikjfonkgaaQp
namespace Go.Proofs.Ytadlkikjfonkgaa
open Go.RowKit Go.Conc
set_option linter.unusedVariables false
set_option maxRecDepth 100000
set_option maxHeartbeats 4000000
variable {l : List Bl} {m g B n P : Nat} {w : World} {xs : List Value}
def rdB (b : Bl) : Bl := { b with r := true }
def rdy (l : List Bl) (m : Nat) : List Bl := (l.take m).map rdB ++ l.drop m
theorem rdy_get (h : m < l.length) : (rdy l m)[m]? = l[m]? := by
 unfold rdy
 rw [List.getElem?_append_right (by simp; omega)]
 simp
 congr 1
 omega
theorem rdy_set {b : Bl} (h : l[m]? = some b) : (rdy l m).set m (rdB b) = rdy l (m + 1) := by
 have hm : m < l.length := (List.getElem?_eq_some_iff.1 h).1
 have hb : l[m] = b := (List.getElem?_eq_some_iff.1 h).2
 unfold rdy
 rw [List.set_append_right _ _ (by simp; omega), List.take_succ_eq_append_getElem hm, List.map_append, hb, List.append_assoc, List.drop_eq_getElem_cons hm]
 congr 1
 simp [Nat.min_eq_left (Nat.le_of_lt hm)]
 rw [List.drop_eq_getElem_cons hm]
 rfl
theorem rdy_all (l : List Bl) : rdy l l.length = l.map rdB := by simp [rdy]
def markAt (l : List Bl) (i : Nat) : List Bl := match l[i]? with
 | some b => l.set i { b with m := true }
 | none => l
def marks (l : List Bl) (bad : List Int) : List Bl := bad.foldl (fun l z => markAt l z.toNat) l
theorem marks_len (l : List Bl) (bad : List Int) : (marks l bad).length = l.length := by
 unfold marks
 induction bad generalizing l with
 | nil => rfl
 | cons z r ih =>
  rw [List.foldl_cons, ih]
  unfold markAt
  split <;> simp
def newC (B P S : Nat) (bad : List Int) (q : List Ft) : Ch := { emptyC B P S q with bl := marks ((List.replicate B (bl0 P (pgB S))).map rdB) bad }
theorem cells3 {c0 c1 c2 : Value} {T : TypeId} (h : w.heap[g]? = some (.cells #[c0, c1, c2] T (0, 0))) : w.cell? ⟨g, 0, none⟩ = some c0 ∧ w.cell? ⟨g, 1, none⟩ = some c1 ∧ w.cell? ⟨g, 2, none⟩ = some c2 := by
 refine ⟨?_, ?_, ?_⟩ <;> simp [World.cell?, h]
theorem new_flt (w : World) (B P S : Int) (hf : Fits B P S = true) (ba : Option Addr) (bn bc : Nat) (bad : List Int) (hR : ReadsI w ba bn bad) (hbn : bn ≤ 9223372036854775807) (hb : bad.any (outB B) = false) (sa : Option Addr) (n c : Nat) (fs : List Fc) (hF : ReadsF w sa n fs) (hn : n ≤ 9223372036854775807) (hfs : faultsB fs = false) :
  Calls Try.prog 21 #[.agg #[.int .i64 B, .int .i64 P, .int .i64 S], .slice ba bn bc, .slice sa n c] w fun e w' => e = .returned (.tuple #[.pointer none, .int .i64 48]) ∧ Below w.heap.size w w' := by
 have HB0 := J (below_alloc w (.cells #[.int .i64 B, .int .i64 P, .int .i64 S] 23))
 have HG0 := J (alloc_new w (.cells #[.int .i64 B, .int .i64 P, .int .i64 S] 23))
 have HR := J hR
 have HRF := J hF
 have HL := J hR.1
 have HBA := J hb
 clear hR hb hF
 go_enter Try.func21, Try.ntmps21
 go_wp2_with (first | (go_at_call 45; refine (mayBe_any B P S _).mono ?_; rintro e u1 ⟨rfl, b1⟩; rw [hf]; have HB1 := J (below_trans HB0.out b1); have HG1 := J ((b1.block _ (lt_of_block HG0.out)).trans HG0.out); clear b1))
 go_loopw [9, 19] (fun s9 s19 wr => ∃ m : Nat, m ≤ bn ∧ s19 = .int .i64 m ∧ Hid (wr = u1)) (fun s9 s19 _ => bn - (intOf s19).toNat)
 case atStart => exact ⟨0, Nat.zero_le _, rfl, rfl⟩
 case round =>
  obtain ⟨m, hm, rfl, hw⟩ := hrel
  have hw' := hw.out
  subst hw'
  clear hw
  by_cases hlt : m < bn
  ·obtain ⟨b, off, rfl, _, hcells⟩ := HR.out.pos (by omega)
   have k0 := hcells m hlt
   obtain ⟨z, hz⟩ : ∃ z, bad.getD m 0 = z := ⟨_, rfl⟩
   rw [hz] at k0
   have d0 := (HB1.out.cell (block_lt_of_cell k0)).trans k0
   have c0 : wr.cell? ⟨w.heap.size, 0, none⟩ = some (.int .i64 B) := by have h1 := HG1.out; simp [World.cell?, h1]
   have hzo : outB B z = false := by
    have hml : m < bad.length := by rw [HL.out]; exact hlt
    rw [List.getD_eq_getElem?_getD, List.getElem?_eq_getElem hml] at hz
    have h1 := List.any_eq_false.1 HBA.out z (by rw [← hz]; exact List.getElem_mem hml)
    simpa using h1
   have dm : decide ((m : Int) < (bn : Int)) = true := decide_eq_true (by omega)
   have m1 : (m : Int) < (bn : Int) := by omega
   have h1 : decide (z < 0) = false := by unfold outB at hzo; cases h : decide (z < 0) <;> simp_all
   have h2 : decide (z ≥ B) = false := by unfold outB at hzo; cases h : decide (z ≥ B) <;> simp_all
   clear k0 hz hcells hzo
   go_wp2
   exact ⟨⟨m + 1, hlt, by simp, trivial⟩, by simp [intOf]; omega⟩
  ·have dm : decide ((m : Int) < (bn : Int)) = false := decide_eq_false (by omega)
   go_wp2_with (first | (go_at_call 47; refine (faults_any _ sa n c fs (HRF.out.below HB1.out) hn).mono ?_; rintro e u2 ⟨rfl, b2⟩; rw [hfs]; have HB2 := J b2; clear b2))
   refine bodyPost_ret (v := .tuple #[.pointer none, .int .i64 48]) (by simp [results, Try.results21, go_sem]) rfl ?_
   exact ⟨rfl, below_trans HB1.out HB2.out⟩
theorem new_ok (w : World) (B P S : Nat) (hf : Fits B P S = true) (ba : Option Addr) (bn bc : Nat) (bad : List Int) (hR : ReadsI w ba bn bad) (hbn : bn ≤ 9223372036854775807) (hb : bad.any (outB B) = false) (sa : Option Addr) (n c : Nat) (fs : List Fc) (hF : ReadsF w sa n fs) (hn : n ≤ 9223372036854775807) (hfs : faultsB fs = true) :
  Calls Try.prog 21 #[.agg #[.int .i64 (B : Int), .int .i64 (P : Int), .int .i64 (S : Int)], .slice ba bn bc, .slice sa n c] w fun e w' => ∃ p, e = .returned (.tuple #[.pointer (some ⟨p, 0, none⟩), .int .i64 0]) ∧ ChipAt w' p (fun k => w.heap.size ≤ k ∧ k < w'.heap.size) (newC B P S bad (fs.map Fc.t)) ∧ Below w.heap.size w w' := by
 have hFB := of_decide_eq_true hf
 have hB4 : B ≤ 4096 := by omega
 have hP4 : P ≤ 4096 := by omega
 have hn4 : n ≤ 4096 := by
  have h1 := hF.1
  unfold faultsB at hfs
  simp at hfs
  omega
 clear hFB
 have HB0 := J (below_alloc w (.cells #[.int .i64 (B : Int), .int .i64 (P : Int), .int .i64 (S : Int)] 23))
 have HG0 := J (alloc_new w (.cells #[.int .i64 (B : Int), .int .i64 (P : Int), .int .i64 (S : Int)] 23))
 have HR := J hR
 have HRF := J hF
 have HL := J hR.1
 have HBA := J hb
 clear hR hb hF
 go_enter Try.func21, Try.ntmps21
 go_wp2_with (first | (go_at_call 45; refine (mayBe_any B P S _).mono ?_; rintro e u1 ⟨rfl, b1⟩; rw [hf]; have HB1 := J (below_trans HB0.out b1); have HG1 := J ((b1.block _ (lt_of_block HG0.out)).trans HG0.out); clear b1))
 go_loopw [9, 19] (fun s9 s19 wr => ∃ m : Nat, m ≤ bn ∧ s19 = .int .i64 m ∧ Hid (wr = u1)) (fun s9 s19 _ => bn - (intOf s19).toNat)
 case atStart => exact ⟨0, Nat.zero_le _, rfl, rfl⟩
 case round =>
  obtain ⟨m, hm, rfl, hw⟩ := hrel
  have hw' := hw.out
  subst hw'
  clear hw
  by_cases hlt : m < bn
  ·obtain ⟨b, off, rfl, _, hcells⟩ := HR.out.pos (by omega)
   have k0 := hcells m hlt
   obtain ⟨z, hz⟩ : ∃ z, bad.getD m 0 = z := ⟨_, rfl⟩
   rw [hz] at k0
   have d0 := (HB1.out.cell (block_lt_of_cell k0)).trans k0
   have c0 : wr.cell? ⟨w.heap.size, 0, none⟩ = some (.int .i64 (B : Int)) := by have h1 := HG1.out; simp [World.cell?, h1]
   have hzo : outB B z = false := by
    have hml : m < bad.length := by rw [HL.out]; exact hlt
    rw [List.getD_eq_getElem?_getD, List.getElem?_eq_getElem hml] at hz
    have h1 := List.any_eq_false.1 HBA.out z (by rw [← hz]; exact List.getElem_mem hml)
    simpa using h1
   have dm : decide ((m : Int) < (bn : Int)) = true := decide_eq_true (by omega)
   have m1 : (m : Int) < (bn : Int) := by omega
   have h1 : decide (z < 0) = false := by unfold outB at hzo; cases h : decide (z < 0) <;> simp_all
   have h2 : decide (z ≥ B) = false := by unfold outB at hzo; cases h : decide (z ≥ B) <;> simp_all
   clear k0 hz hcells hzo
   go_wp2
   exact ⟨⟨m + 1, hlt, by simp, trivial⟩, by simp [intOf]; omega⟩
  ·have dm : decide ((m : Int) < (bn : Int)) = false := decide_eq_false (by omega)
   go_wp2_with (first | (go_at_call 47; refine (faults_any _ sa n c fs (HRF.out.below HB1.out) hn).mono ?_; rintro e u2 ⟨rfl, b2⟩; rw [hfs]; have HB2 := J (below_trans HB1.out b2); have hg2 := (b2.block _ (lt_of_block HG1.out)).trans HG1.out; obtain ⟨k0, k1, k2⟩ := cells3 hg2; clear b2 hg2) | (go_at_call 48; refine (empty_any _ B P S hB4 hP4 sa n c fs (HRF.out.below HB2.out) hn4).mono ?_; rintro e u3 ⟨p, rfl, hC, b3⟩; obtain ⟨x, bs, fe, hc⟩ := hC; have HC3 := J hc; have HB3 := J b3; have c3 := hc.box.c3; have enb : x.nb = B := hc.nb.trans (hc.len.trans (by simp [emptyC])); rw [enb] at c3; clear hc b3 k0 k1 k2))
   clear c3
   go_loopw [11, 43] (fun s11 s43 wr => ∃ (m : Nat) (bs : List Bc), m ≤ B ∧ s43 = .int .i64 m ∧ Hid (CAt wr p (fun k => u2.heap.size ≤ k ∧ k < u3.heap.size) { emptyC B P S (fs.map Fc.t) with bl := rdy (List.replicate B (bl0 P (pgB S))) m } x bs fe) ∧ Hid (Only (· = x.gb) u3 wr)) (fun s11 s43 _ => B - (intOf s43).toNat)
   case atStart => exact ⟨0, bs, Nat.zero_le _, rfl, HC3, Only.refl _ _⟩
   case round =>
    obtain ⟨m, bs1, hm1, rfl, HC4, HO4⟩ := hrel
    have c3 := HC4.out.box.c3
    rw [enb] at c3
    by_cases hl2 : m < B
    ·have dm2 : decide ((m : Int) < (B : Int)) = true := decide_eq_true (by omega)
     have m2 : (m : Int) < (B : Int) := by omega
     have hbl : m < bs1.length := by rw [HC4.out.len]; simp [rdy]; omega
     obtain ⟨b, hbe⟩ : ∃ b, bs1[m]? = some b := ⟨_, List.getElem?_eq_getElem hbl⟩
     have HBE := J hbe
     have k1 := (HC4.out.blk hbe).2.1
     have fz := fun j => frozen_of_row wr x.gb j _ 106 HC4.out.row
     have HX := J (HC4.out.setB hbe 1 (by omega) (.bool true) { b with r := true } rfl rfl rfl)
     have HOX := J (HO4.out.trans' (Only.setCell (· = x.gb) wr x.gb (m * 4 + 1) (.bool true) rfl))
     have HV : Hid ((rdy (List.replicate B (bl0 P (pgB S))) m).set m ({ b with r := true } : Bc).v = rdy (List.replicate B (bl0 P (pgB S))) (m + 1)) := by
      have e1 : (rdy (List.replicate B (bl0 P (pgB S))) m)[m]? = some b.v := by
       have e2 : rdy (List.replicate B (bl0 P (pgB S))) m = bs1.map Bc.v := HC4.out.bl.symm
       rw [e2, List.getElem?_map, hbe]
       rfl
      rw [rdy_get (by simp; exact hl2)] at e1
      exact rdy_set e1
     clear hbe
     go_wp2
     have h9 := HX.out
     dsimp only at h9
     rw [HV.out] at h9
     exact ⟨⟨m + 1, _, hl2, by simp, h9, HOX.out⟩, by simp [intOf]; omega⟩
    ·have dm2 : decide ((m : Int) < (B : Int)) = false := decide_eq_false (by omega)
     have em : m = B := by omega
     have HC5 : Hid (CAt wr p (fun k => u2.heap.size ≤ k ∧ k < u3.heap.size) { emptyC B P S (fs.map Fc.t) with bl := marks ((List.replicate B (bl0 P (pgB S))).map rdB) (bad.take 0) } x bs1 fe) := by
      have h9 := HC4.out
      rw [em, show rdy (List.replicate B (bl0 P (pgB S))) B = (List.replicate B (bl0 P (pgB S))).map rdB by have := rdy_all (List.replicate B (bl0 P (pgB S))); rw [List.length_replicate] at this; exact this] at h9
      exact h9
     clear c3
     go_wp2
     go_loopw [13, 56] (fun s13 s56 wq => ∃ (m : Nat) (bs : List Bc), m ≤ bn ∧ s56 = .int .i64 m ∧ Hid (CAt wq p (fun k => u2.heap.size ≤ k ∧ k < u3.heap.size) { emptyC B P S (fs.map Fc.t) with bl := marks ((List.replicate B (bl0 P (pgB S))).map rdB) (bad.take m) } x bs fe) ∧ Hid (Only (· = x.gb) u3 wq)) (fun s13 s56 _ => bn - (intOf s56).toNat)
     case atStart => exact ⟨0, bs1, Nat.zero_le _, rfl, HC5, HO4⟩
     case round =>
      obtain ⟨m3, bs3, hm3, rfl, HC6, HO6⟩ := hrel
      have c3 := HC6.out.box.c3
      rw [enb] at c3
      have hgx : w.heap.size ≤ x.gb := Nat.le_trans HB2.out.size HC6.out.fb.1
      by_cases hl3 : m3 < bn
      ·obtain ⟨gB, off, rfl, hgb, hcells⟩ := HR.out.pos (by omega)
       have k0 := hcells m3 hl3
       obtain ⟨z, hz⟩ : ∃ z, bad.getD m3 0 = z := ⟨_, rfl⟩
       rw [hz] at k0
       have d0 := HO6.out.cell ((HB3.out.cell (block_lt_of_cell ((HB2.out.cell (block_lt_of_cell k0)).trans k0))).trans ((HB2.out.cell (block_lt_of_cell k0)).trans k0)) (show ¬ gB = x.gb by omega)
       have hml : m3 < bad.length := by rw [HL.out]; exact hl3
       rw [List.getD_eq_getElem?_getD, List.getElem?_eq_getElem hml] at hz
       have hz' : bad[m3] = z := hz
       have hzo : outB B z = false := by
        have h1 := List.any_eq_false.1 HBA.out z (by rw [← hz']; exact List.getElem_mem hml)
        simpa using h1
       have hz0 : 0 ≤ z ∧ z < B := by
        unfold outB at hzo
        simp at hzo
        omega
       obtain ⟨iz, rfl⟩ : ∃ iz : Nat, z = iz := ⟨z.toNat, by omega⟩
       have hiB : iz < B := by omega
       have i1 : (iz : Int) < (B : Int) := by omega
       have HTK : Hid (bad.take (m3 + 1) = bad.take m3 ++ [(iz : Int)]) := by
        unfold Hid
        rw [List.take_succ_eq_append_getElem hml, hz']
       have dm3 : decide ((m3 : Int) < (bn : Int)) = true := decide_eq_true (by omega)
       have m31 : (m3 : Int) < (bn : Int) := by omega
       have hbl : iz < bs3.length := by rw [HC6.out.len]; show iz < (marks _ _).length; rw [marks_len]; simp; exact hiB
       obtain ⟨b, hbe⟩ : ∃ b, bs3[iz]? = some b := ⟨_, List.getElem?_eq_getElem hbl⟩
       have k1 := (HC6.out.blk hbe).1
       have fz := fun j => frozen_of_row wr x.gb j _ 106 HC6.out.row
       have HX := J (HC6.out.setB hbe 0 (by omega) (.bool true) { b with m := true } rfl rfl rfl)
       have HOX := J (HO6.out.trans' (Only.setCell (· = x.gb) wr x.gb (iz * 4) (.bool true) rfl))
       have HV : Hid ((marks ((List.replicate B (bl0 P (pgB S))).map rdB) (bad.take m3)).set iz ({ b with m := true } : Bc).v = marks ((List.replicate B (bl0 P (pgB S))).map rdB) (bad.take (m3 + 1))) := by
        have e1 : (marks ((List.replicate B (bl0 P (pgB S))).map rdB) (bad.take m3))[iz]? = some b.v := by
         have e2 : marks ((List.replicate B (bl0 P (pgB S))).map rdB) (bad.take m3) = bs3.map Bc.v := HC6.out.bl.symm
         rw [e2, List.getElem?_map, hbe]
         rfl
        unfold Hid
        rw [HTK.out]
        conv => rhs; unfold marks
        rw [List.foldl_append]
        show _ = markAt (marks ((List.replicate B (bl0 P (pgB S))).map rdB) (bad.take m3)) iz
        unfold markAt
        rw [e1]
        rfl
       clear hbe k0 hz hz' hcells hzo hz0
       go_wp2
       have h9 := HX.out
       dsimp only at h9
       rw [HV.out] at h9
       exact ⟨⟨m3 + 1, _, hl3, by simp, h9, HOX.out⟩, by simp [intOf]; omega⟩
      ·have dm3 : decide ((m3 : Int) < (bn : Int)) = false := decide_eq_false (by omega)
       go_wp2
       refine bodyPost_ret (v := .tuple #[.pointer (some ⟨p, 0, none⟩), .int .i64 0]) (by simp [results, Try.results21, go_sem]) rfl ?_
       have hbw : Below w.heap.size w wr := ((Only.ofB (F := fun k => w.heap.size ≤ k) (below_trans HB2.out HB3.out)).trans HO6.out (fun k _ e => by rw [e]; exact hgx)).below (fun _ h => h) (Nat.le_refl _)
       have h9 := HC6.out
       rw [List.take_of_length_le (by rw [HL.out]; omega)] at h9
       exact ⟨p, rfl, ⟨x, bs3, fe, h9.keep (fun _ _ => rfl) (fun k hk => ⟨Nat.le_trans HB2.out.size hk.1, Nat.lt_of_lt_of_le hk.2 HO6.out.size⟩) (fun k hk => hk.2)⟩, hbw⟩
theorem lshape_any (w : World) : Calls Try.prog 20 #[] w fun e w' => e = .returned (.agg #[.int .i64 8, .int .i64 4, .int .i64 1]) ∧ Below w.heap.size w w' := by
 go_enter Try.func20, Try.ntmps20
 go_wp2
 refine bodyPost_ret (v := .agg #[.int .i64 8, .int .i64 4, .int .i64 1]) (by simp [results, Try.results20, go_sem]) rfl ⟨rfl, ?_⟩
 exact below_alloc _ _
theorem geometry_any (w : World) (p : Nat) (F : Nat → Prop) (C : Ch) (h : ChipAt w p F C) : Calls Try.prog 60 #[.pointer (some ⟨p, 0, none⟩)] w fun e w' => e = .returned (.agg #[.int .i64 (C.B : Int), .int .i64 (C.P : Int), .int .i64 (C.S : Int)]) ∧ Below w.heap.size w w' := by
 obtain ⟨x, bs, fe, hc⟩ := h
 have hp := hc.box.lt
 have c0 := hc.box.c0
 have c1 := hc.box.c1
 have c2 := hc.box.c2
 rw [hc.B] at c0
 rw [hc.P] at c1
 rw [hc.S] at c2
 clear hc
 go_enter Try.func60, Try.ntmps60
 go_wp2
 refine bodyPost_ret (v := .agg #[.int .i64 (C.B : Int), .int .i64 (C.P : Int), .int .i64 (C.S : Int)]) (by simp [results, Try.results60, go_sem]) rfl ⟨rfl, ?_⟩
 exact below_alloc _ _
theorem rSpare_any (w : World) (b p s : Int) (hf : Fits b p s = true) : Calls Try.prog 42 #[.agg #[.int .i64 b, .int .i64 p, .int .i64 s]] w fun e w' => e = .returned (.tuple #[.int .i64 (54 + 3 * s), .int .i64 0]) ∧ Below w.heap.size w w' := by
 have hs := of_decide_eq_true hf
 have s0 : 1 ≤ s := by omega
 have s1 : s ≤ 8 := by omega
 clear hs
 have HB0 := J (below_alloc w (.cells #[.int .i64 b, .int .i64 p, .int .i64 s] 23))
 have HG0 := J (alloc_new w (.cells #[.int .i64 b, .int .i64 p, .int .i64 s] 23))
 go_enter Try.func42, Try.ntmps42
 go_wp2_with (first | (go_at_call 31; refine (shape_any b p s _).mono ?_; rintro e u1 ⟨rfl, b1⟩; rw [hf]; have HB1 := J (below_trans HB0.out b1); have hg1 := (b1.block _ (lt_of_block HG0.out)).trans HG0.out; obtain ⟨k0, k1, k2⟩ := cells3 hg1; clear b1 hg1) | (go_at_call 81; refine (rspareB_any b p s _ s0 s1).mono ?_; rintro e u2 ⟨rfl, b2⟩; have HB2 := J (below_trans HB1.out b2); clear b2))
 refine bodyPost_ret (v := .tuple #[.int .i64 (54 + 3 * s), .int .i64 0]) (by simp [results, Try.results42, go_sem]) rfl ⟨rfl, ?_⟩
 exact HB2.out
def fitL (b : List Int) (n : Nat) : List Int := (List.range n).map (fun i => b.getD (i % b.length) 0)
theorem fitL_succ (b : List Int) (k : Nat) : fitL b (k + 1) = fitL b k ++ [b.getD (k % b.length) 0] := by
 unfold fitL
 rw [List.range_succ, List.map_append]
 rfl
theorem fit_any (a : Option Addr) (len cap : Nat) (b : List Int) (w : World) (h : Reads w a len b) (hl : len ≤ 9223372036854775807) (n : Nat) (hn : n ≤ 1000000) :
  Calls Try.prog 43 #[.slice a len cap, .int .i64 (n : Int)] w fun e w' => ∃ v, e = .returned v ∧ w'.ownsRow w.heap.size 5 1 v n ((fitL b n).map (Value.int .u8)) ∧ Below w.heap.size w w' := by
 obtain ⟨i0, hi, hz0, hz1, hz2⟩ := info_parts info5
 have hlen := h.1
 go_enter Try.func43, Try.ntmps43
 go_wp2
 go_loopw [5, 6] (fun v i wr => ∃ k : Nat, k ≤ n ∧ i = .int .i64 k ∧ wr.ownsRow w.heap.size 5 1 v k ((fitL b k).map (Value.int .u8)) ∧ Below w.heap.size w wr)
  (fun _ i _ => n - (intOf i).toNat)
 case atStart => exact ⟨0, Nat.zero_le _, rfl, World.ownsRow_nil _ _ _ _, Below.refl _ _⟩
 case round =>
  obtain ⟨k, hk, rfl, hown, hbel⟩ := hrel
  by_cases hlt : k < n
  ·have dk : decide ((k : Int) < (n : Int)) = true := decide_eq_true (by omega)
   by_cases h0 : len = 0
   ·subst h0
    have HZ : Hid (fitL b (k + 1) = fitL b k ++ [0]) := by
     unfold Hid
     rw [fitL_succ]
     have : b = [] := List.length_eq_zero_iff.1 (by omega)
     rw [this]
     rfl
    go_wp2_with (
     (at_builtin; refine wpList_append_own _ rfl _ _ 24 rfl w.heap.size 5 i0 (.int .u8 0) 1 1 Try.underlying24 hi hz0 hz1 hz2 rfl (by decide) _ _ _ rfl (hown.alloc _) ⟨wr.heap.size, 0, none⟩ 1 1 [.int .u8 0] rfl rfl (news_one _ _) (by simp [Value.oneCell']) (by simp [maxLen]; omega) (by omega) (by have := hbel.size; simp; omega) ?_; intro v1 w1 hown1 hgrow1 _))
    have hown2 : w1.ownsRow w.heap.size 5 1 v1 (k + 1) ((fitL b (k + 1)).map (Value.int .u8)) := by
     rw [HZ.out, List.map_append]
     exact hown1
    have hbel2 : Below w.heap.size w w1 := (hbel.alloc hbel.size _).grown hgrow1 (by have := hbel.size; simp; omega) (fun k hk => (hown.lt k hk).1)
    clear hown1 hgrow1 hown
    go_wp2
    go_roundw
    case rel => exact ⟨k + 1, by omega, by go_num, hown2, hbel2⟩
    case measure => simp [intOf]; omega
   ·have d0 : ((len : Int) == 0) = false := by simp; omega
    obtain ⟨g, off, rfl, hb, hcell⟩ := h.pos (by omega)
    have hml : k % len < len := Nat.mod_lt _ (by omega)
    obtain ⟨r, hr⟩ : ∃ r, r = k % len := ⟨_, rfl⟩
    obtain ⟨z, hz⟩ : ∃ z, z = b.getD r 0 := ⟨_, rfl⟩
    have hcx : wr.cell? ⟨g, off + r, none⟩ = some (.int .u8 z) := by rw [hz]; exact (hbel.cell (by exact hb)).trans (hcell r (by omega))
    have hrm : Int.tmod (k : Int) (len : Int) = (r : Int) := by rw [hr]; exact Int.ofNat_tmod k len
    have r1 : (r : Int) < (len : Int) := by omega
    have HZ : Hid (fitL b (k + 1) = fitL b k ++ [z]) := by
     unfold Hid
     rw [fitL_succ, hz, hr, hlen]
    clear hz hr
    go_wp2_with (
     (at_builtin; refine wpList_append_own _ rfl _ _ 24 rfl w.heap.size 5 i0 (.int .u8 0) 1 1 Try.underlying24 hi hz0 hz1 hz2 rfl (by decide) _ _ _ rfl (hown.alloc _) ⟨wr.heap.size, 0, none⟩ 1 1 [.int .u8 z] rfl rfl (news_one _ _) (by simp [Value.oneCell']) (by simp [maxLen]; omega) (by omega) (by have := hbel.size; simp; omega) ?_; intro v1 w1 hown1 hgrow1 _))
    have hown2 : w1.ownsRow w.heap.size 5 1 v1 (k + 1) ((fitL b (k + 1)).map (Value.int .u8)) := by
     rw [HZ.out, List.map_append]
     exact hown1
    have hbel2 : Below w.heap.size w w1 := (hbel.alloc hbel.size _).grown hgrow1 (by have := hbel.size; simp; omega) (fun k hk => (hown.lt k hk).1)
    clear hown1 hgrow1 hown hcx
    go_wp2
    go_roundw
    case rel => exact ⟨k + 1, by omega, by go_num, hown2, hbel2⟩
    case measure => simp [intOf]; omega
  ·have dk : decide ((k : Int) < (n : Int)) = false := decide_eq_false (by omega)
   have ek : k = n := by omega
   subst ek
   go_wp2
   go_ret
   exact ⟨_, rfl, hown, hbel⟩
theorem fitL_one (v : Int) (n : Nat) : fitL [v] n = List.replicate n v := by
 induction n with
 | zero => rfl
 | succ n ih => rw [fitL_succ, ih, List.replicate_succ']; simp [Nat.mod_one]
structure EvV (w w' : World) (S : Nat) (v : Int) (e : Ending) : Prop where
 ex : ∃ g1 c1 g2 c2, e = .returned (.agg #[.slice (some ⟨g1, 0, none⟩) (256 * S) c1, .slice (some ⟨g2, 0, none⟩) (54 + 3 * S) c2]) ∧ Own w' w.heap.size g1 (256 * S) c1 (List.replicate (256 * S) v) ∧ Own w' w.heap.size g2 (54 + 3 * S) c2 (List.replicate (54 + 3 * S) v)
 bel : Below w.heap.size w w'
theorem reads_one {v : Int} (h : w.heap[g]? = some (.cells #[.int .u8 v] 5 (0, 0))) (hv : 0 ≤ v ∧ v ≤ 255) : Reads w (some ⟨g, 0, none⟩) 1 [v] :=
 ⟨rfl, fun x hx => by simp at hx; rw [hx]; exact hv, (fun h => by cases h), fun x hx i hi => by
  cases hx
  have : i = 0 := by omega
  subst this
  exact cells1 h⟩
theorem own_le {B0 : Nat} {v : Value} (h : w.ownsRow B 5 1 v n xs) (hB : B0 ≤ B) : w.ownsRow B0 5 1 v n xs := by
 obtain ⟨h1, h2⟩ := h
 exact ⟨h1, h2.imp (fun h => h) (fun ⟨g, cap, cur, a1, a2, a3⟩ => ⟨g, cap, cur, a1, Nat.le_trans hB a2, a3⟩)⟩
theorem own_keep4 {w' : World} {v : Value} (h : w.ownsRow B 5 1 v n xs) (hb : Below w.heap.size w w') : w'.ownsRow B 5 1 v n xs :=
 owns_keep h (fun g hg => by obtain ⟨cs, hc⟩ := own_tag h hg; exact hb.block g (lt_of_block hc))
theorem even_any (w : World) (B P S : Nat) (hf : Fits B P S = true) (v : Int) (hv : 0 ≤ v ∧ v ≤ 255) :
  Calls Try.prog 54 #[.agg #[.int .i64 (B : Int), .int .i64 (P : Int), .int .i64 (S : Int)], .int .u8 v] w fun e w' => EvV w w' S v e := by
 have hs := of_decide_eq_true hf
 have s0 : 1 ≤ S := by omega
 have s1 : S ≤ 8 := by omega
 clear hs
 obtain ⟨n1, hn1⟩ : ∃ n1, n1 = 256 * S := ⟨_, rfl⟩
 obtain ⟨n2, hn2⟩ : ∃ n2, n2 = 54 + 3 * S := ⟨_, rfl⟩
 have HN1 : Hid ((256 : Int) * (S : Int) = (n1 : Int)) := by unfold Hid; omega
 have HN2 : Hid ((54 : Int) + 3 * (S : Int) = (n2 : Int)) := by unfold Hid; omega
 have HE := J (And.intro hn1 hn2)
 have p1 : 0 < n1 := by omega
 have p2 : 0 < n2 := by omega
 have l1 : n1 ≤ 1000000 := by omega
 have l2 : n2 ≤ 1000000 := by omega
 clear hn1 hn2
 obtain ⟨u0, hu0⟩ : ∃ u, u = (w.alloc (.cells #[.int .i64 (B : Int), .int .i64 (P : Int), .int .i64 (S : Int)] 23)).alloc (.cells #[.slice none 0 0, .slice none 0 0] 36) := ⟨_, rfl⟩
 have HB0 : Hid (Below w.heap.size w u0) := by rw [hu0]; exact below_trans (below_alloc _ _) (below_alloc _ _)
 have HG0 : Hid (u0.heap[w.heap.size]? = some (.cells #[.int .i64 (B : Int), .int .i64 (P : Int), .int .i64 (S : Int)] 23 (0, 0))) := by rw [hu0]; exact (alloc_old _ _ (by simp)).trans (alloc_new w _)
 have HX0 : Hid (u0.heap[w.heap.size + 1]? = some (.cells #[.slice none 0 0, .slice none 0 0] 36 (0, 0))) := by rw [hu0]; have h2 := alloc_new (w.alloc (.cells #[.int .i64 (B : Int), .int .i64 (P : Int), .int .i64 (S : Int)] 23)) (.cells #[.slice none 0 0, .slice none 0 0] 36); rw [alloc_size] at h2; exact h2
 go_enter Try.func54, Try.ntmps54
 go_wp2_with (first
  | (go_at_call 42; rw [← hu0]; refine (rSpare_any _ (B : Int) (P : Int) (S : Int) hf).mono ?_; rintro e u1 ⟨rfl, b1⟩; rw [HN2.out]; have HB1 := J (below_trans HB0.out b1); have hg1 := (b1.block _ (lt_of_block HG0.out)).trans HG0.out; have HX1 := J ((b1.block _ (lt_of_block HX0.out)).trans HX0.out); obtain ⟨k0, k1, k2⟩ := cells3 hg1; have hlt1 := lt_of_block hg1; clear b1 hg1)
  | (go_at_call 44; refine (rdata_any (B : Int) (P : Int) (S : Int) _ (by omega) (by omega)).mono ?_; rintro e u2 ⟨rfl, b2⟩; rw [HN1.out]; have HR2 := J ((reads_one (alloc_new u1 (.cells #[.int .u8 v] 5)) hv).below b2); have HB2 := J (below_trans (below_trans HB1.out (below_alloc u1 (.cells #[.int .u8 v] 5))) b2); have HX2 := J ((b2.block _ (by have h9 := lt_of_block HX1.out; simp; omega)).trans ((alloc_old u1 (.cells #[.int .u8 v] 5) (lt_of_block HX1.out)).trans HX1.out)); clear b2 k0 k1 k2 hlt1)
  | (go_at_call 43; refine (fit_any _ 1 1 [v] _ (reads_one (alloc_new u3 (.cells #[.int .u8 v] 5)) hv) (by omega) n2 l2).mono ?_; rintro e u4 ⟨vb, rfl, o2, b4⟩; obtain ⟨g2, c2, rfl, _⟩ := own_shape o2 p2; have HB4 := J (below_trans (below_trans HB3.out (below_alloc u3 (.cells #[.int .u8 v] 5))) b4); have HO2 := J (own_le (B0 := w.heap.size) o2 (by simp; have := HB3.out.size; omega)); have hx4 := (b4.block _ (by have h9 := lt_of_block HX3.out; simp; omega)).trans ((alloc_old u3 (.cells #[.int .u8 v] 5) (lt_of_block HX3.out)).trans HX3.out); have HX4 := J hx4; have HO1b := J (own_keep4 HO1.out (below_trans (below_alloc u3 (.cells #[.int .u8 v] 5)) b4)); obtain ⟨y0, y1⟩ := cells2 hx4; have fz := fun j => frozen_of_row u4 (w.heap.size + 1) j _ 36 hx4; clear b4 o2 hx4)
  | (go_at_call 43; refine (fit_any _ 1 1 [v] _ HR2.out (by omega) n1 l1).mono ?_; rintro e u3 ⟨va, rfl, o1, b3⟩; obtain ⟨g1, c1, rfl, _⟩ := own_shape o1 p1; have HB3 := J (below_trans HB2.out b3); have HO1 := J (own_le o1 HB2.out.size); have HX3 := J ((b3.block _ (lt_of_block HX2.out)).trans HX2.out); clear b3 o1))
 have x5 := heap_setCell_same (u4.setCell ⟨w.heap.size + 1, 0, none⟩ (.slice (some ⟨g1, 0, none⟩) n1 c1)) (w.heap.size + 1) 1 #[.slice (some ⟨g1, 0, none⟩) n1 c1, .slice none 0 0] 36 (.slice (some ⟨g2, 0, none⟩) n2 c2) (heap_setCell_same u4 (w.heap.size + 1) 0 #[.slice none 0 0, .slice none 0 0] 36 (.slice (some ⟨g1, 0, none⟩) n1 c1) HX4.out)
 have o5 := (Only.setCell (· = w.heap.size + 1) u4 (w.heap.size + 1) 0 (.slice (some ⟨g1, 0, none⟩) n1 c1) rfl).trans' (Only.setCell (· = w.heap.size + 1) _ (w.heap.size + 1) 1 (.slice (some ⟨g2, 0, none⟩) n2 c2) rfl)
 generalize hz : World.setCell _ ⟨w.heap.size + 1, 1, none⟩ _ = z at x5 o5 ⊢
 clear hz y0 y1 fz
 obtain ⟨y0, y1⟩ := cells2 x5
 refine bodyPost_ret (v := .agg #[.slice (some ⟨g1, 0, none⟩) n1 c1, .slice (some ⟨g2, 0, none⟩) n2 c2]) (by simp [results, Try.results54, go_sem, y0, y1]) rfl ?_
 have kp : ∀ {g n c : Nat} {xs : List Value}, u4.ownsRow w.heap.size 5 1 (.slice (some ⟨g, 0, none⟩) n c) n xs → z.ownsRow w.heap.size 5 1 (.slice (some ⟨g, 0, none⟩) n c) n xs := fun h => owns_keep h (fun k hk => by
  obtain ⟨cs, hc⟩ := own_tag h hk
  exact o5.block k (lt_of_block hc) (tag_ne hc HX4.out (t := 5) (u := 36) rfl rfl (by decide)))
 have q1 := kp HO1b.out
 have q2 := kp HO2.out
 rw [fitL_one] at q1 q2
 obtain ⟨e1, e2⟩ := HE.out
 subst e1 e2
 exact ⟨⟨g1, c1, g2, c2, rfl, q1, q2⟩, ((Only.ofB (F := fun k => w.heap.size ≤ k) HB4.out).trans o5 (fun k _ e => by omega)).below (fun _ h => h) (Nat.le_refl _)⟩
structure NewV (w w' : World) (B P S : Int) (bad : List Int) (fs : List Fc) (e : Ending) : Prop where
 no : NewE B P S bad fs ≠ 0 → e = .returned (.tuple #[.pointer none, .int .i64 (NewE B P S bad fs)])
 yes : NewE B P S bad fs = 0 → ∃ p, e = .returned (.tuple #[.pointer (some ⟨p, 0, none⟩), .int .i64 0]) ∧ ChipAt w' p (fun k => w.heap.size ≤ k ∧ k < w'.heap.size) (newC B.toNat P.toNat S.toNat bad (fs.map Fc.t))
 bel : Below w.heap.size w w'
theorem New_any (w : World) (B P S : Int) (ba : Option Addr) (bn bc : Nat) (bad : List Int) (hR : ReadsI w ba bn bad) (hbn : bn ≤ 9223372036854775807) (sa : Option Addr) (n c : Nat) (fs : List Fc) (hF : ReadsF w sa n fs) (hn : n ≤ 9223372036854775807) :
  Calls Try.prog 21 #[.agg #[.int .i64 B, .int .i64 P, .int .i64 S], .slice ba bn bc, .slice sa n c] w fun e w' => NewV w w' B P S bad fs e := by
 cases hf : Fits B P S with
 | false =>
  have e1 : NewE B P S bad fs = 40 := by simp [NewE, hf]
  refine (new_fit w B P S hf ba bn bc sa n c).mono ?_
  rintro e w' ⟨rfl, hb⟩
  exact ⟨fun _ => by rw [e1], fun h => by (rw [e1] at h; cases h), hb⟩
 | true =>
  cases hb : bad.any (outB B) with
  | true =>
   have e1 : NewE B P S bad fs = 41 := by simp [NewE, hf, hb]
   refine (new_bad w B P S hf ba bn bc bad hR hbn hb sa n c).mono ?_
   rintro e w' ⟨rfl, hb'⟩
   exact ⟨fun _ => by rw [e1], fun h => by (rw [e1] at h; cases h), hb'⟩
  | false =>
   cases hs : faultsB fs with
   | false =>
    have e1 : NewE B P S bad fs = 48 := by simp [NewE, hf, hb, hs]
    refine (new_flt w B P S hf ba bn bc bad hR hbn hb sa n c fs hF hn hs).mono ?_
    rintro e w' ⟨rfl, hb'⟩
    exact ⟨fun _ => by rw [e1], fun h => by (rw [e1] at h; cases h), hb'⟩
   | true =>
    have e1 : NewE B P S bad fs = 0 := by simp [NewE, hf, hb, hs]
    have h0 := of_decide_eq_true hf
    obtain ⟨B', rfl⟩ : ∃ b : Nat, B = b := ⟨B.toNat, by omega⟩
    obtain ⟨P', rfl⟩ : ∃ b : Nat, P = b := ⟨P.toNat, by omega⟩
    obtain ⟨S', rfl⟩ : ∃ b : Nat, S = b := ⟨S.toNat, by omega⟩
    refine (new_ok w B' P' S' hf ba bn bc bad hR hbn hb sa n c fs hF hn hs).mono ?_
    rintro e w' ⟨p, rfl, hc, hb'⟩
    exact ⟨fun h => absurd e1 h, fun _ => ⟨p, rfl, hc⟩, hb'⟩
theorem marks_mem {P : Nat} : ∀ (bad : List Int) (l : List Bl), (∀ b ∈ l, b.ps.length = P) → ∀ b ∈ marks l bad, b.ps.length = P
 | [], l, h => h
 | z :: r, l, h => by
  refine marks_mem r (markAt l z.toNat) ?_
  unfold markAt
  split
  ·rename_i b hb
   intro c hc
   rcases List.mem_or_eq_of_mem_set hc with h1 | h1
   ·exact h c h1
   ·rw [h1]; exact h b (List.mem_of_getElem? hb)
  ·exact h
theorem newC_ok (B P S : Nat) (bad : List Int) (q : List Ft) (hf : Fits B P S = true) : (newC B P S bad q).Ok := by
 refine ⟨hf, ?_, ?_, Nat.le_refl _, fun _ _ z hz => by cases hz⟩
 ·show (marks _ _).length = B
  rw [marks_len]
  simp
 ·refine marks_mem bad _ (fun b hb => ?_)
  simp only [List.map_replicate] at hb
  rw [(List.mem_replicate.1 hb).2]
  simp [rdB, bl0, newC, emptyC]
theorem set_ps {b' : Bl} (i : Nat) (h : ∀ b ∈ l, b.ps.length = P) (h' : b'.ps.length = P) : ∀ c ∈ l.set i b', c.ps.length = P := fun c hc => by
 rcases List.mem_or_eq_of_mem_set hc with h1 | h1
 ·exact h c h1
 ·rw [h1]; exact h'
theorem note_ok {C C' : Ch} {k a b r : Int} (h : C.Ok) (hf : C'.B = C.B ∧ C'.P = C.P ∧ C'.S = C.S) (hl : C'.bl.length = C.B) (hp : ∀ b ∈ C'.bl, b.ps.length = C.P) (hc : C'.cnt ≤ C.cnt + 1) (ht : C'.tr = C.tr) (hfl : ∀ b p, ∀ z ∈ C'.fl b p, z < 8 * pgB C.S) : (noteC k a b (r, C')).2.Ok := by
 obtain ⟨e1, e2, e3⟩ := hf
 refine ⟨by show Fits C'.B C'.P C'.S = true; rw [e1, e2, e3]; exact h.fits, by show C'.bl.length = C'.B; rw [e1]; exact hl, by show ∀ b ∈ C'.bl, b.ps.length = C'.P; rw [e2]; exact hp, ?_, by show ∀ b p, ∀ z ∈ C'.fl b p, z < 8 * pgB C'.S; rw [e3]; exact hfl⟩
 show C'.cnt ≤ (C'.tr ++ _).length
 have := h.cnt
 rw [ht]
 simp
 omega
theorem ProgramC_ok (C : Ch) (h : C.Ok) (pb pp : Int) (n1 n2 : Nat) (want : List Int) : (ProgramC C pb pp n1 n2 want).2.Ok := by
 unfold ProgramC
 split
 ·exact h
 split
 ·exact h
 have same : ∀ r : Int, (noteC 1 pb pp (r, C)).2.Ok := fun r => note_ok h ⟨rfl, rfl, rfl⟩ h.bl h.ps (Nat.le_succ _) rfl h.fl
 unfold progC
 split
 ·exact same 41
 split
 ·exact same 41
 rename_i b hb
 split
 ·exact same 43
 split
 ·exact same 41
 rename_i q hq
 refine note_ok h ⟨rfl, rfl, rfl⟩ ?_ ?_ (Nat.le_refl _) rfl h.fl
 ·show (C.bl.set _ _).length = _
  simp [h.bl]
 ·refine set_ps _ h.ps ?_
  show (b.ps.set _ _).length = _
  rw [List.length_set]
  exact h.ps b (List.mem_of_getElem? hb)
theorem EraseC_ok (C : Ch) (h : C.Ok) (pb : Int) : (EraseC C pb).2.Ok := by
 unfold EraseC
 split
 ·exact h
 have same : ∀ r : Int, (noteC 2 pb 0 (r, C)).2.Ok := fun r => note_ok h ⟨rfl, rfl, rfl⟩ h.bl h.ps (Nat.le_succ _) rfl h.fl
 unfold eraseC
 split
 ·exact same 41
 split
 ·exact same 41
 rename_i b hb
 split
 ·exact same 43
 refine note_ok h ⟨rfl, rfl, rfl⟩ ?_ ?_ (Nat.le_refl _) rfl ?_
 ·show (C.bl.set _ _).length = _
  simp [h.bl]
 ·refine set_ps _ h.ps ?_
  show (erJ _ _ _ _ b.ps _).length = _
  rw [erJ_len]
  exact h.ps b (List.mem_of_getElem? hb)
 ·show ∀ x p, ∀ z ∈ flJ C.fl pb C.P x p, z < 8 * pgB C.S
  generalize C.P = j
  induction j with
  | zero => exact h.fl
  | succ j ih =>
   intro x p z hz
   unfold flJ at hz
   split at hz
   ·cases hz
   ·exact ih x p z hz
theorem MarkC_ok (C : Ch) (h : C.Ok) (pb : Int) : (MarkC C pb).2.Ok := by
 unfold MarkC
 split
 ·exact h
 have same : ∀ r : Int, (noteC 3 pb 0 (r, C)).2.Ok := fun r => note_ok h ⟨rfl, rfl, rfl⟩ h.bl h.ps (Nat.le_succ _) rfl h.fl
 unfold markC
 split
 ·exact same 41
 split
 ·exact same 41
 rename_i b hb
 refine note_ok h ⟨rfl, rfl, rfl⟩ ?_ ?_ (Nat.le_refl _) rfl h.fl
 ·show (C.bl.set _ _).length = _
  simp [h.bl]
 ·exact set_ps _ h.ps (h.ps b (List.mem_of_getElem? hb))
theorem FlipC_ok (C : Ch) (h : C.Ok) (pb pp bit : Int) : (FlipC C pb pp bit).2.Ok := by
 unfold FlipC
 split
 ·exact h
 split
 ·exact h
 split
 ·exact h
 split
 ·exact h
 rename_i q hq hif
 simp at hif
 refine ⟨h.fits, h.bl, h.ps, h.cnt, ?_⟩
 intro x p z hz
 change z ∈ flS C.fl pb pp bit.toNat x p at hz
 unfold flS at hz
 split at hz
 ·rcases List.mem_append.1 hz with h1 | h1
  ·exact h.fl _ _ z h1
  ·simp at h1
   show z < 8 * pgB C.S
   omega
 ·exact h.fl _ _ z hz
theorem On_ok (C : Ch) (h : C.Ok) : ({ C with dark := false } : Ch).Ok := ⟨h.fits, h.bl, h.ps, h.cnt, h.fl⟩
end Go.Proofs.Ytadlkikjfonkgaa
