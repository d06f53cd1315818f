/-
  SEAT YtnmnhgagnfodhaaDoor: KNe, KNf, KLa, KLb, KLc, KLd.
-/
import Derived.Test.YtnmnhgagnfodhaaDoorMr
namespace Go.Proofs.YtnmnhgagnfodhaaDoor.Cp
open Go.RowKit Go.Conc
set_option linter.unusedVariables false
def ReadsI (w : World) (a : Option Addr) (len : Nat) (zs : List Int) : Prop :=
 zs.length = len ∧ (∀ z ∈ zs, -9223372036854775808 ≤ z ∧ z ≤ 9223372036854775807) ∧ (a = none → len = 0) ∧ ∀ x, a = some x → ∀ i, i < len → w.cell? (x.add i) = some (.int .i64 (zs.getD i 0))
theorem ReadsI.pos {w : World} {a : Option Addr} {len : Nat} {zs : List Int} (h : ReadsI w a len zs) (hp : 0 < len) :
  ∃ b off, a = some ⟨b, off, none⟩ ∧ b < w.heap.size ∧ ∀ i, i < len → w.cell? ⟨b, off + i, none⟩ = some (.int .i64 (zs.getD i 0)) := by
 obtain ⟨hl, _, hn, hc⟩ := h
 cases a with
 | none => have := hn rfl; omega
 | some x =>
  obtain ⟨b, off, spot⟩ := x
  have h0 := hc _ rfl 0 hp
  have hspot : spot = none := by simpa [Addr.add] using World.cell?_spot h0
  subst hspot
  refine ⟨b, off, rfl, by simpa [Addr.add] using block_lt_of_cell h0, fun i hi => ?_⟩
  have k0 := hc _ rfl i hi
  rw [plain_add] at k0
  exact k0
theorem ReadsI.below {w w' : World} {a : Option Addr} {len : Nat} {zs : List Int} (h : ReadsI w a len zs) (hb : Below w.heap.size w w') : ReadsI w' a len zs :=
 ⟨h.1, h.2.1, h.2.2.1, fun x hx i hi => (hb.cell (block_lt_of_cell (h.2.2.2 x hx i hi))).trans (h.2.2.2 x hx i hi)⟩
def outB (B z : Int) : Bool := decide (z < 0) || decide (z ≥ B)
def NewE (B P S : Int) (bad : List Int) (fs : List Fc) : Int :=
 if Fits B P S = false then 40 else if bad.any (outB B) then 41 else if faultsB fs = false then 48 else 0
theorem new_fit (w : World) (B P S : Int) (hf : Fits B P S = false) (ba : Option Addr) (bn bc : Nat) (sa : Option Addr) (n c : Nat) :
  Calls Tryd.prog 5 #[.agg #[.int .i64 B, .int .i64 P, .int .i64 S], .slice ba bn bc, .slice sa n c] w fun e w' => e = .returned (.tuple #[.pointer none, .int .i64 40]) ∧ Below w.heap.size w w' := by
 have HB0 := hide (below_alloc w (.cells #[.int .i64 B, .int .i64 P, .int .i64 S] 30))
 go_enter Tryd.func5, Tryd.ntmps5
 go_wp2_with (first | (go_at_call 19; refine (mayBe_any B P S _).mono ?_; rintro e u1 ⟨rfl, b1⟩; rw [hf]; have HB1 := hide (below_trans HB0.out b1); clear b1))
 refine bodyPost_ret (v := .tuple #[.pointer none, .int .i64 40]) (by simp [results, Tryd.results5, go_sem]) rfl ?_
 exact ⟨rfl, HB1.out⟩
set_option maxRecDepth 100000 in
theorem new_bad (w : World) (B P S : Int) (hf : Fits B P S = true) (ba : Option Addr) (bn bc : Nat) (bad : List Int) (hR : ReadsI w ba bn bad) (hbn : bn ≤ 9223372036854775807) (hb : bad.any (outB B) = true) (sa : Option Addr) (n c : Nat) :
  Calls Tryd.prog 5 #[.agg #[.int .i64 B, .int .i64 P, .int .i64 S], .slice ba bn bc, .slice sa n c] w fun e w' => e = .returned (.tuple #[.pointer none, .int .i64 41]) ∧ Below w.heap.size w w' := by
 have HB0 := hide (below_alloc w (.cells #[.int .i64 B, .int .i64 P, .int .i64 S] 30))
 have HG0 := hide (alloc_new w (.cells #[.int .i64 B, .int .i64 P, .int .i64 S] 30))
 have HR := hide hR
 have HL := hide hR.1
 have HBA := hide hb
 clear hR hb
 go_enter Tryd.func5, Tryd.ntmps5
 go_wp2_with (first | (go_at_call 19; refine (mayBe_any B P S _).mono ?_; rintro e u1 ⟨rfl, b1⟩; rw [hf]; have HB1 := hide (below_trans HB0.out b1); have HG1 := hide ((b1.block _ (lt_of_block HG0.out)).trans HG0.out); clear b1))
 go_loopw [19] (fun s19 wr => ∃ m : Nat, m ≤ bn ∧ s19 = .int .i64 m ∧ Hid (wr = u1) ∧ Hid ((bad.take m).any (outB B) = false)) (fun s19 _ => bn - (intOf s19).toNat)
 case atStart => exact ⟨0, Nat.zero_le _, rfl, rfl, rfl⟩
 case round =>
  obtain ⟨m, hm, rfl, hw, HN⟩ := hrel
  have hw' := hw.out
  subst hw'
  clear hw
  by_cases hlt : m < bn
  ·obtain ⟨b, off, rfl, _, hcells⟩ := HR.out.pos (by omega)
   have k0 := hcells m hlt
   obtain ⟨z, hz⟩ : ∃ z, bad.getD m 0 = z := ⟨_, rfl⟩
   rw [hz] at k0
   have d0 := (HB1.out.cell (block_lt_of_cell k0)).trans k0
   have c0 : wr.cell? ⟨w.heap.size, 0, none⟩ = some (.int .i64 B) := by have h1 := HG1.out; simp [World.cell?, h1]
   have HTK : Hid (bad.take (m + 1) = bad.take m ++ [z]) := by
    have hml : m < bad.length := by rw [HL.out]; exact hlt
    rw [List.getD_eq_getElem?_getD, List.getElem?_eq_getElem hml] at hz
    unfold Hid
    rw [List.take_succ_eq_append_getElem hml, show bad[m] = z from hz]
   have dm : decide ((m : Int) < (bn : Int)) = true := decide_eq_true (by omega)
   have m1 : (m : Int) < (bn : Int) := by omega
   clear k0 hz hcells
   cases h1 : decide (z < 0) with
   | true =>
    go_wp2
    refine bodyPost_ret (v := .tuple #[.pointer none, .int .i64 41]) (by simp [results, Tryd.results5, go_sem]) rfl ?_
    exact ⟨rfl, HB1.out⟩
   | false =>
    cases h2 : decide (z ≥ B) with
    | true =>
     go_wp2
     refine bodyPost_ret (v := .tuple #[.pointer none, .int .i64 41]) (by simp [results, Tryd.results5, go_sem]) rfl ?_
     exact ⟨rfl, HB1.out⟩
    | false =>
     go_wp2
     exact ⟨⟨m + 1, hlt, by simp, trivial, by unfold Hid; rw [HTK.out, List.any_append, HN.out]; simp [outB, h1, h2]⟩, by simp [intOf]; omega⟩
  ·exfalso
   have h1 := HN.out
   rw [List.take_of_length_le (by rw [HL.out]; omega)] at h1
   rw [h1] at HBA
   exact absurd HBA.out (by decide)
end Go.Proofs.YtnmnhgagnfodhaaDoor.Cp
namespace Go.Proofs.YtnmnhgagnfodhaaDoor.Cp
open Go.RowKit Go.Conc
set_option linter.unusedVariables false
def rdB (b : Bl) : Bl := { b with r := true }
def rdy (l : List Bl) (m : Nat) : List Bl := (l.take m).map rdB ++ l.drop m
theorem rdy_get {l : List Bl} {m : Nat} (h : m < l.length) : (rdy l m)[m]? = l[m]? := by
 unfold rdy
 rw [List.getElem?_append_right (by simp; omega)]
 simp
 congr 1
 omega
theorem rdy_set {l : List Bl} {m : Nat} {b : Bl} (h : l[m]? = some b) : (rdy l m).set m (rdB b) = rdy l (m + 1) := by
 have hm : m < l.length := (List.getElem?_eq_some_iff.1 h).1
 have hb : l[m] = b := (List.getElem?_eq_some_iff.1 h).2
 unfold rdy
 rw [List.set_append_right _ _ (by simp; omega), List.take_succ_eq_append_getElem hm, List.map_append, hb, List.append_assoc, List.drop_eq_getElem_cons hm]
 congr 1
 simp [Nat.min_eq_left (Nat.le_of_lt hm)]
 rw [List.drop_eq_getElem_cons hm]
 rfl
theorem rdy_all (l : List Bl) : rdy l l.length = l.map rdB := by simp [rdy]
def markAt (l : List Bl) (i : Nat) : List Bl := match l[i]? with
 | some b => l.set i { b with m := true }
 | none => l
def marks (l : List Bl) (bad : List Int) : List Bl := bad.foldl (fun l z => markAt l z.toNat) l
theorem marks_len (l : List Bl) (bad : List Int) : (marks l bad).length = l.length := by
 unfold marks
 induction bad generalizing l with
 | nil => rfl
 | cons z r ih =>
  rw [List.foldl_cons, ih]
  unfold markAt
  split <;> simp
def newC (B P S : Nat) (bad : List Int) (q : List Ft) : Ch := { emptyC B P S q with bl := marks ((List.replicate B (bl0 P (pgB S))).map rdB) bad }
theorem cells3 {w : World} {g : Nat} {c0 c1 c2 : Value} {T : TypeId} (h : w.heap[g]? = some (.cells #[c0, c1, c2] T (0, 0))) : w.cell? ⟨g, 0, none⟩ = some c0 ∧ w.cell? ⟨g, 1, none⟩ = some c1 ∧ w.cell? ⟨g, 2, none⟩ = some c2 := by
 refine ⟨?_, ?_, ?_⟩ <;> simp [World.cell?, h]
set_option maxRecDepth 100000 in
set_option maxHeartbeats 4000000 in
theorem new_flt (w : World) (B P S : Int) (hf : Fits B P S = true) (ba : Option Addr) (bn bc : Nat) (bad : List Int) (hR : ReadsI w ba bn bad) (hbn : bn ≤ 9223372036854775807) (hb : bad.any (outB B) = false) (sa : Option Addr) (n c : Nat) (fs : List Fc) (hF : ReadsF w sa n fs) (hn : n ≤ 9223372036854775807) (hfs : faultsB fs = false) :
  Calls Tryd.prog 5 #[.agg #[.int .i64 B, .int .i64 P, .int .i64 S], .slice ba bn bc, .slice sa n c] w fun e w' => e = .returned (.tuple #[.pointer none, .int .i64 48]) ∧ Below w.heap.size w w' := by
 have HB0 := hide (below_alloc w (.cells #[.int .i64 B, .int .i64 P, .int .i64 S] 30))
 have HG0 := hide (alloc_new w (.cells #[.int .i64 B, .int .i64 P, .int .i64 S] 30))
 have HR := hide hR
 have HRF := hide hF
 have HL := hide hR.1
 have HBA := hide hb
 clear hR hb hF
 go_enter Tryd.func5, Tryd.ntmps5
 go_wp2_with (first | (go_at_call 19; refine (mayBe_any B P S _).mono ?_; rintro e u1 ⟨rfl, b1⟩; rw [hf]; have HB1 := hide (below_trans HB0.out b1); have HG1 := hide ((b1.block _ (lt_of_block HG0.out)).trans HG0.out); clear b1))
 go_loopw [9, 19] (fun s9 s19 wr => ∃ m : Nat, m ≤ bn ∧ s19 = .int .i64 m ∧ Hid (wr = u1)) (fun s9 s19 _ => bn - (intOf s19).toNat)
 case atStart => exact ⟨0, Nat.zero_le _, rfl, rfl⟩
 case round =>
  obtain ⟨m, hm, rfl, hw⟩ := hrel
  have hw' := hw.out
  subst hw'
  clear hw
  by_cases hlt : m < bn
  ·obtain ⟨b, off, rfl, _, hcells⟩ := HR.out.pos (by omega)
   have k0 := hcells m hlt
   obtain ⟨z, hz⟩ : ∃ z, bad.getD m 0 = z := ⟨_, rfl⟩
   rw [hz] at k0
   have d0 := (HB1.out.cell (block_lt_of_cell k0)).trans k0
   have c0 : wr.cell? ⟨w.heap.size, 0, none⟩ = some (.int .i64 B) := by have h1 := HG1.out; simp [World.cell?, h1]
   have hzo : outB B z = false := by
    have hml : m < bad.length := by rw [HL.out]; exact hlt
    rw [List.getD_eq_getElem?_getD, List.getElem?_eq_getElem hml] at hz
    have h1 := List.any_eq_false.1 HBA.out z (by rw [← hz]; exact List.getElem_mem hml)
    simpa using h1
   have dm : decide ((m : Int) < (bn : Int)) = true := decide_eq_true (by omega)
   have m1 : (m : Int) < (bn : Int) := by omega
   have h1 : decide (z < 0) = false := by unfold outB at hzo; cases h : decide (z < 0) <;> simp_all
   have h2 : decide (z ≥ B) = false := by unfold outB at hzo; cases h : decide (z ≥ B) <;> simp_all
   clear k0 hz hcells hzo
   go_wp2
   exact ⟨⟨m + 1, hlt, by simp, trivial⟩, by simp [intOf]; omega⟩
  ·have dm : decide ((m : Int) < (bn : Int)) = false := decide_eq_false (by omega)
   go_wp2_with (first | (go_at_call 20; refine (faults_any _ sa n c fs (HRF.out.below HB1.out) hn).mono ?_; rintro e u2 ⟨rfl, b2⟩; rw [hfs]; have HB2 := hide b2; clear b2))
   refine bodyPost_ret (v := .tuple #[.pointer none, .int .i64 48]) (by simp [results, Tryd.results5, go_sem]) rfl ?_
   exact ⟨rfl, below_trans HB1.out HB2.out⟩
set_option maxRecDepth 100000 in
set_option maxHeartbeats 4000000 in
theorem new_ok (w : World) (B P S : Nat) (hf : Fits B P S = true) (ba : Option Addr) (bn bc : Nat) (bad : List Int) (hR : ReadsI w ba bn bad) (hbn : bn ≤ 9223372036854775807) (hb : bad.any (outB B) = false) (sa : Option Addr) (n c : Nat) (fs : List Fc) (hF : ReadsF w sa n fs) (hn : n ≤ 9223372036854775807) (hfs : faultsB fs = true) :
  Calls Tryd.prog 5 #[.agg #[.int .i64 (B : Int), .int .i64 (P : Int), .int .i64 (S : Int)], .slice ba bn bc, .slice sa n c] w fun e w' => ∃ p, e = .returned (.tuple #[.pointer (some ⟨p, 0, none⟩), .int .i64 0]) ∧ ChipAt w' p (fun k => w.heap.size ≤ k ∧ k < w'.heap.size) (newC B P S bad (fs.map Fc.t)) ∧ Below w.heap.size w w' := by
 have hFB := of_decide_eq_true hf
 have hB4 : B ≤ 4096 := by omega
 have hP4 : P ≤ 4096 := by omega
 have hn4 : n ≤ 4096 := by
  have h1 := hF.1
  unfold faultsB at hfs
  simp at hfs
  omega
 clear hFB
 have HB0 := hide (below_alloc w (.cells #[.int .i64 (B : Int), .int .i64 (P : Int), .int .i64 (S : Int)] 30))
 have HG0 := hide (alloc_new w (.cells #[.int .i64 (B : Int), .int .i64 (P : Int), .int .i64 (S : Int)] 30))
 have HR := hide hR
 have HRF := hide hF
 have HL := hide hR.1
 have HBA := hide hb
 clear hR hb hF
 go_enter Tryd.func5, Tryd.ntmps5
 go_wp2_with (first | (go_at_call 19; refine (mayBe_any B P S _).mono ?_; rintro e u1 ⟨rfl, b1⟩; rw [hf]; have HB1 := hide (below_trans HB0.out b1); have HG1 := hide ((b1.block _ (lt_of_block HG0.out)).trans HG0.out); clear b1))
 go_loopw [9, 19] (fun s9 s19 wr => ∃ m : Nat, m ≤ bn ∧ s19 = .int .i64 m ∧ Hid (wr = u1)) (fun s9 s19 _ => bn - (intOf s19).toNat)
 case atStart => exact ⟨0, Nat.zero_le _, rfl, rfl⟩
 case round =>
  obtain ⟨m, hm, rfl, hw⟩ := hrel
  have hw' := hw.out
  subst hw'
  clear hw
  by_cases hlt : m < bn
  ·obtain ⟨b, off, rfl, _, hcells⟩ := HR.out.pos (by omega)
   have k0 := hcells m hlt
   obtain ⟨z, hz⟩ : ∃ z, bad.getD m 0 = z := ⟨_, rfl⟩
   rw [hz] at k0
   have d0 := (HB1.out.cell (block_lt_of_cell k0)).trans k0
   have c0 : wr.cell? ⟨w.heap.size, 0, none⟩ = some (.int .i64 (B : Int)) := by have h1 := HG1.out; simp [World.cell?, h1]
   have hzo : outB B z = false := by
    have hml : m < bad.length := by rw [HL.out]; exact hlt
    rw [List.getD_eq_getElem?_getD, List.getElem?_eq_getElem hml] at hz
    have h1 := List.any_eq_false.1 HBA.out z (by rw [← hz]; exact List.getElem_mem hml)
    simpa using h1
   have dm : decide ((m : Int) < (bn : Int)) = true := decide_eq_true (by omega)
   have m1 : (m : Int) < (bn : Int) := by omega
   have h1 : decide (z < 0) = false := by unfold outB at hzo; cases h : decide (z < 0) <;> simp_all
   have h2 : decide (z ≥ B) = false := by unfold outB at hzo; cases h : decide (z ≥ B) <;> simp_all
   clear k0 hz hcells hzo
   go_wp2
   exact ⟨⟨m + 1, hlt, by simp, trivial⟩, by simp [intOf]; omega⟩
  ·have dm : decide ((m : Int) < (bn : Int)) = false := decide_eq_false (by omega)
   go_wp2_with (first | (go_at_call 20; refine (faults_any _ sa n c fs (HRF.out.below HB1.out) hn).mono ?_; rintro e u2 ⟨rfl, b2⟩; rw [hfs]; have HB2 := hide (below_trans HB1.out b2); have hg2 := (b2.block _ (lt_of_block HG1.out)).trans HG1.out; obtain ⟨k0, k1, k2⟩ := cells3 hg2; clear b2 hg2) | (go_at_call 21; refine (empty_any _ B P S hB4 hP4 sa n c fs (HRF.out.below HB2.out) hn4).mono ?_; rintro e u3 ⟨p, rfl, hC, b3⟩; obtain ⟨x, bs, fe, hc⟩ := hC; have HC3 := hide hc; have HB3 := hide b3; have c3 := hc.box.c3; have enb : x.nb = B := hc.nb.trans (hc.len.trans (by simp [emptyC])); rw [enb] at c3; clear hc b3 k0 k1 k2))
   clear c3
   go_loopw [11, 43] (fun s11 s43 wr => ∃ (m : Nat) (bs : List Bc), m ≤ B ∧ s43 = .int .i64 m ∧ Hid (CAt wr p (fun k => u2.heap.size ≤ k ∧ k < u3.heap.size) { emptyC B P S (fs.map Fc.t) with bl := rdy (List.replicate B (bl0 P (pgB S))) m } x bs fe) ∧ Hid (Only (· = x.gb) u3 wr)) (fun s11 s43 _ => B - (intOf s43).toNat)
   case atStart => exact ⟨0, bs, Nat.zero_le _, rfl, HC3, Only.refl _ _⟩
   case round =>
    obtain ⟨m, bs1, hm1, rfl, HC4, HO4⟩ := hrel
    have c3 := HC4.out.box.c3
    rw [enb] at c3
    by_cases hl2 : m < B
    ·have dm2 : decide ((m : Int) < (B : Int)) = true := decide_eq_true (by omega)
     have m2 : (m : Int) < (B : Int) := by omega
     have hbl : m < bs1.length := by rw [HC4.out.len]; simp [rdy]; omega
     obtain ⟨b, hbe⟩ : ∃ b, bs1[m]? = some b := ⟨_, List.getElem?_eq_getElem hbl⟩
     have HBE := hide hbe
     have k1 := (HC4.out.blk hbe).2.1
     have fz := fun j => frozen_of_row wr x.gb j _ 76 HC4.out.row
     have HX := hide (HC4.out.setB hbe 1 (by omega) (.bool true) { b with r := true } rfl rfl rfl)
     have HOX := hide (HO4.out.trans' (Only.setCell (· = x.gb) wr x.gb (m * 4 + 1) (.bool true) rfl))
     have HV : Hid ((rdy (List.replicate B (bl0 P (pgB S))) m).set m ({ b with r := true } : Bc).v = rdy (List.replicate B (bl0 P (pgB S))) (m + 1)) := by
      have e1 : (rdy (List.replicate B (bl0 P (pgB S))) m)[m]? = some b.v := by
       have e2 : rdy (List.replicate B (bl0 P (pgB S))) m = bs1.map Bc.v := HC4.out.bl.symm
       rw [e2, List.getElem?_map, hbe]
       rfl
      rw [rdy_get (by simp; exact hl2)] at e1
      exact rdy_set e1
     clear hbe
     go_wp2
     have h9 := HX.out
     dsimp only at h9
     rw [HV.out] at h9
     exact ⟨⟨m + 1, _, hl2, by simp, h9, HOX.out⟩, by simp [intOf]; omega⟩
    ·have dm2 : decide ((m : Int) < (B : Int)) = false := decide_eq_false (by omega)
     have em : m = B := by omega
     have HC5 : Hid (CAt wr p (fun k => u2.heap.size ≤ k ∧ k < u3.heap.size) { emptyC B P S (fs.map Fc.t) with bl := marks ((List.replicate B (bl0 P (pgB S))).map rdB) (bad.take 0) } x bs1 fe) := by
      have h9 := HC4.out
      rw [em, show rdy (List.replicate B (bl0 P (pgB S))) B = (List.replicate B (bl0 P (pgB S))).map rdB by have := rdy_all (List.replicate B (bl0 P (pgB S))); rw [List.length_replicate] at this; exact this] at h9
      exact h9
     clear c3
     go_wp2
     go_loopw [13, 56] (fun s13 s56 wq => ∃ (m : Nat) (bs : List Bc), m ≤ bn ∧ s56 = .int .i64 m ∧ Hid (CAt wq p (fun k => u2.heap.size ≤ k ∧ k < u3.heap.size) { emptyC B P S (fs.map Fc.t) with bl := marks ((List.replicate B (bl0 P (pgB S))).map rdB) (bad.take m) } x bs fe) ∧ Hid (Only (· = x.gb) u3 wq)) (fun s13 s56 _ => bn - (intOf s56).toNat)
     case atStart => exact ⟨0, bs1, Nat.zero_le _, rfl, HC5, HO4⟩
     case round =>
      obtain ⟨m3, bs3, hm3, rfl, HC6, HO6⟩ := hrel
      have c3 := HC6.out.box.c3
      rw [enb] at c3
      have hgx : w.heap.size ≤ x.gb := Nat.le_trans HB2.out.size HC6.out.fb.1
      by_cases hl3 : m3 < bn
      ·obtain ⟨gB, off, rfl, hgb, hcells⟩ := HR.out.pos (by omega)
       have k0 := hcells m3 hl3
       obtain ⟨z, hz⟩ : ∃ z, bad.getD m3 0 = z := ⟨_, rfl⟩
       rw [hz] at k0
       have d0 := HO6.out.cell ((HB3.out.cell (block_lt_of_cell ((HB2.out.cell (block_lt_of_cell k0)).trans k0))).trans ((HB2.out.cell (block_lt_of_cell k0)).trans k0)) (show ¬ gB = x.gb by omega)
       have hml : m3 < bad.length := by rw [HL.out]; exact hl3
       rw [List.getD_eq_getElem?_getD, List.getElem?_eq_getElem hml] at hz
       have hz' : bad[m3] = z := hz
       have hzo : outB B z = false := by
        have h1 := List.any_eq_false.1 HBA.out z (by rw [← hz']; exact List.getElem_mem hml)
        simpa using h1
       have hz0 : 0 ≤ z ∧ z < B := by
        unfold outB at hzo
        simp at hzo
        omega
       obtain ⟨iz, rfl⟩ : ∃ iz : Nat, z = iz := ⟨z.toNat, by omega⟩
       have hiB : iz < B := by omega
       have i1 : (iz : Int) < (B : Int) := by omega
       have HTK : Hid (bad.take (m3 + 1) = bad.take m3 ++ [(iz : Int)]) := by
        unfold Hid
        rw [List.take_succ_eq_append_getElem hml, hz']
       have dm3 : decide ((m3 : Int) < (bn : Int)) = true := decide_eq_true (by omega)
       have m31 : (m3 : Int) < (bn : Int) := by omega
       have hbl : iz < bs3.length := by rw [HC6.out.len]; show iz < (marks _ _).length; rw [marks_len]; simp; exact hiB
       obtain ⟨b, hbe⟩ : ∃ b, bs3[iz]? = some b := ⟨_, List.getElem?_eq_getElem hbl⟩
       have k1 := (HC6.out.blk hbe).1
       have fz := fun j => frozen_of_row wr x.gb j _ 76 HC6.out.row
       have HX := hide (HC6.out.setB hbe 0 (by omega) (.bool true) { b with m := true } rfl rfl rfl)
       have HOX := hide (HO6.out.trans' (Only.setCell (· = x.gb) wr x.gb (iz * 4) (.bool true) rfl))
       have HV : Hid ((marks ((List.replicate B (bl0 P (pgB S))).map rdB) (bad.take m3)).set iz ({ b with m := true } : Bc).v = marks ((List.replicate B (bl0 P (pgB S))).map rdB) (bad.take (m3 + 1))) := by
        have e1 : (marks ((List.replicate B (bl0 P (pgB S))).map rdB) (bad.take m3))[iz]? = some b.v := by
         have e2 : marks ((List.replicate B (bl0 P (pgB S))).map rdB) (bad.take m3) = bs3.map Bc.v := HC6.out.bl.symm
         rw [e2, List.getElem?_map, hbe]
         rfl
        unfold Hid
        rw [HTK.out]
        conv => rhs; unfold marks
        rw [List.foldl_append]
        show _ = markAt (marks ((List.replicate B (bl0 P (pgB S))).map rdB) (bad.take m3)) iz
        unfold markAt
        rw [e1]
        rfl
       clear hbe k0 hz hz' hcells hzo hz0
       go_wp2
       have h9 := HX.out
       dsimp only at h9
       rw [HV.out] at h9
       exact ⟨⟨m3 + 1, _, hl3, by simp, h9, HOX.out⟩, by simp [intOf]; omega⟩
      ·have dm3 : decide ((m3 : Int) < (bn : Int)) = false := decide_eq_false (by omega)
       go_wp2
       refine bodyPost_ret (v := .tuple #[.pointer (some ⟨p, 0, none⟩), .int .i64 0]) (by simp [results, Tryd.results5, go_sem]) rfl ?_
       have hbw : Below w.heap.size w wr := ((Only.ofB (F := fun k => w.heap.size ≤ k) (below_trans HB2.out HB3.out)).trans HO6.out (fun k _ e => by rw [e]; exact hgx)).below (fun _ h => h) (Nat.le_refl _)
       have h9 := HC6.out
       rw [List.take_of_length_le (by rw [HL.out]; omega)] at h9
       exact ⟨p, rfl, ⟨x, bs3, fe, h9.keep (fun _ _ => rfl) (fun k hk => ⟨Nat.le_trans HB2.out.size hk.1, Nat.lt_of_lt_of_le hk.2 HO6.out.size⟩) (fun k hk => hk.2)⟩, hbw⟩
end Go.Proofs.YtnmnhgagnfodhaaDoor.Cp
namespace Go.Proofs.YtnmnhgagnfodhaaDoor.Cp
open Go.RowKit Go.Conc
set_option linter.unusedVariables false
end Go.Proofs.YtnmnhgagnfodhaaDoor.Cp
namespace Go.Proofs.YtnmnhgagnfodhaaDoor.Cp
open Go.RowKit Go.Conc
set_option linter.unusedVariables false
end Go.Proofs.YtnmnhgagnfodhaaDoor.Cp
namespace Go.Proofs.YtnmnhgagnfodhaaDoor.Cp
open Go.RowKit Go.Conc
set_option linter.unusedVariables false
structure NewV (w w' : World) (B P S : Int) (bad : List Int) (fs : List Fc) (e : Ending) : Prop where
 no : NewE B P S bad fs ≠ 0 → e = .returned (.tuple #[.pointer none, .int .i64 (NewE B P S bad fs)])
 yes : NewE B P S bad fs = 0 → ∃ p, e = .returned (.tuple #[.pointer (some ⟨p, 0, none⟩), .int .i64 0]) ∧ ChipAt w' p (fun k => w.heap.size ≤ k ∧ k < w'.heap.size) (newC B.toNat P.toNat S.toNat bad (fs.map Fc.t))
 bel : Below w.heap.size w w'
theorem New_any (w : World) (B P S : Int) (ba : Option Addr) (bn bc : Nat) (bad : List Int) (hR : ReadsI w ba bn bad) (hbn : bn ≤ 9223372036854775807) (sa : Option Addr) (n c : Nat) (fs : List Fc) (hF : ReadsF w sa n fs) (hn : n ≤ 9223372036854775807) :
  Calls Tryd.prog 5 #[.agg #[.int .i64 B, .int .i64 P, .int .i64 S], .slice ba bn bc, .slice sa n c] w fun e w' => NewV w w' B P S bad fs e := by
 cases hf : Fits B P S with
 | false =>
  have e1 : NewE B P S bad fs = 40 := by simp [NewE, hf]
  refine (new_fit w B P S hf ba bn bc sa n c).mono ?_
  rintro e w' ⟨rfl, hb⟩
  exact ⟨fun _ => by rw [e1], fun h => by (rw [e1] at h; cases h), hb⟩
 | true =>
  cases hb : bad.any (outB B) with
  | true =>
   have e1 : NewE B P S bad fs = 41 := by simp [NewE, hf, hb]
   refine (new_bad w B P S hf ba bn bc bad hR hbn hb sa n c).mono ?_
   rintro e w' ⟨rfl, hb'⟩
   exact ⟨fun _ => by rw [e1], fun h => by (rw [e1] at h; cases h), hb'⟩
  | false =>
   cases hs : faultsB fs with
   | false =>
    have e1 : NewE B P S bad fs = 48 := by simp [NewE, hf, hb, hs]
    refine (new_flt w B P S hf ba bn bc bad hR hbn hb sa n c fs hF hn hs).mono ?_
    rintro e w' ⟨rfl, hb'⟩
    exact ⟨fun _ => by rw [e1], fun h => by (rw [e1] at h; cases h), hb'⟩
   | true =>
    have e1 : NewE B P S bad fs = 0 := by simp [NewE, hf, hb, hs]
    have h0 := of_decide_eq_true hf
    obtain ⟨B', rfl⟩ : ∃ b : Nat, B = b := ⟨B.toNat, by omega⟩
    obtain ⟨P', rfl⟩ : ∃ b : Nat, P = b := ⟨P.toNat, by omega⟩
    obtain ⟨S', rfl⟩ : ∃ b : Nat, S = b := ⟨S.toNat, by omega⟩
    refine (new_ok w B' P' S' hf ba bn bc bad hR hbn hb sa n c fs hF hn hs).mono ?_
    rintro e w' ⟨p, rfl, hc, hb'⟩
    exact ⟨fun h => absurd e1 h, fun _ => ⟨p, rfl, hc⟩, hb'⟩
theorem marks_mem {P : Nat} : ∀ (bad : List Int) (l : List Bl), (∀ b ∈ l, b.ps.length = P) → ∀ b ∈ marks l bad, b.ps.length = P
 | [], l, h => h
 | z :: r, l, h => by
  refine marks_mem r (markAt l z.toNat) ?_
  unfold markAt
  split
  ·rename_i b hb
   intro c hc
   rcases List.mem_or_eq_of_mem_set hc with h1 | h1
   ·exact h c h1
   ·rw [h1]; exact h b (List.mem_of_getElem? hb)
  ·exact h
theorem newC_ok (B P S : Nat) (bad : List Int) (q : List Ft) (hf : Fits B P S = true) : (newC B P S bad q).Ok := by
 refine ⟨hf, ?_, ?_, Nat.le_refl _, fun _ _ z hz => by cases hz⟩
 ·show (marks _ _).length = B
  rw [marks_len]
  simp
 ·refine marks_mem bad _ (fun b hb => ?_)
  simp only [List.map_replicate] at hb
  rw [(List.mem_replicate.1 hb).2]
  simp [rdB, bl0, newC, emptyC]
end Go.Proofs.YtnmnhgagnfodhaaDoor.Cp
namespace Go.Proofs.YtnmnhgagnfodhaaDoor.Cp
open Go.RowKit Go.Conc
set_option linter.unusedVariables false
theorem set_ps {P : Nat} {l : List Bl} {b' : Bl} (i : Nat) (h : ∀ b ∈ l, b.ps.length = P) (h' : b'.ps.length = P) : ∀ c ∈ l.set i b', c.ps.length = P := fun c hc => by
 rcases List.mem_or_eq_of_mem_set hc with h1 | h1
 ·exact h c h1
 ·rw [h1]; exact h'
theorem note_ok {C C' : Ch} {k a b r : Int} (h : C.Ok) (hf : C'.B = C.B ∧ C'.P = C.P ∧ C'.S = C.S) (hl : C'.bl.length = C.B) (hp : ∀ b ∈ C'.bl, b.ps.length = C.P) (hc : C'.cnt ≤ C.cnt + 1) (ht : C'.tr = C.tr) (hfl : ∀ b p, ∀ z ∈ C'.fl b p, z < 8 * pgB C.S) : (noteC k a b (r, C')).2.Ok := by
 obtain ⟨e1, e2, e3⟩ := hf
 refine ⟨by show Fits C'.B C'.P C'.S = true; rw [e1, e2, e3]; exact h.fits, by show C'.bl.length = C'.B; rw [e1]; exact hl, by show ∀ b ∈ C'.bl, b.ps.length = C'.P; rw [e2]; exact hp, ?_, by show ∀ b p, ∀ z ∈ C'.fl b p, z < 8 * pgB C'.S; rw [e3]; exact hfl⟩
 show C'.cnt ≤ (C'.tr ++ _).length
 have := h.cnt
 rw [ht]
 simp
 omega
theorem ProgramC_ok (C : Ch) (h : C.Ok) (pb pp : Int) (n1 n2 : Nat) (want : List Int) : (ProgramC C pb pp n1 n2 want).2.Ok := by
 unfold ProgramC
 split
 ·exact h
 split
 ·exact h
 have same : ∀ r : Int, (noteC 1 pb pp (r, C)).2.Ok := fun r => note_ok h ⟨rfl, rfl, rfl⟩ h.bl h.ps (Nat.le_succ _) rfl h.fl
 unfold progC
 split
 ·exact same 41
 split
 ·exact same 41
 rename_i b hb
 split
 ·exact same 43
 split
 ·exact same 41
 rename_i q hq
 refine note_ok h ⟨rfl, rfl, rfl⟩ ?_ ?_ (Nat.le_refl _) rfl h.fl
 ·show (C.bl.set _ _).length = _
  simp [h.bl]
 ·refine set_ps _ h.ps ?_
  show (b.ps.set _ _).length = _
  rw [List.length_set]
  exact h.ps b (List.mem_of_getElem? hb)
theorem EraseC_ok (C : Ch) (h : C.Ok) (pb : Int) : (EraseC C pb).2.Ok := by
 unfold EraseC
 split
 ·exact h
 have same : ∀ r : Int, (noteC 2 pb 0 (r, C)).2.Ok := fun r => note_ok h ⟨rfl, rfl, rfl⟩ h.bl h.ps (Nat.le_succ _) rfl h.fl
 unfold eraseC
 split
 ·exact same 41
 split
 ·exact same 41
 rename_i b hb
 split
 ·exact same 43
 refine note_ok h ⟨rfl, rfl, rfl⟩ ?_ ?_ (Nat.le_refl _) rfl ?_
 ·show (C.bl.set _ _).length = _
  simp [h.bl]
 ·refine set_ps _ h.ps ?_
  show (erJ _ _ _ _ b.ps _).length = _
  rw [erJ_len]
  exact h.ps b (List.mem_of_getElem? hb)
 ·show ∀ x p, ∀ z ∈ flJ C.fl pb C.P x p, z < 8 * pgB C.S
  generalize C.P = j
  induction j with
  | zero => exact h.fl
  | succ j ih =>
   intro x p z hz
   unfold flJ at hz
   split at hz
   ·cases hz
   ·exact ih x p z hz
theorem MarkC_ok (C : Ch) (h : C.Ok) (pb : Int) : (MarkC C pb).2.Ok := by
 unfold MarkC
 split
 ·exact h
 have same : ∀ r : Int, (noteC 3 pb 0 (r, C)).2.Ok := fun r => note_ok h ⟨rfl, rfl, rfl⟩ h.bl h.ps (Nat.le_succ _) rfl h.fl
 unfold markC
 split
 ·exact same 41
 split
 ·exact same 41
 rename_i b hb
 refine note_ok h ⟨rfl, rfl, rfl⟩ ?_ ?_ (Nat.le_refl _) rfl h.fl
 ·show (C.bl.set _ _).length = _
  simp [h.bl]
 ·exact set_ps _ h.ps (h.ps b (List.mem_of_getElem? hb))
theorem FlipC_ok (C : Ch) (h : C.Ok) (pb pp bit : Int) : (FlipC C pb pp bit).2.Ok := by
 unfold FlipC
 split
 ·exact h
 split
 ·exact h
 split
 ·exact h
 split
 ·exact h
 rename_i q hq hif
 simp at hif
 refine ⟨h.fits, h.bl, h.ps, h.cnt, ?_⟩
 intro x p z hz
 change z ∈ flS C.fl pb pp bit.toNat x p at hz
 unfold flS at hz
 split at hz
 ·rcases List.mem_append.1 hz with h1 | h1
  ·exact h.fl _ _ z h1
  ·simp at h1
   show z < 8 * pgB C.S
   omega
 ·exact h.fl _ _ z hz
end Go.Proofs.YtnmnhgagnfodhaaDoor.Cp
