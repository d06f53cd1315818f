/-
  SEAT Ytadlkikjfonkgaa: Xo.
-/
import Derived.Test.YtadlkikjfonkgaaQa
import Derived.Test.YtadlkikjfonkgaaQbc
import Derived.Test.YtadlkikjfonkgaaQbd
namespace Go.Proofs.Ytadlkikjfonkgaa
open Go.RowKit Go.Conc
set_option linter.unusedVariables false
set_option maxRecDepth 100000
set_option maxHeartbeats 4000000
variable {u w : World} {g n m i : Nat} {v1 v2 v3 : Value} {z : Int} {bad : List Int}
theorem news3 {T : TypeId} (h : u.heap[g]? = some (.cells #[v1, v2, v3] T (0, 0))) : ∀ j y, ([v1, v2, v3] : List Value)[j]? = some y → u.cell? ((⟨g, 0, none⟩ : Addr).add j) = some y := by
 obtain ⟨h0, h1, h2⟩ := cells3 h
 intro j y hy
 rw [plain_add, Nat.zero_add]
 match j, hy with
 | 0, hy => simp at hy; subst hy; exact h0
 | 1, hy => simp at hy; subst hy; exact h1
 | 2, hy => simp at hy; subst hy; exact h2
theorem news4 {v4 : Value} {T : TypeId} (h : u.heap[g]? = some (.cells #[v1, v2, v3, v4] T (0, 0))) : ∀ j y, ([v1, v2, v3, v4] : List Value)[j]? = some y → u.cell? ((⟨g, 0, none⟩ : Addr).add j) = some y := by
 obtain ⟨h0, h1, h2, h3⟩ := cells4 h
 intro j y hy
 rw [plain_add, Nat.zero_add]
 match j, hy with
 | 0, hy => simp at hy; subst hy; exact h0
 | 1, hy => simp at hy; subst hy; exact h1
 | 2, hy => simp at hy; subst hy; exact h2
 | 3, hy => simp at hy; subst hy; exact h3
theorem cells8 {c0 c1 c2 c3 c4 c5 c6 c7 : Value} {T : TypeId} {fr : Nat × Nat} (h : w.heap[g]? = some (.cells #[c0, c1, c2, c3, c4, c5, c6, c7] T fr)) : w.cell? ⟨g, 3, none⟩ = some c3 := by
 simp only [World.cell?, h]
 rfl
theorem rep255 (L : Nat) : ∀ z ∈ List.replicate L (255 : Int), (0 : Int) ≤ z ∧ z ≤ 255 := fun z hz => by rw [(List.mem_replicate.1 hz).2]; decide
theorem info144 : (Try.prog.info? 144).map (fun i => (i.zero, i.size, i.bytes)) = some (some (.agg #[.slice none 0 0, .slice none 0 0, .bool false]), 3, 56) := by kernel_rfl
theorem info142 : (Try.prog.info? 142).map (fun i => (i.zero, i.size, i.bytes)) = some (some (.agg #[.slice none 0 0, .bool false, .bool false, .int .i64 0]), 4, 40) := by kernel_rfl
theorem RAt.base {w0 : World} {p : Nat} {F : Nat → Prop} {C : Ch} {fs : List Fc} {x : Rx} {rs : List Rc} (h : RAt w u p F C fs x rs) (h0 : Below w0.heap.size w0 w) (hF : ReadsF w0 x.fa x.fn fs) : RAt w0 u p F C fs x rs :=
 ⟨h0.trans (h.old.mono h0.size), fun k hk => Nat.le_trans h0.size (h.lo k hk), hF, h.box, h.fp, h.B, h.P, h.S, h.nr, h.dark, h.cnt, h.row, h.fb, h.bl, h.rok, h.gs, h.far, h.fl, h.q, h.tr, h.tl, h.ft, h.fin⟩
structure RNew (w w' : World) (B P S : Int) (bad : List Int) (fs : List Fc) (sa : Option Addr) (n : Nat) (e : Ending) : Prop where
 no : NewE B P S bad fs ≠ 0 → e = .returned (.tuple #[.pointer none, .int .i64 (NewE B P S bad fs)])
 yes : NewE B P S bad fs = 0 → ∃ p, e = .returned (.tuple #[.pointer (some ⟨p, 0, none⟩), .int .i64 0]) ∧ ∃ x rs, RAt w w' p (Nws w w') (newC B.toNat P.toNat S.toNat bad (fs.map Fc.t)) fs x rs ∧ x.fa = sa ∧ x.fn = n
 bel : Below w.heap.size w w'
theorem rnew_no {w' : World} {B P S : Int} {fs : List Fc} {sa : Option Addr} (h : NewE B P S bad fs = z) (h0 : z ≠ 0) (hb : Below w.heap.size w w') : RNew w w' B P S bad fs sa n (.returned (.tuple #[.pointer none, .int .i64 z])) :=
 ⟨fun _ => by rw [h], fun e => absurd (h.symm.trans e) h0, hb⟩
theorem any_take {f : Int → Bool} (h : ∀ y ∈ bad.take m, f y = false) (hz : bad[m]? = some z) (hf : f z = false) : ∀ y ∈ bad.take (m + 1), f y = false := fun y hy => by
 rw [List.take_add_one, hz] at hy
 rcases List.mem_append.1 hy with h9 | h9
 ·exact h y h9
 ·have e9 : y = z := by simpa using h9
  rw [e9]; exact hf
theorem ReadsI.at {a : Option Addr} {zs : List Int} (h : ReadsI w a n zs) (hm : m < n) : ∃ b off z, a = some ⟨b, off, none⟩ ∧ zs[m]? = some z ∧ w.cell? ⟨b, off + m, none⟩ = some (.int .i64 z) := by
 obtain ⟨b, off, e, _, hc⟩ := h.pos (by omega)
 have hl := h.1
 refine ⟨b, off, zs.getD m 0, e, ?_, hc m hm⟩
 rw [List.getD_eq_getElem?_getD, List.getElem?_eq_getElem (by omega)]
 rfl
theorem markAt_some {l : List Bl} {v : Bl} (h : l[i]? = some v) : markAt l i = l.set i { v with m := true } := by unfold markAt; rw [h]
theorem newC_mark {B P S : Nat} {q : List Ft} {v : Bl} (h : (newC B P S (bad.take m) q).bl[i]? = some v) (hz : bad[m]? = some (i : Int)) : { newC B P S (bad.take m) q with bl := (newC B P S (bad.take m) q).bl.set i { v with m := true } } = newC B P S (bad.take (m + 1)) q := by
 have h2 : (marks ((List.replicate B (bl0 P (pgB S))).map rdB) (bad.take m))[i]? = some v := h
 unfold newC
 simp only
 congr 1
 have e3 : marks ((List.replicate B (bl0 P (pgB S))).map rdB) (bad.take (m + 1)) = markAt (marks ((List.replicate B (bl0 P (pgB S))).map rdB) (bad.take m)) i := by
  rw [List.take_add_one, hz]
  show List.foldl _ _ (bad.take m ++ [(i : Int)]) = _
  rw [List.foldl_append]
  rfl
 rw [e3, markAt_some h2]
set_option maxHeartbeats 8000000 in
theorem rNew_any (w : World) (B P S : Int) (ba : Option Addr) (bn bc : Nat) (bad : List Int) (hR : ReadsI w ba bn bad) (hbn : bn ≤ 9223372036854775807) (sa : Option Addr) (n cp : Nat) (fs : List Fc) (hF : ReadsF w sa n fs) (hn : n ≤ 9223372036854775807) :
  Calls Try.prog 64 #[.agg #[.int .i64 B, .int .i64 P, .int .i64 S], .slice ba bn bc, .slice sa n cp] w fun e w' => RNew w w' B P S bad fs sa n e := by
 have HBB := J (below_alloc w (.cells #[.int .i64 B, .int .i64 P, .int .i64 S] 23))
 have HX0 := J (alloc_new w (.cells #[.int .i64 B, .int .i64 P, .int .i64 S] 23))
 cases hf : Fits B P S with
 | false =>
  have eN : NewE B P S bad fs = 40 := by unfold NewE; rw [if_pos hf]
  go_enter Try.func64, Try.ntmps64
  go_wp2_with (first | (go_at_call 31; refine (shape_any B P S _).mono ?_; rintro e u1 ⟨rfl, b1⟩; rw [hf]; have HB1 := J (below_trans HBB.out b1); clear b1))
  go_ret2
  exact rnew_no eN (by decide) HB1.out
 | true =>
  have hfx := of_decide_eq_true hf
  obtain ⟨B, rfl⟩ : ∃ q : Nat, B = q := ⟨B.toNat, by omega⟩
  obtain ⟨P, rfl⟩ : ∃ q : Nat, P = q := ⟨P.toNat, by omega⟩
  obtain ⟨S, rfl⟩ : ∃ q : Nat, S = q := ⟨S.toNat, by omega⟩
  have hS : 1 ≤ S ∧ S ≤ 8 := by omega
  have hB2 : B ≤ 4096 := by omega
  have hP2 : P ≤ 256 := by omega
  have hB0 : 8 ≤ B := by omega
  have hP0 : 4 ≤ P := by omega
  obtain ⟨i144, hI1, hI2, hI3, hI4⟩ := info_parts info144
  obtain ⟨i142, hJ1, hJ2, hJ3, hJ4⟩ := info_parts info142
  obtain ⟨L, hLe⟩ : ∃ L, L = pgB S := ⟨_, rfl⟩
  have HLE := J hLe
  have hL2 : L ≤ 2126 := by rw [hLe]; exact pgB_le hS.2
  have HFX := J hf
  have HRI := J hR
  have HRF := J hF
  have HBL : Hid (bad.length = bn) := hR.1
  clear hf hfx hLe hR hF
  go_enter Try.func64, Try.ntmps64
  go_upto_region 3 with (first | (go_at_call 31; refine (shape_any (B : Int) (P : Int) (S : Int) _).mono ?_; rintro e u1 ⟨rfl, b1⟩; rw [HFX.out]; have HB1 := J (below_trans HBB.out b1); have HX1 := J ((b1.block _ (lt_of_block HX0.out)).trans HX0.out); clear b1))
  clear HBB HX0
  go_wp2
  go_loopw [8] (fun s8 wr => ∃ m : Nat, m ≤ bn ∧ s8 = .int .i64 m ∧ Hid (Below u1.heap.size u1 wr) ∧ Hid (∀ z ∈ bad.take m, outB (B : Int) z = false)) (fun s8 _ => bn - (intOf s8).toNat)
  case atStart => exact ⟨0, Nat.zero_le _, rfl, J (Below.refl _ _), J (fun z hz => by cases hz)⟩
  case round =>
   obtain ⟨m, hm, rfl, HBr, HOr⟩ := hrel
   have HBw := J (below_trans HB1.out HBr.out)
   by_cases hlt : m < bn
   ·have d0 : decide ((m : Int) < (bn : Int)) = true := decide_eq_true (by omega)
    have d1 : (m : Int) < (bn : Int) := by omega
    obtain ⟨gb, ob, z, rfl, hz, hcz⟩ := HRI.out.at hlt
    have hcz := (HBw.out.cell (block_lt_of_cell hcz)).trans hcz
    have HQ6 := J (And.intro (cells3 ((HBr.out.block _ (lt_of_block HX1.out)).trans HX1.out)).1 hcz)
    have HZ := J hz
    clear hz hcz
    go_upto_region 6 with fail
    have HBE := J (below_trans HBw.out (drew_below wr))
    by_cases hz0 : z < 0
    ·have dz : decide (z < 0) = true := decide_eq_true hz0
     have eN : NewE (B : Int) P S bad fs = 41 := by
      unfold NewE
      rw [if_neg (by rw [HFX.out]; decide), if_pos (List.any_eq_true.2 ⟨z, List.mem_of_getElem? HZ.out, by unfold outB; rw [dz]; rfl⟩)]
     clear hz0
     refine wp_region_held_drew (S := (fun u => (u.cell? ⟨w.heap.size, 0, none⟩ = some (.int .i64 (B : Int))) ∧ u.cell? ⟨gb, ob + m, none⟩ = some (.int .i64 z))) (by kernel_rfl) (HQ6.out) fun O => ?_
     refine tk 0 ?_
     refine tk 1 ?_
     refine tk 2 ?_
     refine tk 3 ?_
     refine tk 4 ?_
     refine tk 5 ?_
     refine tu 6 ?_
     refine tu 7 ?_
     refine tu 8 ?_
     refine tu 9 ?_
     refine tu 10 ?_
     refine tu 11 ?_
     refine tu 12 ?_
     refine tk 13 ?_
     refine td ?_
     clear O
     go_wp2
     go_ret2
     exact rnew_no eN (by decide) HBE.out
    ·have dz : decide (z < 0) = false := decide_eq_false hz0
     by_cases hzB : z ≥ (B : Int)
     ·have dB : decide (z ≥ (B : Int)) = true := decide_eq_true hzB
      have eN : NewE (B : Int) P S bad fs = 41 := by
       unfold NewE
       rw [if_neg (by rw [HFX.out]; decide), if_pos (List.any_eq_true.2 ⟨z, List.mem_of_getElem? HZ.out, by unfold outB; rw [dB, dz]; rfl⟩)]
      clear hz0 hzB
      refine wp_region_held_drew (S := (fun u => (u.cell? ⟨w.heap.size, 0, none⟩ = some (.int .i64 (B : Int))) ∧ u.cell? ⟨gb, ob + m, none⟩ = some (.int .i64 z))) (by kernel_rfl) (HQ6.out) fun O => ?_
      refine tk 0 ?_
      refine tk 1 ?_
      refine tk 2 ?_
      refine tk 3 ?_
      refine tk 4 ?_
      refine tk 5 ?_
      refine tk 6 ?_
      refine tk 7 ?_
      refine tk 8 ?_
      refine tk 9 ?_
      refine tk 10 ?_
      refine tk 11 ?_
      refine tk 12 ?_
      refine tk 13 ?_
      refine td ?_
      clear O
      go_wp2
      go_ret2
      exact rnew_no eN (by decide) HBE.out
     ·have dB : decide (z ≥ (B : Int)) = false := decide_eq_false hzB
      have HBn := J (below_trans HBr.out (drew_below wr))
      have HOn := J (any_take HOr.out HZ.out (by unfold outB; rw [dB, dz]; rfl))
      clear hz0 hzB
      refine wp_region_held_drew (S := (fun u => (u.cell? ⟨w.heap.size, 0, none⟩ = some (.int .i64 (B : Int))) ∧ u.cell? ⟨gb, ob + m, none⟩ = some (.int .i64 z))) (by kernel_rfl) (HQ6.out) fun O => ?_
      refine tk 0 ?_
      refine tk 1 ?_
      refine tk 2 ?_
      refine tk 3 ?_
      refine tk 4 ?_
      refine tk 5 ?_
      refine tk 6 ?_
      refine tk 7 ?_
      refine tk 8 ?_
      refine tk 9 ?_
      refine tk 10 ?_
      refine tk 11 ?_
      refine tk 12 ?_
      refine tk 13 ?_
      refine td ?_
      clear O
      go_wp2
      go_roundw
      case rel => exact ⟨m + 1, by omega, by go_num, HBn, HOn⟩
      case measure => simp [intOf]; omega
   ·have d0 : decide ((m : Int) < (bn : Int)) = false := decide_eq_false (by omega)
    obtain rfl : bn = m := by omega
    have HAny : Hid (bad.any (outB (B : Int)) = false) := by
     unfold Hid
     rw [List.any_eq_false]
     intro y hy
     have h9 := HOr.out y (by rw [List.take_of_length_le (by rw [HBL.out]; exact Nat.le_refl _)]; exact hy)
     rw [h9]
     decide
    cases hfb : faultsB fs with
    | false =>
     have eN : NewE (B : Int) P S bad fs = 48 := by unfold NewE; rw [if_neg (by rw [HFX.out]; decide), if_neg (by rw [HAny.out]; decide), if_pos hfb]
     go_wp2_with (first | (go_at_call 79; refine (faulty_any _ sa n cp fs (HRF.out.below HBw.out) hn).mono ?_; rintro e u2 ⟨rfl, b2⟩; rw [hfb]; have HBE := J (below_trans HBw.out b2); clear b2))
     go_ret2
     exact rnew_no eN (by decide) HBE.out
    | true =>
     have HEN : Hid (NewE (B : Int) P S bad fs = 0) := by unfold Hid NewE; rw [if_neg (by rw [HFX.out]; decide), if_neg (by rw [HAny.out]; decide), if_neg (by rw [hfb]; decide)]
     have HFB := J hfb
     go_upto_region 10 with (first | (go_at_call 79; refine (faulty_any _ sa n cp fs (HRF.out.below HBw.out) hn).mono ?_; rintro e u2 ⟨rfl, b2⟩; rw [hfb]; have HB2 := J (below_trans HBw.out b2); have HX2 := J ((b2.block _ (lt_of_block ((HBr.out.block _ (lt_of_block HX1.out)).trans HX1.out))).trans ((HBr.out.block _ (lt_of_block HX1.out)).trans HX1.out)); clear b2))
     clear hfb HBr HOr HBw HX1 HB1
     obtain ⟨b0, b1, b2⟩ := cells3 HX2.out
     have HNS : Hid (Nw0 w (u2.alloc (.cells #[.int .i64 (B : Int), .int .i64 (P : Int), .int .i64 (S : Int), .slice none 0 0, .slice sa n cp, .bool false, .int .i64 0, .slice none 0 0] 135)) B P S L u2.heap.size #[.int .i64 (B : Int), .int .i64 (P : Int), .int .i64 (S : Int)] 23 (.slice sa n cp) (.slice none 0 0) []) := ⟨⟨below_trans HB2.out (below_alloc _ _), World.ownsRow_nil _ _ _ _, (fun r hr => by cases hr), List.Pairwise.nil, (fun r hr => by cases hr)⟩, ((below_alloc u2 (.cells #[.int .i64 (B : Int), .int .i64 (P : Int), .int .i64 (S : Int), .slice none 0 0, .slice sa n cp, .bool false, .int .i64 0, .slice none 0 0] 135)).block _ (lt_of_block HX2.out)).trans HX2.out, by decide, alloc_new _ _, HB2.out.size⟩
     have HU2 := J HB2.out.size
     go_upto_region 11 with fail
     generalize hcq : u2.heap.size = c at HNS HU2 ⊢
     clear b0 b1 b2 HX2 HB2 hcq
     go_wp2
     go_loopw [10, 11, 12] (fun s10 s11 s12 wr => ∃ (b : Nat) (rv : Value) (rs : List Rc), b ≤ B ∧ s10 = .int .i64 b ∧ rs.length = b ∧ Hid (Nw0 w wr B P S L c #[.int .i64 (B : Int), .int .i64 (P : Int), .int .i64 (S : Int)] 23 (.slice sa n cp) rv rs) ∧ Hid (rs.map Rc.v = List.replicate b (rdB (bl0 P L))) ∧ (0 < b → ∃ gr cr, rv = .slice (some ⟨gr, 0, none⟩) b cr)) (fun s10 _ _ _ => B - (intOf s10).toNat)
     case atStart => exact ⟨0, _, _, Nat.zero_le _, rfl, rfl, HNS, J rfl, fun h => absurd h (Nat.lt_irrefl _)⟩
     case round =>
      clear HNS
      obtain ⟨b, rv, rs, hbB, rfl, hrl, HNr, HVr, hrvf⟩ := hrel
      obtain ⟨b0, b1, b2⟩ := cells3 HNr.out.gb
      by_cases hlb : b < B
      ·have e0 : decide ((b : Int) < (B : Int)) = true := decide_eq_true (by omega)
       go_upto_region 15 with fail
       have HNQ := J (HNr.out.begin false true)
       have HQC : Hid (¬ wr.heap.size = c) := fun e => by have h9 := lt_of_block HNr.out.box; omega
       generalize hqq : wr.heap.size = q at HNQ HQC ⊢
       clear hqq b0 b1 b2 HNr
       go_wp2
       go_loopw [12] (fun s12 wr => ∃ (k : Nat) (lv : Value) (ls : List Lc), k ≤ P ∧ s12 = .int .i64 k ∧ ls.length = k ∧ Hid (Nw1 w wr B P S L c #[.int .i64 (B : Int), .int .i64 (P : Int), .int .i64 (S : Int)] 23 (.slice sa n cp) rv rs q false true lv ls) ∧ Hid (ls.map Lc.v = List.replicate k ⟨List.replicate L 255, false⟩) ∧ (0 < k → ∃ lg lc, lv = .slice (some ⟨lg, 0, none⟩) k lc)) (fun s12 _ => P - (intOf s12).toNat)
       case atStart => exact ⟨0, _, _, Nat.zero_le _, rfl, rfl, HNQ, J rfl, fun h => absurd h (Nat.lt_irrefl _)⟩
       case round =>
        clear HNQ
        obtain ⟨k, lv, ls, hkP, rfl, hkl, HNk, HLS, hlvf⟩ := hrel
        obtain ⟨b0, b1, b2⟩ := cells3 HNk.out.n0.gb
        by_cases hlk : k < P
        ·have f0 : decide ((k : Int) < (P : Int)) = true := decide_eq_true (by omega)
         go_upto_region 18 with fail
         have HND := J (HNk.out.below (drew_below wr))
         clear b0 b1 b2 HNk hlvf
         refine wp_region_held_drew (S := (fun u => u.cell? ⟨w.heap.size, 0, none⟩ = some (.int .i64 (B : Int)) ∧ u.cell? ⟨w.heap.size, 1, none⟩ = some (.int .i64 (P : Int)) ∧ u.cell? ⟨w.heap.size, 2, none⟩ = some (.int .i64 (S : Int)))) (by kernel_rfl) (cells3 HND.out.n0.gb) fun O => ?_
         refine tk 0 ?_
         refine tk 2 ?_
         have eL0 : wr.drew.cell? ⟨q, 0, none⟩ = some lv := (cells4 HND.out.qb).1
         refine rn2 1 3 (fun K N => ?r64_10a0) (fun K N => ?r64_10b0)
         case' r64_10a0 =>
          go_simp
          go_wp2_with fail
          have hZ := O
          clear O
          refine N.out _ _ hZ fun O => ?_
          clear N K hZ
          try simp only [zz]
          refine rn1 3 fun K N => ?_
          go_simp
          go_at_call 78
          refine (rlong_any _ _ S _ hS.1 hS.2).mono ?_
          rintro e u3 ⟨rfl, b3⟩
          rw [← HLE.out]
          have HB3 := J b3
          have HN3 := J (HND.out.below b3)
          have hZ : (fun u => u.cell? ⟨w.heap.size, 0, none⟩ = some (.int .i64 (B : Int)) ∧ u.cell? ⟨w.heap.size, 1, none⟩ = some (.int .i64 (P : Int)) ∧ u.cell? ⟨w.heap.size, 2, none⟩ = some (.int .i64 (S : Int))) u3 := cells3 (HN3.out.n0.gb)
          clear b3
          go_wp2_with fail
          clear O
          refine N.out _ _ hZ fun O => ?_
          clear N K hZ
          try simp only [zz]
          refine rn1 4 fun K N => ?_
          go_simp
          go_at_call 95
          refine (ones_any L _ (by omega)).mono ?_
          rintro e u4 ⟨g4, c4, rfl, o4, b4⟩
          have HO4 := J o4
          have HN4 := J (HN3.out.below b4)
          have HB34 := J (below_trans HB3.out b4)
          have hZ : (fun u => u.cell? ⟨w.heap.size, 0, none⟩ = some (.int .i64 (B : Int)) ∧ u.cell? ⟨w.heap.size, 1, none⟩ = some (.int .i64 (P : Int)) ∧ u.cell? ⟨w.heap.size, 2, none⟩ = some (.int .i64 (S : Int))) u4 := cells3 (HN4.out.n0.gb)
          clear o4 b4
          go_wp2_with fail
          clear O
          refine N.out _ _ hZ fun O => ?_
          clear N K hZ
          try simp only [zz]
          refine tk 5 ?_
          refine rn1 6 fun K N => ?_
          go_simp
          have HN6 := J (HN4.out.below (below_alloc u4 (.cells #[.slice (some ⟨g4, 0, none⟩) L c4, .slice none 0 0, .bool false] 144)))
          have HO6 : Hid (Own (u4.alloc (.cells #[.slice (some ⟨g4, 0, none⟩) L c4, .slice none 0 0, .bool false] 144)) w.heap.size g4 L c4 (List.replicate L 255)) := own_mono (owns_bel HO4.out (below_alloc _ _)) (Nat.le_trans HND.out.n0.rows.bel.size HB3.out.size)
          have HNW := J (alloc_new u4 (.cells #[.slice (some ⟨g4, 0, none⟩) L c4, .slice none 0 0, .bool false] 144))
          have hZ : (fun u => u.cell? ⟨w.heap.size, 0, none⟩ = some (.int .i64 (B : Int)) ∧ u.cell? ⟨w.heap.size, 1, none⟩ = some (.int .i64 (P : Int)) ∧ u.cell? ⟨w.heap.size, 2, none⟩ = some (.int .i64 (S : Int))) (u4.alloc (.cells #[.slice (some ⟨g4, 0, none⟩) L c4, .slice none 0 0, .bool false] 144)) := cells3 (HN6.out.n0.gb)
          go_wp2_with fail
          clear O
          refine N.out _ _ hZ fun O => ?_
          clear N K hZ
          try simp only [zz]
         case' r64_10b0 =>
          go_simp
          go_at_call 78
          refine (rlong_any _ _ S _ hS.1 hS.2).mono ?_
          rintro e u3 ⟨rfl, b3⟩
          rw [← HLE.out]
          have HB3 := J b3
          have HN3 := J (HND.out.below b3)
          have hZ : (fun u => u.cell? ⟨w.heap.size, 0, none⟩ = some (.int .i64 (B : Int)) ∧ u.cell? ⟨w.heap.size, 1, none⟩ = some (.int .i64 (P : Int)) ∧ u.cell? ⟨w.heap.size, 2, none⟩ = some (.int .i64 (S : Int))) u3 := cells3 (HN3.out.n0.gb)
          clear b3
          go_wp2_with fail
          clear O
          refine N.out _ _ hZ fun O => ?_
          clear N K hZ
          try simp only [zz]
          have eL1 : u3.cell? ⟨q, 0, none⟩ = some lv := (cells4 HN3.out.qb).1
          refine rn2 1 4 (fun K N => ?r64_10a1) (fun K N => ?r64_10b1)
          case' r64_10a1 =>
           go_simp
           go_wp2_with fail
           have hZ := O
           clear O
           refine N.out _ _ hZ fun O => ?_
           clear N K hZ
           try simp only [zz]
           refine rn1 4 fun K N => ?_
           go_simp
           go_at_call 95
           refine (ones_any L _ (by omega)).mono ?_
           rintro e u4 ⟨g4, c4, rfl, o4, b4⟩
           have HO4 := J o4
           have HN4 := J (HN3.out.below b4)
           have HB34 := J (below_trans HB3.out b4)
           have hZ : (fun u => u.cell? ⟨w.heap.size, 0, none⟩ = some (.int .i64 (B : Int)) ∧ u.cell? ⟨w.heap.size, 1, none⟩ = some (.int .i64 (P : Int)) ∧ u.cell? ⟨w.heap.size, 2, none⟩ = some (.int .i64 (S : Int))) u4 := cells3 (HN4.out.n0.gb)
           clear o4 b4
           go_wp2_with fail
           clear O
           refine N.out _ _ hZ fun O => ?_
           clear N K hZ
           try simp only [zz]
           refine tk 5 ?_
           refine rn1 6 fun K N => ?_
           go_simp
           have HN6 := J (HN4.out.below (below_alloc u4 (.cells #[.slice (some ⟨g4, 0, none⟩) L c4, .slice none 0 0, .bool false] 144)))
           have HO6 : Hid (Own (u4.alloc (.cells #[.slice (some ⟨g4, 0, none⟩) L c4, .slice none 0 0, .bool false] 144)) w.heap.size g4 L c4 (List.replicate L 255)) := own_mono (owns_bel HO4.out (below_alloc _ _)) (Nat.le_trans HND.out.n0.rows.bel.size HB3.out.size)
           have HNW := J (alloc_new u4 (.cells #[.slice (some ⟨g4, 0, none⟩) L c4, .slice none 0 0, .bool false] 144))
           have hZ : (fun u => u.cell? ⟨w.heap.size, 0, none⟩ = some (.int .i64 (B : Int)) ∧ u.cell? ⟨w.heap.size, 1, none⟩ = some (.int .i64 (P : Int)) ∧ u.cell? ⟨w.heap.size, 2, none⟩ = some (.int .i64 (S : Int))) (u4.alloc (.cells #[.slice (some ⟨g4, 0, none⟩) L c4, .slice none 0 0, .bool false] 144)) := cells3 (HN6.out.n0.gb)
           go_wp2_with fail
           clear O
           refine N.out _ _ hZ fun O => ?_
           clear N K hZ
           try simp only [zz]
          case' r64_10b1 =>
           go_simp
           go_at_call 95
           refine (ones_any L _ (by omega)).mono ?_
           rintro e u4 ⟨g4, c4, rfl, o4, b4⟩
           have HO4 := J o4
           have HN4 := J (HN3.out.below b4)
           have HB34 := J (below_trans HB3.out b4)
           have hZ : (fun u => u.cell? ⟨w.heap.size, 0, none⟩ = some (.int .i64 (B : Int)) ∧ u.cell? ⟨w.heap.size, 1, none⟩ = some (.int .i64 (P : Int)) ∧ u.cell? ⟨w.heap.size, 2, none⟩ = some (.int .i64 (S : Int))) u4 := cells3 (HN4.out.n0.gb)
           clear o4 b4
           go_wp2_with fail
           clear O
           refine N.out _ _ hZ fun O => ?_
           clear N K hZ
           try simp only [zz]
           refine tk 5 ?_
           have eL2 : u4.cell? ⟨q, 0, none⟩ = some lv := (cells4 HN4.out.qb).1
           refine rn2 1 6 (fun K N => ?r64_10a2) (fun K N => ?r64_10b2)
           case' r64_10a2 =>
            go_simp
            go_wp2_with fail
            have hZ := O
            clear O
            refine N.out _ _ hZ fun O => ?_
            clear N K hZ
            try simp only [zz]
            refine rn1 6 fun K N => ?_
            go_simp
            have HN6 := J (HN4.out.below (below_alloc u4 (.cells #[.slice (some ⟨g4, 0, none⟩) L c4, .slice none 0 0, .bool false] 144)))
            have HO6 : Hid (Own (u4.alloc (.cells #[.slice (some ⟨g4, 0, none⟩) L c4, .slice none 0 0, .bool false] 144)) w.heap.size g4 L c4 (List.replicate L 255)) := own_mono (owns_bel HO4.out (below_alloc _ _)) (Nat.le_trans HND.out.n0.rows.bel.size HB3.out.size)
            have HNW := J (alloc_new u4 (.cells #[.slice (some ⟨g4, 0, none⟩) L c4, .slice none 0 0, .bool false] 144))
            have hZ : (fun u => u.cell? ⟨w.heap.size, 0, none⟩ = some (.int .i64 (B : Int)) ∧ u.cell? ⟨w.heap.size, 1, none⟩ = some (.int .i64 (P : Int)) ∧ u.cell? ⟨w.heap.size, 2, none⟩ = some (.int .i64 (S : Int))) (u4.alloc (.cells #[.slice (some ⟨g4, 0, none⟩) L c4, .slice none 0 0, .bool false] 144)) := cells3 (HN6.out.n0.gb)
            go_wp2_with fail
            clear O
            refine N.out _ _ hZ fun O => ?_
            clear N K hZ
            try simp only [zz]
           case' r64_10b2 =>
            go_simp
            have HN6 := J (HN4.out.below (below_alloc u4 (.cells #[.slice (some ⟨g4, 0, none⟩) L c4, .slice none 0 0, .bool false] 144)))
            have HO6 : Hid (Own (u4.alloc (.cells #[.slice (some ⟨g4, 0, none⟩) L c4, .slice none 0 0, .bool false] 144)) w.heap.size g4 L c4 (List.replicate L 255)) := own_mono (owns_bel HO4.out (below_alloc _ _)) (Nat.le_trans HND.out.n0.rows.bel.size HB3.out.size)
            have HNW := J (alloc_new u4 (.cells #[.slice (some ⟨g4, 0, none⟩) L c4, .slice none 0 0, .bool false] 144))
            have hZ : (fun u => u.cell? ⟨w.heap.size, 0, none⟩ = some (.int .i64 (B : Int)) ∧ u.cell? ⟨w.heap.size, 1, none⟩ = some (.int .i64 (P : Int)) ∧ u.cell? ⟨w.heap.size, 2, none⟩ = some (.int .i64 (S : Int))) (u4.alloc (.cells #[.slice (some ⟨g4, 0, none⟩) L c4, .slice none 0 0, .bool false] 144)) := cells3 (HN6.out.n0.gb)
            go_wp2_with fail
            clear O
            refine N.out _ _ hZ fun O => ?_
            clear N K hZ
            try simp only [zz]
            have eL3 : (u4.alloc (.cells #[.slice (some ⟨g4, 0, none⟩) L c4, .slice none 0 0, .bool false] 144)).cell? ⟨q, 0, none⟩ = some lv := (cells4 HN6.out.qb).1
            refine rn1 1 fun K N => ?_
            go_simp
            go_wp2_with fail
            have hZ := O
            clear O
            refine N.out _ _ hZ fun O => ?_
            clear N K hZ
            try simp only [zz]
         all_goals
          refine rd 7 fun K N => ?_
          refine wp_append_lies _ (.tmp 58) (.tmp 63) 140 rfl w.heap.size 144 i144 (.agg #[.slice none 0 0, .slice none 0 0, .bool false]) 3 56 Try.underlying140 hI1 hI2 hI3 hI4 rfl (by decide) lv ls.length (ls.flatMap Lc.cells) rfl HN6.out.lvs.row ⟨u4.heap.size, 0, none⟩ 1 1 [.slice (some ⟨g4, 0, none⟩) L c4, .slice none 0 0, .bool false] rfl rfl (news3 HNW.out) (by intro u hu; simp at hu; rcases hu with rfl | rfl | rfl <;> rfl) (by decide) (by simp [maxLen]; omega) (by omega) HN6.out.n0.rows.bel.size _ rfl ?_
          intro gn nc Y own grow lies _
          obtain ⟨q1, q2, q3, q4, q5, q6⟩ := HN6.out.push HO6.out (rep255 L) own grow lies
          have HQ1 := J q1
          rw [hkl] at HQ1
          have hZ : (fun u => u.cell? ⟨w.heap.size, 0, none⟩ = some (.int .i64 (B : Int)) ∧ u.cell? ⟨w.heap.size, 1, none⟩ = some (.int .i64 (P : Int)) ∧ u.cell? ⟨w.heap.size, 2, none⟩ = some (.int .i64 (S : Int))) Y := cells3 q5
          clear own grow lies q1 q5 q6
          clear O
          refine N.out _ _ hZ fun O => ?_
          clear N K hZ
          try simp only [zz]
          refine tk 8 ?_
          refine rd 9 fun K N => ?_
          go_simp
          go_wp2_with fail
          have hZ := cells3 HQ1.out.n0.gb
          clear O
          refine N.out _ _ hZ fun O => ?_
          clear N K hZ
          try simp only [zz]
          refine td ?_
          clear O q2 q3 q4
          have HLV : Hid ((ls ++ [(⟨some ⟨g4, 0, none⟩, L, c4, none, 0, 0, List.replicate L 255, [], false⟩ : Lc)]).map Lc.v = List.replicate (k + 1) ⟨List.replicate L 255, false⟩) := by unfold Hid; rw [List.map_append, HLS.out, List.replicate_succ']; rfl
          go_wp2
          go_roundw
          case rel => exact ⟨k + 1, _, _, by omega, by go_num, by rw [List.length_append, hkl]; rfl, HQ1, HLV, fun _ => ⟨gn, nc, rfl⟩⟩
          case measure => simp [intOf]; omega
        ·have f0 : decide ((k : Int) < (P : Int)) = false := decide_eq_false (by omega)
         obtain rfl : k = P := by omega
         have hlv0 := hlvf (by omega)
         go_upto_region 19 with fail
         clear b0 b1 b2 hlvf
         have HND := J (HNk.out.below (drew_below wr))
         rw [← hkl] at hlv0
         clear HNk
         refine wp_region_held_drew (S := (fun u => u.cell? ⟨q, 0, none⟩ = some lv ∧ u.cell? ⟨q, 1, none⟩ = some (.bool false) ∧ u.cell? ⟨q, 2, none⟩ = some (.bool true) ∧ u.cell? ⟨q, 3, none⟩ = some (.int .i64 0))) (by kernel_rfl) (cells4 HND.out.qb) fun O => ?_
         refine tk 0 ?_
         refine tk 1 ?_
         refine tk 2 ?_
         refine tk 3 ?_
         refine tk 5 ?_
         have eL0 : wr.drew.cell? ⟨c, 3, none⟩ = some rv := cells8 HND.out.n0.box
         refine rn2 4 6 (fun K N => ?r64_11a0) (fun K N => ?r64_11b0)
         case' r64_11a0 =>
          go_simp
          go_wp2_with fail
          have hZ := O
          clear O
          refine N.out _ _ hZ fun O => ?_
          clear N K hZ
          try simp only [zz]
          refine rn1 6 fun K N => ?_
          go_simp
          have HN6 := J (HND.out.below (below_alloc wr.drew (.cells #[lv, .bool false, .bool true, .int .i64 0] 142)))
          have HNW : Hid ((wr.alloc (.cells #[lv, .bool false, .bool true, .int .i64 0] 142)).drew.heap[wr.heap.size]? = some (.cells #[lv, .bool false, .bool true, .int .i64 0] 142 (0, 0))) := alloc_new wr (.cells #[lv, .bool false, .bool true, .int .i64 0] 142)
          have hZ : (fun u => u.cell? ⟨q, 0, none⟩ = some lv ∧ u.cell? ⟨q, 1, none⟩ = some (.bool false) ∧ u.cell? ⟨q, 2, none⟩ = some (.bool true) ∧ u.cell? ⟨q, 3, none⟩ = some (.int .i64 0)) (wr.alloc (.cells #[lv, .bool false, .bool true, .int .i64 0] 142)).drew := cells4 (HN6.out.qb)
          go_wp2_with fail
          clear O
          refine N.out _ _ hZ fun O => ?_
          clear N K hZ
          try simp only [zz]
         case' r64_11b0 =>
          go_simp
          have HN6 := J (HND.out.below (below_alloc wr.drew (.cells #[lv, .bool false, .bool true, .int .i64 0] 142)))
          have HNW : Hid ((wr.alloc (.cells #[lv, .bool false, .bool true, .int .i64 0] 142)).drew.heap[wr.heap.size]? = some (.cells #[lv, .bool false, .bool true, .int .i64 0] 142 (0, 0))) := alloc_new wr (.cells #[lv, .bool false, .bool true, .int .i64 0] 142)
          have hZ : (fun u => u.cell? ⟨q, 0, none⟩ = some lv ∧ u.cell? ⟨q, 1, none⟩ = some (.bool false) ∧ u.cell? ⟨q, 2, none⟩ = some (.bool true) ∧ u.cell? ⟨q, 3, none⟩ = some (.int .i64 0)) (wr.alloc (.cells #[lv, .bool false, .bool true, .int .i64 0] 142)).drew := cells4 (HN6.out.qb)
          go_wp2_with fail
          clear O
          refine N.out _ _ hZ fun O => ?_
          clear N K hZ
          try simp only [zz]
          have eL1 : (wr.alloc (.cells #[lv, .bool false, .bool true, .int .i64 0] 142)).drew.cell? ⟨c, 3, none⟩ = some rv := cells8 HN6.out.n0.box
          refine rn1 4 fun K N => ?_
          go_simp
          go_wp2_with fail
          have hZ := O
          clear O
          refine N.out _ _ hZ fun O => ?_
          clear N K hZ
          try simp only [zz]
         all_goals
          refine rd 7 fun K N => ?_
          refine wp_append_lies _ (.tmp 70) (.tmp 72) 133 rfl w.heap.size 142 i142 (.agg #[.slice none 0 0, .bool false, .bool false, .int .i64 0]) 4 40 Try.underlying133 hJ1 hJ2 hJ3 hJ4 rfl (by decide) rv rs.length (rs.flatMap Rc.cells) rfl HN6.out.n0.rows.row ⟨wr.heap.size, 0, none⟩ 1 1 [lv, .bool false, .bool true, .int .i64 0] rfl rfl (news4 HNW.out) (by intro u hu; simp at hu; rcases hu with rfl | rfl | rfl | rfl <;> first | rfl | (obtain ⟨_, _, e⟩ := hlv0; rw [e]; rfl)) (by decide) (by simp [maxLen]; omega) (by omega) HN6.out.n0.rows.bel.size _ rfl ?_
          intro gn nc Y own grow _ _
          obtain ⟨lg, lcap, hlv⟩ := hlv0
          obtain ⟨q1, q2, q3, q4⟩ := HN6.out.done hkl hlv own grow
          have HQ1 := J q1
          rw [hrl] at HQ1
          have HQ4 := J q4
          have hZ : (fun u => u.cell? ⟨q, 0, none⟩ = some lv ∧ u.cell? ⟨q, 1, none⟩ = some (.bool false) ∧ u.cell? ⟨q, 2, none⟩ = some (.bool true) ∧ u.cell? ⟨q, 3, none⟩ = some (.int .i64 0)) Y := cells4 q4
          clear own grow q1 q4
          clear O
          refine N.out _ _ hZ fun O => ?_
          clear N K hZ
          try simp only [zz]
          refine tk 8 ?_
          refine tk 9 ?_
          refine rd 10 fun K N => ?_
          go_simp
          go_wp2_with fail
          have hZ := cells4 (((Only.setCell (· = c) Y c 3 (.slice (some ⟨gn, 0, none⟩) (b + 1) nc) rfl).block q (lt_of_block HQ4.out) HQC.out).trans HQ4.out)
          clear O
          refine N.out _ _ hZ fun O => ?_
          clear N K hZ
          try simp only [zz]
          refine td ?_
          clear O q2 q3
          have HVN : Hid ((rs ++ [(⟨lg, lcap, false, true, 0, ls⟩ : Rc)]).map Rc.v = List.replicate (b + 1) (rdB (bl0 k L))) := by unfold Hid; rw [List.map_append, HVr.out, List.replicate_succ']; show _ ++ [(⟨false, true, 0, ls.map Lc.v⟩ : Bl)] = _; rw [HLS.out]; rfl
          go_wp2
          go_roundw
          case rel => exact ⟨b + 1, _, _, by omega, by go_num, by rw [List.length_append, hrl]; rfl, HQ1, HVN, fun _ => ⟨gn, nc, rfl⟩⟩
          case measure => simp [intOf]; omega
      ·have e0 : decide ((b : Int) < (B : Int)) = false := decide_eq_false (by omega)
       obtain rfl : b = B := by omega
       obtain ⟨gr, cr, rfl⟩ := hrvf (by omega)
       have HRA0 : Hid (RAt w wr c (Nws w wr) (newC b P S [] (fs.map Fc.t)) fs ⟨b, P, S, gr, rs.length, cr, sa, n, cp, false, 0, none, 0, 0⟩ rs) := by
        have h9 := HNr.out.ref HLE.out hrl (by rw [hrl]) HRF.out HFB.out
        rw [HVr.out, HLE.out] at h9
        have e9 : newC b P S [] (fs.map Fc.t) = ⟨b, P, S, List.replicate b (rdB (bl0 P (pgB S))), fun _ _ => [], fs.map Fc.t, false, 0, []⟩ := by unfold newC emptyC; simp only [marks, List.foldl_nil, List.map_replicate]
        unfold Hid
        rw [e9]
        exact h9
       rw [hrl] at HRA0
       go_upto_region 20 with fail
       clear b0 b1 b2 HNr HVr hrl
       obtain ⟨WB, hWB⟩ : ∃ x, x = wr := ⟨_, rfl⟩
       have HRA1 : Hid (RAt w wr c (Nws w WB) (newC b P S (bad.take 0) (fs.map Fc.t)) fs ⟨b, P, S, gr, b, cr, sa, n, cp, false, 0, none, 0, 0⟩ rs) := by rw [hWB]; exact HRA0.out
       have HWB := J (show wr.heap.size = WB.heap.size by rw [hWB])
       clear HRA0 hWB
       go_wp2
       go_loopw [13] (fun s13 wy => ∃ (m : Nat) (rs : List Rc), m ≤ bn ∧ s13 = .int .i64 m ∧ Hid (RAt w wy c (Nws w WB) (newC b P S (bad.take m) (fs.map Fc.t)) fs ⟨b, P, S, gr, b, cr, sa, n, cp, false, 0, none, 0, 0⟩ rs) ∧ Hid (wy.heap.size = WB.heap.size)) (fun s13 _ => bn - (intOf s13).toNat)
       case atStart => exact ⟨0, rs, Nat.zero_le _, rfl, HRA1, HWB⟩
       case round =>
        clear HRA1 HWB
        obtain ⟨m, rs2, hm, rfl, HRA, HSZ⟩ := hrel
        by_cases hlm : m < bn
        ·have d0 : decide ((m : Int) < (bn : Int)) = true := decide_eq_true (by omega)
         have d1 : (m : Int) < (bn : Int) := by omega
         obtain ⟨gb, ob, z, rfl, hz, hcz⟩ := HRI.out.at hlm
         have hzo : ¬ outB (b : Int) z = true := List.any_eq_false.1 HAny.out z (List.mem_of_getElem? hz)
         have hz2 : 0 ≤ z ∧ z < (b : Int) := by unfold outB at hzo; simp at hzo; omega
         obtain ⟨i, rfl⟩ : ∃ i : Nat, z = i := ⟨z.toNat, by omega⟩
         have hnr : b = rs2.length := HRA.out.nr
         obtain ⟨r, hr⟩ : ∃ r, rs2[i]? = some r := ⟨_, List.getElem?_eq_getElem (by omega)⟩
         have hib : (i : Int) < (b : Int) := hz2.2
         have hcz := (HRA.out.old.cell (block_lt_of_cell hcz)).trans hcz
         have hc3 : wr.cell? ⟨c, 3, none⟩ = some (.slice (some ⟨gr, 0, none⟩) b cr) := HRA.out.box.c3
         have HQ := J (And.intro hc3 hcz)
         have HRI2 := J hr
         have HZ := J hz
         clear hzo hz2 hnr hr hcz hc3 hz
         go_upto_region 23 with fail
         refine wp_region_held_drew (S := (fun u => u.cell? ⟨c, 3, none⟩ = some (.slice (some ⟨gr, 0, none⟩) b cr) ∧ u.cell? ⟨gb, ob + m, none⟩ = some (.int .i64 (i : Int)))) (by kernel_rfl) (⟨HQ.out.1, HQ.out.2⟩) fun O => ?_
         refine tk 0 ?_
         refine tk 1 ?_
         refine tk 2 ?_
         refine tk 3 ?_
         refine tk 4 ?_
         refine tk 5 ?_
         refine tk 6 ?_
         refine tk 7 ?_
         refine tk 8 ?_
         refine tk 9 ?_
         have HSN := J ((HRA.out.below (drew_below wr)).setR HRI2.out (r' := { r with m := true }) ⟨rfl, rfl, rfl⟩ 1 (by omega) (.bool true) rfl)
         have e4 : wr.drew.cell? ⟨gr, i * 4 + 1, none⟩ = some (.bool r.m) := ((HRA.out.below (drew_below wr)).blk HRI2.out).2.1
         have fz4 : wr.drew.frozen? ⟨gr, i * 4 + 1, none⟩ = false := (HRA.out.below (drew_below wr)).rfz (i * 4 + 1)
         refine rd 10 fun K N => ?_
         go_simp
         go_wp2_with fail
         have hc9 : (wr.drew.setCell ⟨gr, i * 4 + 1, none⟩ (.bool true)).cell? ⟨c, 3, none⟩ = some (.slice (some ⟨gr, 0, none⟩) b cr) := HSN.out.1.box.c3
         have hZ : (fun u => u.cell? ⟨c, 3, none⟩ = some (.slice (some ⟨gr, 0, none⟩) b cr) ∧ u.cell? ⟨gb, ob + m, none⟩ = some (.int .i64 (i : Int))) (wr.drew.setCell ⟨gr, i * 4 + 1, none⟩ (.bool true)) := ⟨hc9, by
          have h8 := HSN.out.1.old.size
          obtain ⟨b9, o9, z9, e9, hz9, hc9⟩ := HRI.out.at hlm
          injection e9 with e9
          injection e9 with e10 e11
          subst e10
          subst e11
          rw [HZ.out] at hz9
          cases hz9
          exact (HSN.out.1.old.cell (block_lt_of_cell hc9)).trans hc9⟩
         refine N.out _ _ hZ (fun hHeld10 => ?_)
         clear N K hZ O hc9 hHeld10 e4 fz4
         try simp only [zz]
         refine td ?_
         have HRN : Hid (RAt w (wr.drew.setCell ⟨gr, i * 4 + 1, none⟩ (.bool true)) c (Nws w WB) (newC b P S (bad.take (m + 1)) (fs.map Fc.t)) fs ⟨b, P, S, gr, b, cr, sa, n, cp, false, 0, none, 0, 0⟩ (rs2.set i { r with m := true })) := by
          have h9 := HSN.out.1
          have e9 : (newC b P S (bad.take m) (fs.map Fc.t)).bl[i]? = some r.v := by rw [← HRA.out.bl, List.getElem?_map, HRI2.out]; rfl
          rw [show ({ r with m := true } : Rc).v = { r.v with m := true } from rfl, newC_mark e9 HZ.out] at h9
          exact h9
         have HSZ2 : Hid ((wr.drew.setCell ⟨gr, i * 4 + 1, none⟩ (.bool true)).heap.size = WB.heap.size) := by unfold Hid; rw [← HSZ.out]; simp
         go_wp2
         go_roundw
         case rel => exact ⟨m + 1, _, by omega, by go_num, HRN, HSZ2⟩
         case measure => simp [intOf]; omega
        ·have d0 : decide ((m : Int) < (bn : Int)) = false := decide_eq_false (by omega)
         obtain rfl : bn = m := by omega
         go_wp2
         go_ret2
         refine ⟨fun e => absurd HEN.out e, fun _ => ⟨c, rfl, ?_⟩, HRA.out.old⟩
         have h9 := HRA.out
         rw [List.take_of_length_le (by rw [HBL.out]; exact Nat.le_refl _)] at h9
         have e9 : Nws w wr = Nws w WB := by unfold Nws; rw [HSZ.out]
         rw [e9]
         exact ⟨_, rs2, h9, rfl, rfl⟩
end Go.Proofs.Ytadlkikjfonkgaa
