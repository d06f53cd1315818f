/-
  SEAT Ytadlkikjfonkgaa: Vk, Xp.
-/
import Derived.Test.YtadlkikjfonkgaaQa
import Derived.Test.YtadlkikjfonkgaaQbb
import Derived.Test.YtadlkikjfonkgaaQbc
import Derived.Test.YtadlkikjfonkgaaQbe
import Derived.Test.YtadlkikjfonkgaaQi
namespace Go.Proofs.Ytadlkikjfonkgaa
open Go.RowKit Go.Conc
set_option linter.unusedVariables false
set_option maxRecDepth 100000
set_option maxHeartbeats 4000000
theorem mid_run (w : World) (a : Option Addr) (l c t t2 : Nat) (h1 : t ≤ t2) (h2 : t2 ≤ c) : (Instr.sliceAt 24 (.slice a l c) (some (.int .i64 (t : Int))) (some (.int .i64 (t2 : Int))) none).run Try.prog w = .ok (.slice (tailA a c t) (t2 - t) (c - t)) w := by
 have e1 : (t : Int) ≤ t2 := by omega
 have e2 : (t2 : Int) ≤ c := by omega
 have e3 : (0 : Int) ≤ t := by omega
 have e4 : (0 : Int) ≤ t2 := by omega
 have e5 : (t : Int) ≤ c := by omega
 simp [go_sem, tailA]
 rw [if_pos h2, if_pos h1]
def ldQ (L P : Nat) (zs : List Int) (j k : Nat) : Pg := ⟨(zs.drop ((j * P + k) * L)).take L, false⟩
def ldF (L P : Nat) (zs : List Int) (ms : List Bool) (j : Nat) : Bl := ⟨ms.getD j false, false, 0, (List.range P).map (ldQ L P zs j)⟩
theorem ldL_full (L B P : Nat) (zs : List Int) (ms : List Bool) : ldL L B P zs ms B (B * P) = (List.range B).map (ldF L P zs ms) := by
 unfold ldL
 refine List.map_congr_left (fun j hj => ?_)
 have hj' : j < B := List.mem_range.1 hj
 unfold ldB ldF
 rw [if_pos hj']
 congr 1
 refine List.map_congr_left (fun k hk => ?_)
 have hk' : k < P := List.mem_range.1 hk
 unfold ldP ldQ
 have h1 : j * P + P ≤ B * P := by rw [← Nat.succ_mul]; exact Nat.mul_le_mul_right _ hj'
 rw [if_pos (by omega)]
theorem s14_of {w u : World} {B P S : Nat} {ca : Option Addr} {cn cc : Nat} {ma : Option Addr} {mn mc : Nat} (h : u.heap[w.heap.size]? = some (.cells #[.int .i64 (B : Int), .int .i64 (P : Int), .int .i64 (S : Int), .slice ca cn cc, .slice ma mn mc] 27 (0, 0))) : u.cell? ⟨w.heap.size, 0, none⟩ = some (.int .i64 (B : Int)) ∧ u.cell? ⟨w.heap.size, 1, none⟩ = some (.int .i64 (P : Int)) ∧ u.cell? ⟨w.heap.size, 2, none⟩ = some (.int .i64 (S : Int)) ∧ u.cell? ⟨w.heap.size, 3, none⟩ = some (.slice ca cn cc) := by
 obtain ⟨h0, h1, h2, h3, _⟩ := cells5 h
 exact ⟨h0, h1, h2, h3⟩
theorem rload_ok (w : World) (B P S : Nat) (hf : Fits B P S = true) (ca : Option Addr) (cn cc : Nat) (ma : Option Addr) (mn mc : Nat) (sa : Option Addr) (n c : Nat) (hcn : cn = B * P * pgB S) (hcc : cn ≤ cc) (hmn : mn = B) (zs : List Int) (hZ : Reads w ca cn zs) (ms : List Bool) (hM : ReadsB w ma mn ms) (fs : List Fc) (hF : ReadsF w sa n fs) (hn : n ≤ 9223372036854775807) (hs : faultsB fs = true) :
  Calls Try.prog 39 #[.agg #[.int .i64 (B : Int), .int .i64 (P : Int), .int .i64 (S : Int), .slice ca cn cc, .slice ma mn mc], .slice sa n c] w fun e w' => ∃ p, e = .returned (.tuple #[.pointer (some ⟨p, 0, none⟩), .int .i64 0]) ∧ (∃ x rs, RAt w w' p (Nws w w') (loadC B P S zs ms (fs.map Fc.t)) fs x rs ∧ x.fa = sa ∧ x.fn = n) ∧ Below w.heap.size w w' := by
 have hFB := of_decide_eq_true hf
 have hS : 1 ≤ S ∧ S ≤ 8 := by omega
 have hB4 : B ≤ 4096 := by omega
 have hP4 : P ≤ 4096 := by omega
 have hP2 : P ≤ 256 := by omega
 obtain ⟨n0, hn0e⟩ : ∃ n, n = B * P * pgB S := ⟨_, rfl⟩
 obtain ⟨m0, hm0e⟩ : ∃ m, m = B * P := ⟨_, rfl⟩
 obtain ⟨l0, hl0e⟩ : ∃ m, m = pgB S := ⟨_, rfl⟩
 have hm0 : m0 ≤ 65536 := by rw [hm0e]; omega
 have hl0 : l0 ≤ 2126 := by rw [hl0e]; exact pgB_le hS.2
 have hn0 : n0 ≤ 139329536 := by rw [hn0e, ← hm0e, ← hl0e]; exact Nat.le_trans (Nat.mul_le_mul hm0 hl0) (by decide)
 have HM0 : Hid (IntKind.i64.wrap ((B : Int) * (P : Int)) = (m0 : Int)) := by unfold Hid; rw [hm0e] at *; rw [← Int.natCast_mul]; simp only [IntKind.wrap_i64]; omega
 have HN0 : Hid (IntKind.i64.wrap ((m0 : Int) * (l0 : Int)) = (n0 : Int)) := by unfold Hid; rw [← Int.natCast_mul, hn0e, ← hm0e, ← hl0e]; rw [← hm0e, ← hl0e] at hn0e; simp only [IntKind.wrap_i64]; omega
 have HL0 := J hl0e
 have HNE := J hn0e
 have dcn : ((cn : Int) != (n0 : Int)) = false := by simp; omega
 have dmn : ((mn : Int) != (B : Int)) = false := by simp; omega
 have HRF := J hF
 have HZ := J hZ
 have HM := J hM
 have HCN := J hcn
 have HFB := J hs
 obtain ⟨i144, hI1, hI2, hI3, hI4⟩ := info_parts info144
 obtain ⟨i142, hJ1, hJ2, hJ3, hJ4⟩ := info_parts info142
 have hB8 : 8 ≤ B := by omega
 have hP8 : 4 ≤ P := by omega
 have hl0p : 0 < l0 := by rw [hl0e]; unfold pgB; omega
 have HMN := J hmn
 have HNM : Hid (n0 = m0 * l0) := by unfold Hid; rw [hn0e, hm0e, hl0e]
 have HM0e := J hm0e
 have ecn : cn = n0 := by rw [hn0e]; exact hcn
 have HEC := J ecn
 have HLE : Hid (l0 = pgB S) := hl0e
 clear hF hZ hM hcn hmn ecn
 have H0 : Hid (LB w (w.alloc (.cells #[.int .i64 (B : Int), .int .i64 (P : Int), .int .i64 (S : Int), .slice ca cn cc, .slice ma mn mc] 27)).drew B P S ca cn cc ma mn mc) := LB.start w _ _ _ _ _ _ _ _ _
 have HBd : Hid (Below w.heap.size w (w.alloc (.cells #[.int .i64 (B : Int), .int .i64 (P : Int), .int .i64 (S : Int), .slice ca cn cc, .slice ma mn mc] 27)).drew) := below_trans (below_alloc _ _) (drew_below _)
 clear hFB hn0e hm0e hl0e
 go_enter Try.func39, Try.ntmps39
 go_wp2
 refine wp_region_held_drew (S := (fun u => u.cell? ⟨w.heap.size, 0, none⟩ = some (.int .i64 (B : Int)) ∧ u.cell? ⟨w.heap.size, 1, none⟩ = some (.int .i64 (P : Int)) ∧ u.cell? ⟨w.heap.size, 2, none⟩ = some (.int .i64 (S : Int)) ∧ u.cell? ⟨w.heap.size, 3, none⟩ = some (.slice ca cn cc) ∧ u.cell? ⟨w.heap.size, 4, none⟩ = some (.slice ma mn mc))) (by kernel_rfl) (H0.out.s) fun O => ?_
 refine tk 0 ?_
 refine tk 1 ?_
 refine rd 2 fun K N => ?_
 go_simp
 go_at_call 31
 refine (shape_any B P S _).mono ?_
 rintro e u1 ⟨rfl, b1⟩
 rw [hf]
 have HB1 := J (below_trans HBd.out b1)
 have H1 := J (H0.out.keep b1)
 have hZ := H1.out.s
 clear b1
 go_wp2_with fail
 clear O
 refine N.out _ _ hZ fun O => ?_
 clear N K hZ
 try simp only [zz]
 refine tk 3 ?_
 refine tk 4 ?_
 refine tk 5 ?_
 refine tk 6 ?_
 refine tk 7 ?_
 refine tk 8 ?_
 refine tk 9 ?_
 refine tk 10 ?_
 refine tk 11 ?_
 refine tk 12 ?_
 refine tk 13 ?_
 refine tk 14 ?_
 rw [HM0.out]
 refine tk 15 ?_
 refine tk 16 ?_
 refine rd 17 fun K N => ?_
 go_simp
 go_at_call 78
 refine (rlong_any _ _ S _ hS.1 hS.2).mono ?_
 rintro e u2 ⟨rfl, b2⟩
 rw [← HL0.out]
 have HB2 := J (below_trans HB1.out b2)
 have H2 := J (H1.out.keep b2)
 have hZ := H2.out.s
 clear b2
 go_wp2_with fail
 clear O
 refine N.out _ _ hZ fun O => ?_
 clear N K hZ
 try simp only [zz]
 refine tk 18 ?_
 rw [HN0.out]
 refine tk 19 ?_
 refine tk 20 ?_
 refine tk 21 ?_
 refine tk 22 ?_
 refine tk 23 ?_
 refine tk 24 ?_
 refine tk 25 ?_
 refine tk 26 ?_
 refine tk 27 ?_
 refine tk 28 ?_
 refine tk 29 ?_
 refine td ?_
 clear O
 go_upto_region 5 with (first | (go_at_call 79; refine (faulty_any _ sa n c fs (HRF.out.below HB2.out) hn).mono ?_; rintro e u3 ⟨rfl, b3⟩; rw [hs]; have HB3 := J (below_trans HB2.out b3); have H3 := J (H2.out.keep b3); clear b3))
 obtain ⟨k0, k1, k2, k3, k4⟩ := H3.out.s
 have HNS : Hid (Nw0 w (u3.alloc (.cells #[.int .i64 (B : Int), .int .i64 (P : Int), .int .i64 (S : Int), .slice none 0 0, .slice sa n c, .bool false, .int .i64 0, .slice none 0 0] 135)) B P S l0 u3.heap.size #[.int .i64 (B : Int), .int .i64 (P : Int), .int .i64 (S : Int), .slice ca cn cc, .slice ma mn mc] 27 (.slice sa n c) (.slice none 0 0) []) := ⟨⟨below_trans HB3.out (below_alloc _ _), World.ownsRow_nil _ _ _ _, (fun r hr => by cases hr), List.Pairwise.nil, (fun r hr => by cases hr)⟩, ((below_alloc u3 (.cells #[.int .i64 (B : Int), .int .i64 (P : Int), .int .i64 (S : Int), .slice none 0 0, .slice sa n c, .bool false, .int .i64 0, .slice none 0 0] 135)).block _ (lt_of_block H3.out)).trans H3.out, by decide, alloc_new _ _, HB3.out.size⟩
 have HU2 := J HB3.out.size
 go_upto_region 6 with fail
 generalize hcq : u3.heap.size = c9 at HNS HU2 ⊢
 clear k0 k1 k2 k3 k4 hcq
 go_wp2
 go_loopw [7, 8, 9, 10] (fun s7 s8 s9 s10 wr => ∃ (b : Nat) (rv : Value) (rs : List Rc), b ≤ B ∧ s8 = .int .i64 b ∧ s7 = .int .i64 ((b * P * l0 : Nat) : Int) ∧ rs.length = b ∧ Hid (Nw0 w wr B P S l0 c9 #[.int .i64 (B : Int), .int .i64 (P : Int), .int .i64 (S : Int), .slice ca cn cc, .slice ma mn mc] 27 (.slice sa n c) rv rs) ∧ Hid (rs.map Rc.v = (List.range b).map (ldF l0 P zs ms)) ∧ (0 < b → ∃ gr cr, rv = .slice (some ⟨gr, 0, none⟩) b cr)) (fun _ s8 _ _ _ => B - (intOf s8).toNat)
 case atStart => exact ⟨0, _, _, Nat.zero_le _, rfl, by rw [Nat.zero_mul, Nat.zero_mul]; rfl, rfl, HNS, J rfl, fun h => absurd h (Nat.lt_irrefl _)⟩
 case round =>
  clear HNS
  obtain ⟨b, rv, rs, hbB, rfl, rfl, hrl, HNr, HVr, hrvf⟩ := hrel
  obtain ⟨b0, b1, b2, b3, b4⟩ := cells5 HNr.out.gb
  by_cases hlb : b < B
  ·have e0 : decide ((b : Int) < (B : Int)) = true := decide_eq_true (by omega)
   obtain ⟨gM, off, hma, _, hcells⟩ := HM.out.pos (by have := HMN.out; omega)
   have i2 : (b : Int) < (mn : Int) := by have := HMN.out; omega
   have mc1 := (HNr.out.rows.bel.cell (block_lt_of_cell (hcells b (by omega)))).trans (hcells b (by omega))
   subst hma
   obtain ⟨mv, hmv⟩ : ∃ v, v = ms.getD b false := ⟨_, rfl⟩
   rw [← hmv] at mc1
   have HMV := J hmv
   obtain ⟨t0, ht0⟩ : ∃ t, t = b * P * l0 := ⟨_, rfl⟩
   rw [← ht0]
   have HT0 := J ht0
   clear hcells hmv ht0
   go_upto_region 11 with fail
   have HNQ := J (HNr.out.begin mv false)
   have HQC : Hid (¬ wr.heap.size = c9) := fun e => by have h9 := lt_of_block HNr.out.box; omega
   generalize hqq : wr.heap.size = q at HNQ HQC ⊢
   clear hqq b0 b1 b2 b3 b4 HNr mc1
   go_wp2
   go_loopw [7, 10] (fun s7 s10 wr => ∃ (k : Nat) (lv : Value) (ls : List Lc), k ≤ P ∧ s10 = .int .i64 k ∧ s7 = .int .i64 (((b * P + k) * l0 : Nat) : Int) ∧ ls.length = k ∧ Hid (Nw1 w wr B P S l0 c9 #[.int .i64 (B : Int), .int .i64 (P : Int), .int .i64 (S : Int), .slice ca cn cc, .slice (some ⟨gM, off, none⟩) mn mc] 27 (.slice sa n c) rv rs q mv false lv ls) ∧ Hid (ls.map Lc.v = (List.range k).map (ldQ l0 P zs b)) ∧ (0 < k → ∃ lg lc, lv = .slice (some ⟨lg, 0, none⟩) k lc)) (fun _ s10 _ => P - (intOf s10).toNat)
   case atStart => exact ⟨0, _, _, Nat.zero_le _, rfl, by rw [HT0.out, Nat.add_zero], rfl, HNQ, J rfl, fun h => absurd h (Nat.lt_irrefl _)⟩
   case round =>
    clear HNQ HT0
    obtain ⟨k, lv, ls, hkP, rfl, rfl, hkl, HNk, HLS, hlvf⟩ := hrel
    obtain ⟨b0, b1, b2, b3, b4⟩ := cells5 HNk.out.n0.gb
    obtain ⟨t, ht⟩ : ∃ t, t = (b * P + k) * l0 := ⟨_, rfl⟩
    rw [← ht]
    by_cases hlk : k < P
    ·have f0 : decide ((k : Int) < (P : Int)) = true := decide_eq_true (by omega)
     have hkm : (b * P + k + 1) * l0 ≤ cn := by
      have h1 : (b * P + k + 1) ≤ m0 := by
       have h2 : b * P + P ≤ B * P := by rw [← Nat.succ_mul]; exact Nat.mul_le_mul_right _ hlb
       have h3 := HM0e.out
       omega
      have h4 := HEC.out
      have h5 := HNM.out
      rw [h4, h5]
      exact Nat.mul_le_mul_right _ h1
     obtain ⟨t2, ht2⟩ : ∃ t2, t2 = t + l0 := ⟨_, rfl⟩
     have hte : t2 = (b * P + (k + 1)) * l0 := by rw [ht2, ht, ← Nat.add_assoc, Nat.succ_mul]
     have hcn2 : t2 ≤ cn := by rw [hte, ← Nat.add_assoc]; exact hkm
     have htb : t2 ≤ 139329536 := by have h4 := HEC.out; omega
     have HTW : Hid (IntKind.i64.wrap ((t : Int) + (l0 : Int)) = (t2 : Int)) := by unfold Hid; simp only [IntKind.wrap_i64]; omega
     have hmr := fun u : World => mid_run u ca cn cc t t2 (by omega) (by omega)
     have hl9 : t2 - t = l0 := by omega
     rw [hl9] at hmr
     have HMR : Hid (Reads w (tailA ca cc t) l0 ((zs.drop t).take l0)) := front_reads (tail_reads HZ.out (by omega) hcc) (by omega)
     have HBY : Hid (∀ z ∈ (zs.drop t).take l0, (0 : Int) ≤ z ∧ z ≤ 255) := fun z hz => HZ.out.2.1 z (List.mem_of_mem_drop (List.mem_of_mem_take hz))
     have HT := J ht
     have HT2 : Hid ((t : Int) + (l0 : Int) = (t2 : Int)) := by unfold Hid; omega
     have HTE := J hte
     have htl : t ≤ 139329536 := by omega
     clear ht ht2 hte hkm hl9 hcn2
     go_upto_region 14 with fail
     have HND := J (HNk.out.below (drew_below wr))
     clear b0 b1 b2 b3 b4 HNk hlvf
     refine wp_region_held_drew (S := (fun u => u.cell? ⟨w.heap.size, 0, none⟩ = some (.int .i64 (B : Int)) ∧ u.cell? ⟨w.heap.size, 1, none⟩ = some (.int .i64 (P : Int)) ∧ u.cell? ⟨w.heap.size, 2, none⟩ = some (.int .i64 (S : Int)) ∧ u.cell? ⟨w.heap.size, 3, none⟩ = some (.slice ca cn cc))) (by kernel_rfl) (s14_of HND.out.n0.gb) fun O => ?_
     refine tk 0 ?_
     refine tk 2 ?_
     refine tk 3 ?_
     refine tk 4 ?_
     refine tk 5 ?_
     refine tk 6 ?_
     refine tk 7 ?_
     have eL0 : wr.drew.cell? ⟨q, 0, none⟩ = some lv := (cells4 HND.out.qb).1
     refine rn2 1 8 (fun K N => ?r39_17a0) (fun K N => ?r39_17b0)
     case' r39_17a0 =>
      go_simp
      go_wp2_with fail
      have hZ := O
      clear O
      refine N.out _ _ hZ fun O => ?_
      clear N K hZ
      try simp only [zz]
      refine rn1 8 fun K N => ?_
      go_simp
      go_at_call 78
      refine (rlong_any _ _ S _ hS.1 hS.2).mono ?_
      rintro e u3 ⟨rfl, b3⟩
      rw [← HLE.out]
      have HB3 := J b3
      have HN3 := J (HND.out.below b3)
      have hZ : (fun u => u.cell? ⟨w.heap.size, 0, none⟩ = some (.int .i64 (B : Int)) ∧ u.cell? ⟨w.heap.size, 1, none⟩ = some (.int .i64 (P : Int)) ∧ u.cell? ⟨w.heap.size, 2, none⟩ = some (.int .i64 (S : Int)) ∧ u.cell? ⟨w.heap.size, 3, none⟩ = some (.slice ca cn cc)) u3 := (s14_of HN3.out.n0.gb)
      clear b3
      go_wp2_with fail
      clear O
      refine N.out _ _ hZ fun O => ?_
      clear N K hZ
      try simp only [zz]
      refine tk 9 ?_
      rw [HTW.out]
      refine tk 10 ?_
      refine rn1 11 fun K N => ?_
      go_simp
      go_at_call 80
      refine (join_any _ l0 _ ((zs.drop t).take l0) _ (HMR.out.below (below_trans HND.out.n0.rows.bel HB3.out)) (by omega)).mono ?_
      rintro e u4 ⟨g4, c4, rfl, o4, b4⟩
      have HO4 := J o4
      have HN4 := J (HN3.out.below b4)
      have HB34 := J (below_trans HB3.out b4)
      have hZ : (fun u => u.cell? ⟨w.heap.size, 0, none⟩ = some (.int .i64 (B : Int)) ∧ u.cell? ⟨w.heap.size, 1, none⟩ = some (.int .i64 (P : Int)) ∧ u.cell? ⟨w.heap.size, 2, none⟩ = some (.int .i64 (S : Int)) ∧ u.cell? ⟨w.heap.size, 3, none⟩ = some (.slice ca cn cc)) u4 := (s14_of HN4.out.n0.gb)
      clear o4 b4
      go_wp2_with fail
      clear O
      refine N.out _ _ hZ fun O => ?_
      clear N K hZ
      try simp only [zz]
      refine tk 12 ?_
      refine rn1 13 fun K N => ?_
      go_simp
      have HN6 := J (HN4.out.below (below_alloc u4 (.cells #[.slice (some ⟨g4, 0, none⟩) l0 c4, .slice none 0 0, .bool false] 144)))
      have HO6 : Hid (Own (u4.alloc (.cells #[.slice (some ⟨g4, 0, none⟩) l0 c4, .slice none 0 0, .bool false] 144)) w.heap.size g4 l0 c4 ((zs.drop t).take l0)) := own_mono (owns_bel HO4.out (below_alloc _ _)) (Nat.le_trans HND.out.n0.rows.bel.size HB3.out.size)
      have HNW := J (alloc_new u4 (.cells #[.slice (some ⟨g4, 0, none⟩) l0 c4, .slice none 0 0, .bool false] 144))
      have hZ : (fun u => u.cell? ⟨w.heap.size, 0, none⟩ = some (.int .i64 (B : Int)) ∧ u.cell? ⟨w.heap.size, 1, none⟩ = some (.int .i64 (P : Int)) ∧ u.cell? ⟨w.heap.size, 2, none⟩ = some (.int .i64 (S : Int)) ∧ u.cell? ⟨w.heap.size, 3, none⟩ = some (.slice ca cn cc)) (u4.alloc (.cells #[.slice (some ⟨g4, 0, none⟩) l0 c4, .slice none 0 0, .bool false] 144)) := (s14_of HN6.out.n0.gb)
      go_wp2_with fail
      clear O
      refine N.out _ _ hZ fun O => ?_
      clear N K hZ
      try simp only [zz]
     case' r39_17b0 =>
      go_simp
      go_at_call 78
      refine (rlong_any _ _ S _ hS.1 hS.2).mono ?_
      rintro e u3 ⟨rfl, b3⟩
      rw [← HLE.out]
      have HB3 := J b3
      have HN3 := J (HND.out.below b3)
      have hZ : (fun u => u.cell? ⟨w.heap.size, 0, none⟩ = some (.int .i64 (B : Int)) ∧ u.cell? ⟨w.heap.size, 1, none⟩ = some (.int .i64 (P : Int)) ∧ u.cell? ⟨w.heap.size, 2, none⟩ = some (.int .i64 (S : Int)) ∧ u.cell? ⟨w.heap.size, 3, none⟩ = some (.slice ca cn cc)) u3 := (s14_of HN3.out.n0.gb)
      clear b3
      go_wp2_with fail
      clear O
      refine N.out _ _ hZ fun O => ?_
      clear N K hZ
      try simp only [zz]
      refine tk 9 ?_
      rw [HTW.out]
      refine tk 10 ?_
      have eL1 : u3.cell? ⟨q, 0, none⟩ = some lv := (cells4 HN3.out.qb).1
      refine rn2 1 11 (fun K N => ?r39_17a1) (fun K N => ?r39_17b1)
      case' r39_17a1 =>
       go_simp
       go_wp2_with fail
       have hZ := O
       clear O
       refine N.out _ _ hZ fun O => ?_
       clear N K hZ
       try simp only [zz]
       refine rn1 11 fun K N => ?_
       go_simp
       go_at_call 80
       refine (join_any _ l0 _ ((zs.drop t).take l0) _ (HMR.out.below (below_trans HND.out.n0.rows.bel HB3.out)) (by omega)).mono ?_
       rintro e u4 ⟨g4, c4, rfl, o4, b4⟩
       have HO4 := J o4
       have HN4 := J (HN3.out.below b4)
       have HB34 := J (below_trans HB3.out b4)
       have hZ : (fun u => u.cell? ⟨w.heap.size, 0, none⟩ = some (.int .i64 (B : Int)) ∧ u.cell? ⟨w.heap.size, 1, none⟩ = some (.int .i64 (P : Int)) ∧ u.cell? ⟨w.heap.size, 2, none⟩ = some (.int .i64 (S : Int)) ∧ u.cell? ⟨w.heap.size, 3, none⟩ = some (.slice ca cn cc)) u4 := (s14_of HN4.out.n0.gb)
       clear o4 b4
       go_wp2_with fail
       clear O
       refine N.out _ _ hZ fun O => ?_
       clear N K hZ
       try simp only [zz]
       refine tk 12 ?_
       refine rn1 13 fun K N => ?_
       go_simp
       have HN6 := J (HN4.out.below (below_alloc u4 (.cells #[.slice (some ⟨g4, 0, none⟩) l0 c4, .slice none 0 0, .bool false] 144)))
       have HO6 : Hid (Own (u4.alloc (.cells #[.slice (some ⟨g4, 0, none⟩) l0 c4, .slice none 0 0, .bool false] 144)) w.heap.size g4 l0 c4 ((zs.drop t).take l0)) := own_mono (owns_bel HO4.out (below_alloc _ _)) (Nat.le_trans HND.out.n0.rows.bel.size HB3.out.size)
       have HNW := J (alloc_new u4 (.cells #[.slice (some ⟨g4, 0, none⟩) l0 c4, .slice none 0 0, .bool false] 144))
       have hZ : (fun u => u.cell? ⟨w.heap.size, 0, none⟩ = some (.int .i64 (B : Int)) ∧ u.cell? ⟨w.heap.size, 1, none⟩ = some (.int .i64 (P : Int)) ∧ u.cell? ⟨w.heap.size, 2, none⟩ = some (.int .i64 (S : Int)) ∧ u.cell? ⟨w.heap.size, 3, none⟩ = some (.slice ca cn cc)) (u4.alloc (.cells #[.slice (some ⟨g4, 0, none⟩) l0 c4, .slice none 0 0, .bool false] 144)) := (s14_of HN6.out.n0.gb)
       go_wp2_with fail
       clear O
       refine N.out _ _ hZ fun O => ?_
       clear N K hZ
       try simp only [zz]
      case' r39_17b1 =>
       go_simp
       go_at_call 80
       refine (join_any _ l0 _ ((zs.drop t).take l0) _ (HMR.out.below (below_trans HND.out.n0.rows.bel HB3.out)) (by omega)).mono ?_
       rintro e u4 ⟨g4, c4, rfl, o4, b4⟩
       have HO4 := J o4
       have HN4 := J (HN3.out.below b4)
       have HB34 := J (below_trans HB3.out b4)
       have hZ : (fun u => u.cell? ⟨w.heap.size, 0, none⟩ = some (.int .i64 (B : Int)) ∧ u.cell? ⟨w.heap.size, 1, none⟩ = some (.int .i64 (P : Int)) ∧ u.cell? ⟨w.heap.size, 2, none⟩ = some (.int .i64 (S : Int)) ∧ u.cell? ⟨w.heap.size, 3, none⟩ = some (.slice ca cn cc)) u4 := (s14_of HN4.out.n0.gb)
       clear o4 b4
       go_wp2_with fail
       clear O
       refine N.out _ _ hZ fun O => ?_
       clear N K hZ
       try simp only [zz]
       refine tk 12 ?_
       have eL2 : u4.cell? ⟨q, 0, none⟩ = some lv := (cells4 HN4.out.qb).1
       refine rn2 1 13 (fun K N => ?r39_17a2) (fun K N => ?r39_17b2)
       case' r39_17a2 =>
        go_simp
        go_wp2_with fail
        have hZ := O
        clear O
        refine N.out _ _ hZ fun O => ?_
        clear N K hZ
        try simp only [zz]
        refine rn1 13 fun K N => ?_
        go_simp
        have HN6 := J (HN4.out.below (below_alloc u4 (.cells #[.slice (some ⟨g4, 0, none⟩) l0 c4, .slice none 0 0, .bool false] 144)))
        have HO6 : Hid (Own (u4.alloc (.cells #[.slice (some ⟨g4, 0, none⟩) l0 c4, .slice none 0 0, .bool false] 144)) w.heap.size g4 l0 c4 ((zs.drop t).take l0)) := own_mono (owns_bel HO4.out (below_alloc _ _)) (Nat.le_trans HND.out.n0.rows.bel.size HB3.out.size)
        have HNW := J (alloc_new u4 (.cells #[.slice (some ⟨g4, 0, none⟩) l0 c4, .slice none 0 0, .bool false] 144))
        have hZ : (fun u => u.cell? ⟨w.heap.size, 0, none⟩ = some (.int .i64 (B : Int)) ∧ u.cell? ⟨w.heap.size, 1, none⟩ = some (.int .i64 (P : Int)) ∧ u.cell? ⟨w.heap.size, 2, none⟩ = some (.int .i64 (S : Int)) ∧ u.cell? ⟨w.heap.size, 3, none⟩ = some (.slice ca cn cc)) (u4.alloc (.cells #[.slice (some ⟨g4, 0, none⟩) l0 c4, .slice none 0 0, .bool false] 144)) := (s14_of HN6.out.n0.gb)
        go_wp2_with fail
        clear O
        refine N.out _ _ hZ fun O => ?_
        clear N K hZ
        try simp only [zz]
       case' r39_17b2 =>
        go_simp
        have HN6 := J (HN4.out.below (below_alloc u4 (.cells #[.slice (some ⟨g4, 0, none⟩) l0 c4, .slice none 0 0, .bool false] 144)))
        have HO6 : Hid (Own (u4.alloc (.cells #[.slice (some ⟨g4, 0, none⟩) l0 c4, .slice none 0 0, .bool false] 144)) w.heap.size g4 l0 c4 ((zs.drop t).take l0)) := own_mono (owns_bel HO4.out (below_alloc _ _)) (Nat.le_trans HND.out.n0.rows.bel.size HB3.out.size)
        have HNW := J (alloc_new u4 (.cells #[.slice (some ⟨g4, 0, none⟩) l0 c4, .slice none 0 0, .bool false] 144))
        have hZ : (fun u => u.cell? ⟨w.heap.size, 0, none⟩ = some (.int .i64 (B : Int)) ∧ u.cell? ⟨w.heap.size, 1, none⟩ = some (.int .i64 (P : Int)) ∧ u.cell? ⟨w.heap.size, 2, none⟩ = some (.int .i64 (S : Int)) ∧ u.cell? ⟨w.heap.size, 3, none⟩ = some (.slice ca cn cc)) (u4.alloc (.cells #[.slice (some ⟨g4, 0, none⟩) l0 c4, .slice none 0 0, .bool false] 144)) := (s14_of HN6.out.n0.gb)
        go_wp2_with fail
        clear O
        refine N.out _ _ hZ fun O => ?_
        clear N K hZ
        try simp only [zz]
        have eL3 : (u4.alloc (.cells #[.slice (some ⟨g4, 0, none⟩) l0 c4, .slice none 0 0, .bool false] 144)).cell? ⟨q, 0, none⟩ = some lv := (cells4 HN6.out.qb).1
        refine rn1 1 fun K N => ?_
        go_simp
        go_wp2_with fail
        have hZ := O
        clear O
        refine N.out _ _ hZ fun O => ?_
        clear N K hZ
        try simp only [zz]
     all_goals
      refine rd 14 fun K N => ?_
      refine wp_append_lies _ (.tmp 70) (.tmp 82) 140 rfl w.heap.size 144 i144 (.agg #[.slice none 0 0, .slice none 0 0, .bool false]) 3 56 Try.underlying140 hI1 hI2 hI3 hI4 rfl (by decide) lv ls.length (ls.flatMap Lc.cells) rfl HN6.out.lvs.row ⟨u4.heap.size, 0, none⟩ 1 1 [.slice (some ⟨g4, 0, none⟩) l0 c4, .slice none 0 0, .bool false] rfl rfl (news3 HNW.out) (by intro u hu; simp at hu; rcases hu with rfl | rfl | rfl <;> rfl) (by decide) (by simp [maxLen]; omega) (by omega) HN6.out.n0.rows.bel.size _ rfl ?_
      intro gn nc Y own grow lies _
      obtain ⟨q1, q2, q3, q4, q5, q6⟩ := HN6.out.push HO6.out HBY.out own grow lies
      have HQ1 := J q1
      rw [hkl] at HQ1
      have hZ : (fun u => u.cell? ⟨w.heap.size, 0, none⟩ = some (.int .i64 (B : Int)) ∧ u.cell? ⟨w.heap.size, 1, none⟩ = some (.int .i64 (P : Int)) ∧ u.cell? ⟨w.heap.size, 2, none⟩ = some (.int .i64 (S : Int)) ∧ u.cell? ⟨w.heap.size, 3, none⟩ = some (.slice ca cn cc)) Y := s14_of q5
      clear own grow lies q1 q5 q6
      clear O
      refine N.out _ _ hZ fun O => ?_
      clear N K hZ
      try simp only [zz]
      refine tk 15 ?_
      refine rd 16 fun K N => ?_
      go_simp
      go_wp2_with fail
      have hZ := s14_of HQ1.out.n0.gb
      clear O
      refine N.out _ _ hZ fun O => ?_
      clear N K hZ
      try simp only [zz]
      refine td ?_
      clear O q2 q3 q4
      have HLV : Hid ((ls ++ [(⟨some ⟨g4, 0, none⟩, l0, c4, none, 0, 0, ((zs.drop t).take l0), [], false⟩ : Lc)]).map Lc.v = (List.range (k + 1)).map (ldQ l0 P zs b)) := by unfold Hid; rw [List.map_append, HLS.out, List.range_succ, List.map_append, HT.out]; rfl
      clear hmr
      obtain ⟨z0, z1, z2, z3⟩ := s14_of HQ1.out.n0.gb
      generalize hY9 : World.setCell Y ⟨q, 0, none⟩ _ = y9 at HQ1 z0 z1 z2 z3 ⊢
      clear hY9
      go_wp2_with (first | (go_at_call 78; refine (rlong_any _ _ S _ hS.1 hS.2).mono ?_; rintro e u7 ⟨rfl, b7⟩; rw [← HLE.out]; have HB7 := J b7; clear b7))
      go_roundw
      case rel => exact ⟨k + 1, _, _, by omega, by go_num, by rw [HT2.out, HTE.out], by rw [List.length_append, hkl]; rfl, J (HQ1.out.below HB7.out), HLV, fun _ => ⟨gn, nc, rfl⟩⟩
      case measure => simp [intOf]; omega
    ·have f0 : decide ((k : Int) < (P : Int)) = false := decide_eq_false (by omega)
     obtain rfl : k = P := by omega
     have hlv0 := hlvf (by omega)
     have HTK : Hid (t = (b + 1) * k * l0) := by unfold Hid; rw [ht, Nat.succ_mul]
     clear ht
     go_upto_region 16 with fail
     clear b0 b1 b2 b3 b4 hlvf
     have HND := J (HNk.out.below (drew_below wr))
     rw [← hkl] at hlv0
     clear HNk
     refine wp_region_held_drew (S := (fun u => u.cell? ⟨q, 0, none⟩ = some lv ∧ u.cell? ⟨q, 1, none⟩ = some (.bool mv) ∧ u.cell? ⟨q, 2, none⟩ = some (.bool false) ∧ u.cell? ⟨q, 3, none⟩ = some (.int .i64 0))) (by kernel_rfl) (cells4 HND.out.qb) fun O => ?_
     refine tk 0 ?_
     refine tk 1 ?_
     refine tk 2 ?_
     refine tk 3 ?_
     refine tk 5 ?_
     have eL0 : wr.drew.cell? ⟨c9, 3, none⟩ = some rv := cells8 HND.out.n0.box
     refine rn2 4 6 (fun K N => ?r39_11a0) (fun K N => ?r39_11b0)
     case' r39_11a0 =>
      go_simp
      go_wp2_with fail
      have hZ := O
      clear O
      refine N.out _ _ hZ fun O => ?_
      clear N K hZ
      try simp only [zz]
      refine rn1 6 fun K N => ?_
      go_simp
      have HN6 := J (HND.out.below (below_alloc wr.drew (.cells #[lv, .bool mv, .bool false, .int .i64 0] 142)))
      have HNW : Hid ((wr.alloc (.cells #[lv, .bool mv, .bool false, .int .i64 0] 142)).drew.heap[wr.heap.size]? = some (.cells #[lv, .bool mv, .bool false, .int .i64 0] 142 (0, 0))) := alloc_new wr (.cells #[lv, .bool mv, .bool false, .int .i64 0] 142)
      have hZ : (fun u => u.cell? ⟨q, 0, none⟩ = some lv ∧ u.cell? ⟨q, 1, none⟩ = some (.bool mv) ∧ u.cell? ⟨q, 2, none⟩ = some (.bool false) ∧ u.cell? ⟨q, 3, none⟩ = some (.int .i64 0)) (wr.alloc (.cells #[lv, .bool mv, .bool false, .int .i64 0] 142)).drew := cells4 (HN6.out.qb)
      go_wp2_with fail
      clear O
      refine N.out _ _ hZ fun O => ?_
      clear N K hZ
      try simp only [zz]
     case' r39_11b0 =>
      go_simp
      have HN6 := J (HND.out.below (below_alloc wr.drew (.cells #[lv, .bool mv, .bool false, .int .i64 0] 142)))
      have HNW : Hid ((wr.alloc (.cells #[lv, .bool mv, .bool false, .int .i64 0] 142)).drew.heap[wr.heap.size]? = some (.cells #[lv, .bool mv, .bool false, .int .i64 0] 142 (0, 0))) := alloc_new wr (.cells #[lv, .bool mv, .bool false, .int .i64 0] 142)
      have hZ : (fun u => u.cell? ⟨q, 0, none⟩ = some lv ∧ u.cell? ⟨q, 1, none⟩ = some (.bool mv) ∧ u.cell? ⟨q, 2, none⟩ = some (.bool false) ∧ u.cell? ⟨q, 3, none⟩ = some (.int .i64 0)) (wr.alloc (.cells #[lv, .bool mv, .bool false, .int .i64 0] 142)).drew := cells4 (HN6.out.qb)
      go_wp2_with fail
      clear O
      refine N.out _ _ hZ fun O => ?_
      clear N K hZ
      try simp only [zz]
      have eL1 : (wr.alloc (.cells #[lv, .bool mv, .bool false, .int .i64 0] 142)).drew.cell? ⟨c9, 3, none⟩ = some rv := cells8 HN6.out.n0.box
      refine rn1 4 fun K N => ?_
      go_simp
      go_wp2_with fail
      have hZ := O
      clear O
      refine N.out _ _ hZ fun O => ?_
      clear N K hZ
      try simp only [zz]
     all_goals
      refine rd 7 fun K N => ?_
      refine wp_append_lies _ (.tmp 94) (.tmp 96) 133 rfl w.heap.size 142 i142 (.agg #[.slice none 0 0, .bool false, .bool false, .int .i64 0]) 4 40 Try.underlying133 hJ1 hJ2 hJ3 hJ4 rfl (by decide) rv rs.length (rs.flatMap Rc.cells) rfl HN6.out.n0.rows.row ⟨wr.heap.size, 0, none⟩ 1 1 [lv, .bool mv, .bool false, .int .i64 0] rfl rfl (news4 HNW.out) (by intro u hu; simp at hu; rcases hu with rfl | rfl | rfl | rfl <;> first | rfl | (obtain ⟨_, _, e⟩ := hlv0; rw [e]; rfl)) (by decide) (by simp [maxLen]; omega) (by omega) HN6.out.n0.rows.bel.size _ rfl ?_
      intro gn nc Y own grow _ _
      obtain ⟨lg, lcap, hlv⟩ := hlv0
      obtain ⟨q1, q2, q3, q4⟩ := HN6.out.done hkl hlv own grow
      have HQ1 := J q1
      rw [hrl] at HQ1
      have HQ4 := J q4
      have hZ : (fun u => u.cell? ⟨q, 0, none⟩ = some lv ∧ u.cell? ⟨q, 1, none⟩ = some (.bool mv) ∧ u.cell? ⟨q, 2, none⟩ = some (.bool false) ∧ u.cell? ⟨q, 3, none⟩ = some (.int .i64 0)) Y := cells4 q4
      clear own grow q1 q4
      clear O
      refine N.out _ _ hZ fun O => ?_
      clear N K hZ
      try simp only [zz]
      refine tk 8 ?_
      refine tk 9 ?_
      refine rd 10 fun K N => ?_
      go_simp
      go_wp2_with fail
      have hZ := cells4 (((Only.setCell (· = c9) Y c9 3 (.slice (some ⟨gn, 0, none⟩) (b + 1) nc) rfl).block q (lt_of_block HQ4.out) HQC.out).trans HQ4.out)
      clear O
      refine N.out _ _ hZ fun O => ?_
      clear N K hZ
      try simp only [zz]
      refine td ?_
      clear O q2 q3
      have HVN : Hid ((rs ++ [(⟨lg, lcap, mv, false, 0, ls⟩ : Rc)]).map Rc.v = (List.range (b + 1)).map (ldF l0 k zs ms)) := by
       unfold Hid
       rw [List.map_append, HVr.out, List.range_succ, List.map_append]
       show _ ++ [(⟨mv, false, 0, ls.map Lc.v⟩ : Bl)] = _ ++ [ldF l0 k zs ms b]
       rw [HLS.out, HMV.out]
       rfl
      go_wp2
      go_roundw
      case rel => exact ⟨b + 1, _, _, by omega, by go_num, by rw [HTK.out], by rw [List.length_append, hrl]; rfl, HQ1, HVN, fun _ => ⟨gn, nc, rfl⟩⟩
      case measure => simp [intOf]; omega
  ·have e0 : decide ((b : Int) < (B : Int)) = false := decide_eq_false (by omega)
   obtain rfl : b = B := by omega
   obtain ⟨gr, cr, rfl⟩ := hrvf (by omega)
   go_wp2
   refine bodyPost_ret (v := .tuple #[.pointer (some ⟨c9, 0, none⟩), .int .i64 0]) (by simp [results, Try.results39, go_sem]) rfl ?_
   have h9 := HNr.out.ref HLE.out hrl (by rw [hrl]) HRF.out HFB.out
   rw [HVr.out] at h9
   refine ⟨c9, rfl, ⟨⟨b, P, S, gr, rs.length, cr, sa, n, c, false, 0, none, 0, 0⟩, rs, ?_, rfl, rfl⟩, HNr.out.rows.bel⟩
   have e9 : loadC b P S zs ms (fs.map Fc.t) = ⟨b, P, S, (List.range b).map (ldF l0 P zs ms), fun _ _ => [], fs.map Fc.t, false, 0, []⟩ := by
    unfold loadC emptyC
    rw [← HLE.out, ldL_full]
   rw [e9]
   exact h9
end Go.Proofs.Ytadlkikjfonkgaa
namespace Go.Proofs.Ytadlkikjfonkgaa
open Go.RowKit
set_option linter.unusedVariables false
set_option maxRecDepth 100000
set_option maxHeartbeats 4000000
theorem marks_news (w : World) : ∀ j u, [Value.int .u8 161, Value.int .u8 178, Value.int .u8 195][j]? = some u →
  (w.alloc (.cells #[.int .u8 161, .int .u8 178, .int .u8 195] 5)).cell? ((⟨w.heap.size, 0, none⟩ : Addr).add j) = some u := by
 intro j u hj
 match j, hj with
 | 0, hj => simp at hj; subst hj; simp [Addr.add]
 | 1, hj => simp at hj; subst hj; simp [Addr.add]
 | 2, hj => simp at hj; subst hj; simp [Addr.add]
theorem marks_one : ∀ u ∈ [Value.int .u8 161, Value.int .u8 178, Value.int .u8 195], u.oneCell' = true := by
 intro u hu
 simp at hu
 rcases hu with rfl | rfl | rfl <;> rfl
theorem marked_any (a : Option Addr) (len cap : Nat) (zs : List Int) (w : World) (h : Reads w a len zs) (hr : len ≤ 140737488355000) :
  Calls Try.prog 38 #[.slice a len cap] w fun e w' => ∃ g cap', e = .returned (.slice (some ⟨g, 0, none⟩) len cap') ∧ Own w' w.heap.size g (len + 3) cap' (zs ++ [161, 178, 195]) ∧ Below w.heap.size w w' := by
 obtain ⟨i0, hi, hz0, hz1, hz2⟩ := info_parts info5
 have hlen := h.1
 cases a with
 | none =>
  have hl0 : len = 0 := h.2.2.1 rfl
  subst hl0
  have hz : zs = [] := List.eq_nil_of_length_eq_zero hlen
  subst hz
  have hmade : (w.alloc (.cells #[] 5)).ownsRow w.heap.size 5 1 (.slice (some ⟨w.heap.size, 0, none⟩) 0 0) 0 [] := World.ownsRow_made w #[] 0 (Nat.le_refl _) (by simp [maxLen]) rfl
  go_enter Try.func38, Try.ntmps38
  go_wp2_with (
   (at_builtin; refine wpList_append_own _ rfl (.tmp 6) (.tmp 7) 24 rfl w.heap.size 5 i0 (.int .u8 0) 1 1 Try.underlying24 hi hz0 hz1 hz2 rfl (by decide) _ _ _ rfl (hmade.alloc _) ⟨w.heap.size + 1, 0, none⟩ 3 3 [.int .u8 161, .int .u8 178, .int .u8 195] rfl rfl (by simpa using marks_news (w.alloc (.cells #[] 5))) marks_one (by simp [maxLen]) (by omega) (by simp; omega) ?_; intro v2 w2 hown2 hgrow2 _; obtain ⟨g, c2, rfl, hc2, hm2, hbg, hgl⟩ := own_shape hown2 (by omega)))
  go_ret
  refine ⟨g, c2, rfl, by simpa [Own] using hown2, ?_⟩
  exact (((Below.refl w.heap.size w).alloc (Nat.le_refl _) _).alloc (by simp) _).grown hgrow2 (by simp; omega) (fun k hk => (hmade.lt k hk).1)
 | some x =>
  have hnews : ∀ j u, (zs.map (Value.int .u8))[j]? = some u → (w.alloc (.cells #[] 5)).cell? (x.add j) = some u := fun j u hj => by
   have h1 := h.news j u hj
   rw [((Below.refl w.heap.size w).alloc (Nat.le_refl _) _).cell (block_lt_of_cell h1)]
   exact h1
  have hmade : (w.alloc (.cells #[] 5)).ownsRow w.heap.size 5 1 (.slice (some ⟨w.heap.size, 0, none⟩) 0 0) 0 [] := World.ownsRow_made w #[] 0 (Nat.le_refl _) (by simp [maxLen]) rfl
  go_enter Try.func38, Try.ntmps38
  go_wp2_with (first
   | (at_builtin; refine wpList_append_own _ rfl (.tmp 4) (.tmp 5) 24 rfl w.heap.size 5 i0 (.int .u8 0) 1 1 Try.underlying24 hi hz0 hz1 hz2 rfl (by decide) _ _ _ rfl hmade x len cap (zs.map (Value.int .u8)) rfl (by simp [hlen]) hnews (ints_oneCell _ _) (by simp [maxLen]; omega) (by omega) (by simp) ?_; intro v1 w1 hown1 hgrow1 _)
   | (at_builtin; refine wpList_append_own _ rfl (.tmp 6) (.tmp 7) 24 rfl w.heap.size 5 i0 (.int .u8 0) 1 1 Try.underlying24 hi hz0 hz1 hz2 rfl (by decide) _ _ _ rfl (hown1.alloc _) ⟨w1.heap.size, 0, none⟩ 3 3 [.int .u8 161, .int .u8 178, .int .u8 195] rfl rfl (marks_news w1) marks_one (by simp [maxLen]; omega) (by omega) (by have := hgrow1.size; simp at this ⊢; omega) ?_; intro v2 w2 hown2 hgrow2 _; obtain ⟨g, c2, rfl, hc2, hm2, hbg, hgl⟩ := own_shape hown2 (by omega)))
  go_ret
  refine ⟨g, c2, rfl, by simpa [Own] using hown2, ?_⟩
  have b1 : Below w.heap.size w w1 := ((Below.refl w.heap.size w).alloc (Nat.le_refl _) _).grown hgrow1 (by simp) (fun k hk => (hmade.lt k hk).1)
  exact (b1.alloc b1.size _).grown hgrow2 (by have := b1.size; simp; omega) (fun k hk => (hown1.lt k hk).1)
theorem kept_any (B g l c n cap : Nat) (a : Option Addr) (zs : List Int) (w : World) (hr : n ≤ 140737488355000) (h : Reads w a n zs) (hown : Own w B g (n + 3) c (zs ++ [161, 178, 195])) :
  Calls Try.prog 41 #[.slice (some ⟨g, 0, none⟩) l c, .slice a n cap] w fun e w' => e = .returned (.bool true) ∧ ∃ k, w' = w.drewN k := by
 have hlen := h.1
 have c1 : ∀ k, (convert 24 9 (.slice a n cap)).run Try.prog (w.drewN k) = .ok (.string (strOfNums zs)) (w.drewN k) := fun k => conv a n cap zs _ (h.drewN k)
 have c2 : ∀ k, (convert 24 9 (.slice (some ⟨g, 0, none⟩) n c)).run Try.prog (w.drewN k) = .ok (.string (strOfNums zs)) (w.drewN k) := by
  intro k
  refine conv _ n c zs _ (Reads.drewN ?_ k)
  have := hown.reads (fun x hx => by rcases List.mem_append.1 hx with h1 | h1; exact h.2.1 x h1; simp at h1; rcases h1 with rfl | rfl | rfl <;> decide) n (by omega)
  rwa [List.take_left' hlen] at this
 have hc : n + 3 ≤ c := by obtain ⟨_, _, e, h3, _⟩ := own_shape hown (by omega); simp at e; omega
 have hcm : c ≤ 9223372036854775807 := by obtain ⟨_, _, e, _, h3, _⟩ := own_shape hown (by omega); simp [maxLen] at e h3; omega
 have m0 : w.cell? ⟨g, n, none⟩ = some (.int .u8 161) := by rw [hown.cell n (by omega)]; simp [List.getD, hlen]
 have m1 : w.cell? ⟨g, n + 1, none⟩ = some (.int .u8 178) := by rw [hown.cell (n + 1) (by omega)]; simp [List.getD, hlen]
 have m2 : w.cell? ⟨g, n + 2, none⟩ = some (.int .u8 195) := by rw [hown.cell (n + 2) (by omega)]; simp [List.getD, hlen]
 clear hown h
 have i1 : (n : Int) ≤ (c : Int) := by omega
 have i2 : (n : Int) < (n : Int) + 3 := by omega
 have i3 : (n : Int) + 1 < (n : Int) + 3 := by omega
 have i4 : (n : Int) + 2 < (n : Int) + 3 := by omega
 have i5 : n ≤ c := by omega
 go_enter Try.func41, Try.ntmps41
 go_wp2
 go_quiet (fail)
 go_wp2
 go_ret
 exact ⟨rfl, nq, rfl⟩
end Go.Proofs.Ytadlkikjfonkgaa
