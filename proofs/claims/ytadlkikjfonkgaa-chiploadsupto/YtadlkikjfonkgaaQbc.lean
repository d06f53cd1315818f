/-
  SEAT Ytadlkikjfonkgaa: Lq, Lr, Kw.
-/
import Derived.Test.YtadlkikjfonkgaaQa
import Derived.Test.YtadlkikjfonkgaaQr
import Derived.Test.YtadlkikjfonkgaaQb
namespace Go.Proofs.Ytadlkikjfonkgaa
open Go.RowKit Go.Conc
set_option linter.unusedVariables false
set_option maxRecDepth 100000
set_option maxHeartbeats 4000000
variable {w u : World} {x : Bx} {B P S cn cc mn mc m i g : Nat} {q : List Ft} {zs : List Int} {ms : List Bool} {ca ma : Option Addr} {bs : List Bc} {fe : List Fe} {F : Nat → Prop} {C : Ch} {oi oj : Oper}
structure LD (w u : World) (p : Nat) (x : Bx) (B P S : Nat) (q : List Ft) (zs : List Int) (ms : List Bool) (ca : Option Addr) (cn cc : Nat) (ma : Option Addr) (mn mc : Nat) (m t : Nat) (bs : List Bc) (fe : List Fe) : Prop where
 c : CAt u p (fun k => w.heap.size < k ∧ k < u.heap.size) { emptyC B P S q with bl := ldL (pgB S) B P zs ms m t } x bs fe
 bel : Below w.heap.size w u
 lb : LB w u B P S ca cn cc ma mn mc
theorem LD.start {v : World} {p : Nat} {m t : Nat} (h : CAt v p (fun k => u.heap.size ≤ k ∧ k < v.heap.size) (emptyC B P S q) x bs fe) (hu : Below w.heap.size w u) (hb : Below u.heap.size u v) (hl : LB w u B P S ca cn cc ma mn mc) : LD w v p x B P S q zs ms ca cn cc ma mn mc 0 0 bs fe := by
 have hlt := lt_of_block hl
 refine ⟨?_, below_trans hu hb, hl.keep hb⟩
 rw [ldL_0]
 exact h.keep (fun _ _ => rfl) (fun k hk => ⟨by omega, hk.2⟩) (fun k hk => hk.2)
theorem LD.blk {p : Nat} {t : Nat} (h : LD w u p x B P S q zs ms ca cn cc ma mn mc m t bs fe) {i : Nat} (hi : i < B) : ∃ b, bs[i]? = some b ∧ b.v = ldB (pgB S) P zs ms m t i ∧ b.ps.length = P := by
 have e1 : bs.map Bc.v = ldL (pgB S) B P zs ms m t := h.c.bl
 have hl : i < bs.length := by have := congrArg List.length e1; simp [ldL] at this; omega
 obtain ⟨b, hb⟩ : ∃ b, bs[i]? = some b := ⟨_, List.getElem?_eq_getElem hl⟩
 refine ⟨b, hb, ?_, ?_⟩
 ·have e2 := congrArg (·[i]?) e1
  simp only [List.getElem?_map, hb, ldL_get hi, Option.map_some] at e2
  exact Option.some.inj e2
 ·exact (h.c.bok b (List.mem_of_getElem? hb)).np
theorem LD.nb {p : Nat} {t : Nat} (h : LD w u p x B P S q zs ms ca cn cc ma mn mc m t bs fe) : x.nb = B := by
 have := h.c.nb.trans h.c.len
 simpa [ldL] using this
theorem LD.grow {v : World} {p : Nat} {t : Nat} (h : LD w u p x B P S q zs ms ca cn cc ma mn mc m t bs fe) (hb : Below u.heap.size u v) : LD w v p x B P S q zs ms ca cn cc ma mn mc m t bs fe :=
 ⟨h.c.keep (fun k hk => hb.block k hk.2) (fun k hk => ⟨hk.1, Nat.lt_of_lt_of_le hk.2 hb.size⟩) (fun k hk => hk.2), below_trans h.bel hb, h.lb.keep hb⟩
theorem LD.mark {p : Nat} {t : Nat} (h : LD w u p x B P S q zs ms ca cn cc ma mn mc m t bs fe) (hm : m < B) {b : Bc} (hb : bs[m]? = some b) (hv : b.v = ldB (pgB S) P zs ms m t m) : LD w (u.setCell ⟨x.gb, m * 4, none⟩ (.bool (ms.getD m false))) p x B P S q zs ms ca cn cc ma mn mc (m + 1) t (bs.set m { b with m := ms.getD m false }) fe := by
 have h1 := h.c.setB hb 0 (by omega) (.bool (ms.getD m false)) { b with m := ms.getD m false } rfl rfl rfl
 rw [Nat.add_zero] at h1
 have e1 : ({ b with m := ms.getD m false } : Bc).v = { ldB (pgB S) P zs ms m t m with m := ms.getD m false } := by rw [← hv]; rfl
 rw [e1] at h1
 simp only at h1
 rw [ldL_mark hm] at h1
 have ho := Only.setCell (· = x.gb) u x.gb (m * 4) (.bool (ms.getD m false)) rfl
 have hgb := h.c.fb.1
 exact ⟨h1.keep (fun _ _ => rfl) (fun k hk => ⟨hk.1, by simp; exact hk.2⟩) (fun k hk => hk.2), h.bel.trans (ho.below (fun j hj => by omega) h.bel.size), (ho.block _ (lt_of_block h.lb) (by omega)).trans h.lb⟩
theorem LD.page {v : World} {p : Nat} {k : Nat} (h : LD w u p x B P S q zs ms ca cn cc ma mn mc m (i * P + k) bs fe) (hi : i < B) (hk : k < P) {b : Bc} (hb : bs[i]? = some b) (hv : b.v = ldB (pgB S) P zs ms m (i * P + k) i)
  (hbel : Below u.heap.size u v) {g cap : Nat} (ho : Own v u.heap.size g (pgB S) cap ((zs.drop ((i * P + k) * pgB S)).take (pgB S))) (hcap : pgB S ≤ cap) (hr : ∀ z ∈ zs, 0 ≤ z ∧ z ≤ 255) :
  ∃ bs', LD w (v.setCell ⟨b.g, k * 2, none⟩ (.slice (some ⟨g, 0, none⟩) (pgB S) cap)) p x B P S q zs ms ca cn cc ma mn mc m (i * P + k + 1) bs' fe ∧ ∀ b', bs'[i]? = some b' → b'.g = b.g := by
 have hc := h.c.below hbel
 have hkl : k < b.ps.length := by have := (hc.bok b (List.mem_of_getElem? hb)).np; simp only [emptyC] at this; omega
 obtain ⟨qq, hq⟩ : ∃ qq, b.ps[k]? = some qq := ⟨_, List.getElem?_eq_getElem hkl⟩
 have hqh : qq.h = false := by
  have e := congrArg Bl.ps hv
  have e2 := congrArg (·[k]?) e
  simp only [Bc.v, ldB, List.getElem?_map, hq, List.getElem?_range hk, Option.map_some] at e2
  have e3 := congrArg Pg.h (Option.some.inj e2)
  simpa [ldP, Pc.v] using e3
 have hrr : ∀ z ∈ (zs.drop ((i * P + k) * pgB S)).take (pgB S), 0 ≤ z ∧ z ≤ 255 := fun z hz => hr z (List.mem_of_mem_drop (List.mem_of_mem_take hz))
 obtain ⟨cs, hcs⟩ := own_tag ho (g := g) rfl
 have hgl := ho.lt
 have hus := h.bel.size
 have hwl := lt_of_block h.lb
 have hpo : PcOk v (fun k => w.heap.size < k ∧ k < v.heap.size) (pgB S) ⟨some ⟨g, 0, none⟩, pgB S, cap, (zs.drop ((i * P + k) * pgB S)).take (pgB S), false⟩ :=
  ⟨ho.len, hrr, Or.inr ⟨g, rfl, ⟨by omega, hgl.2⟩, rfl, hcap, by have h9 := ho.reads hrr _ (Nat.le_refl _); rw [List.take_take, Nat.min_self] at h9; exact h9, ⟨cs, (0, 0), hcs⟩⟩⟩
 have h1 := hc.setP1 (G := fun k => w.heap.size < k ∧ k < v.heap.size) (q' := ⟨some ⟨g, 0, none⟩, pgB S, cap, (zs.drop ((i * P + k) * pgB S)).take (pgB S), false⟩) hb hq hqh.symm (fun k hk => ⟨hk.1, Nat.lt_of_lt_of_le hk.2 hbel.size⟩) (fun k hk => hk.2) hpo
 have hgb := (hc.bok b (List.mem_of_getElem? hb)).fg
 have o1 := Only.setCell (· = b.g) v b.g (k * 2) (.slice (some ⟨g, 0, none⟩) (pgB S) cap) rfl
 have h2 := h1.keep (G := fun j => w.heap.size < j ∧ j < (v.setCell ⟨b.g, k * 2, none⟩ (.slice (some ⟨g, 0, none⟩) (pgB S) cap)).heap.size) (fun _ _ => rfl) (fun k hk => ⟨hk.1, by simp; exact hk.2⟩) (fun k hk => hk.2)
 simp only at h2
 rw [hv, show (Pc.v ⟨some ⟨g, 0, none⟩, pgB S, cap, (zs.drop ((i * P + k) * pgB S)).take (pgB S), false⟩) = ⟨(zs.drop ((i * P + k) * pgB S)).take (pgB S), false⟩ from rfl, ldL_page hi hk] at h2
 refine ⟨_, ⟨h2, (below_trans h.bel hbel).trans (o1.below (fun j hj => by have := hgb.1; omega) (Nat.le_trans h.bel.size hbel.size)), (o1.block _ (lt_of_block (h.lb.keep hbel)) (by have := hgb.1; omega)).trans (h.lb.keep hbel)⟩, fun b' hb' => ?_⟩
 rw [List.getElem?_set_self (List.getElem?_eq_some_iff.1 hb).1] at hb'
 cases hb'
 rfl
theorem s15_keep {v : World} (h : u.cell? ⟨x.gb, i * 4 + 3, none⟩ = some (.slice (some ⟨g, 0, none⟩) P P) ∧ u.cell? ⟨w.heap.size, 0, none⟩ = some (.int .i64 (B : Int)) ∧ u.cell? ⟨w.heap.size, 1, none⟩ = some (.int .i64 (P : Int)) ∧ u.cell? ⟨w.heap.size, 2, none⟩ = some (.int .i64 (S : Int))) (hb : Below u.heap.size u v) : v.cell? ⟨x.gb, i * 4 + 3, none⟩ = some (.slice (some ⟨g, 0, none⟩) P P) ∧ v.cell? ⟨w.heap.size, 0, none⟩ = some (.int .i64 (B : Int)) ∧ v.cell? ⟨w.heap.size, 1, none⟩ = some (.int .i64 (P : Int)) ∧ v.cell? ⟨w.heap.size, 2, none⟩ = some (.int .i64 (S : Int)) := by
 obtain ⟨h0, h1, h2, h3⟩ := h
 exact ⟨(hb.cell (block_lt_of_cell h0)).trans h0, (hb.cell (block_lt_of_cell h1)).trans h1, (hb.cell (block_lt_of_cell h2)).trans h2, (hb.cell (block_lt_of_cell h3)).trans h3⟩
theorem page_cell {p : Nat} (h : CAt w p F C x bs fe) {i k : Nat} {b : Bc} (hi : bs[i]? = some b) (hk : k < b.ps.length) : ∃ v, w.cell? ⟨b.g, k * 2, none⟩ = some v := by
 have hq : b.ps[k]? = some b.ps[k] := List.getElem?_eq_getElem hk
 exact ⟨_, ((h.bok b (List.mem_of_getElem? hi)).page hq).1⟩
theorem page_fz {p : Nat} (h : CAt w p F C x bs fe) {i : Nat} {b : Bc} (hi : bs[i]? = some b) (j : Nat) : w.frozen? ⟨b.g, j, none⟩ = false := frozen_of_row w b.g j _ 108 (h.bok b (List.mem_of_getElem? hi)).row
theorem LD.s15 {p : Nat} {t : Nat} (h : LD w u p x B P S q zs ms ca cn cc ma mn mc m t bs fe) {i : Nat} {b : Bc} (hi : bs[i]? = some b) : u.cell? ⟨x.gb, i * 4 + 3, none⟩ = some (.slice (some ⟨b.g, 0, none⟩) P P) ∧ u.cell? ⟨w.heap.size, 0, none⟩ = some (.int .i64 (B : Int)) ∧ u.cell? ⟨w.heap.size, 1, none⟩ = some (.int .i64 (P : Int)) ∧ u.cell? ⟨w.heap.size, 2, none⟩ = some (.int .i64 (S : Int)) := by
 obtain ⟨h0, h1, h2, _⟩ := h.lb.s
 have h3 := (h.c.blk hi).2.2.2
 have e : b.ps.length = P := (h.c.bok b (List.mem_of_getElem? hi)).np
 rw [e] at h3
 exact ⟨h3, h0, h1, h2⟩
theorem s15_keep2 {p : Nat} {t : Nat} (h : LD w u p x B P S q zs ms ca cn cc ma mn mc m t bs fe) (hi : i < B) (hg : ∀ b, bs[i]? = some b → b.g = g) : u.cell? ⟨x.gb, i * 4 + 3, none⟩ = some (.slice (some ⟨g, 0, none⟩) P P) ∧ u.cell? ⟨w.heap.size, 0, none⟩ = some (.int .i64 (B : Int)) ∧ u.cell? ⟨w.heap.size, 1, none⟩ = some (.int .i64 (P : Int)) ∧ u.cell? ⟨w.heap.size, 2, none⟩ = some (.int .i64 (S : Int)) := by
 obtain ⟨b, hb, _⟩ := h.blk hi
 have := h.s15 hb
 rw [hg b hb] at this
 exact this
theorem load_ok (w : World) (B P S : Nat) (hf : Fits B P S = true) (ca : Option Addr) (cn cc : Nat) (ma : Option Addr) (mn mc : Nat) (sa : Option Addr) (n c : Nat) (hcn : cn = B * P * pgB S) (hcc : cn ≤ cc) (hmn : mn = B) (zs : List Int) (hZ : Reads w ca cn zs) (ms : List Bool) (hM : ReadsB w ma mn ms) (fs : List Fc) (hF : ReadsF w sa n fs) (hn : n ≤ 9223372036854775807) (hs : faultsB fs = true) :
  Calls Try.prog 10 #[.agg #[.int .i64 (B : Int), .int .i64 (P : Int), .int .i64 (S : Int), .slice ca cn cc, .slice ma mn mc], .slice sa n c] w fun e w' => ∃ p, e = .returned (.tuple #[.pointer (some ⟨p, 0, none⟩), .int .i64 0]) ∧ ChipAt w' p (fun k => w.heap.size < k ∧ k < w'.heap.size) (loadC B P S zs ms (fs.map Fc.t)) ∧ Below w.heap.size w w' := by
 have hFB := of_decide_eq_true hf
 have hS : 1 ≤ S ∧ S ≤ 8 := by omega
 have hB4 : B ≤ 4096 := by omega
 have hP4 : P ≤ 4096 := by omega
 have hP2 : P ≤ 256 := by omega
 obtain ⟨n0, hn0e⟩ : ∃ n, n = B * P * pgB S := ⟨_, rfl⟩
 obtain ⟨m0, hm0e⟩ : ∃ m, m = B * P := ⟨_, rfl⟩
 obtain ⟨l0, hl0e⟩ : ∃ m, m = pgB S := ⟨_, rfl⟩
 have hm0 : m0 ≤ 65536 := by rw [hm0e]; omega
 have hl0 : l0 ≤ 2126 := by rw [hl0e]; exact pgB_le hS.2
 have hn0 : n0 ≤ 139329536 := by rw [hn0e, ← hm0e, ← hl0e]; exact Nat.le_trans (Nat.mul_le_mul hm0 hl0) (by decide)
 have HM0 : Hid (IntKind.i64.wrap ((B : Int) * (P : Int)) = (m0 : Int)) := by unfold Hid; rw [hm0e] at *; rw [← Int.natCast_mul]; simp only [IntKind.wrap_i64]; omega
 have HN0 : Hid (IntKind.i64.wrap ((m0 : Int) * (l0 : Int)) = (n0 : Int)) := by unfold Hid; rw [← Int.natCast_mul, hn0e, ← hm0e, ← hl0e]; rw [← hm0e, ← hl0e] at hn0e; simp only [IntKind.wrap_i64]; omega
 have HL0 := J hl0e
 have HNE := J hn0e
 have dcn : ((cn : Int) != (n0 : Int)) = false := by simp; omega
 have dmn : ((mn : Int) != (B : Int)) = false := by simp; omega
 have hn4 : n ≤ 4096 := by
  have h1 := hF.1
  unfold faultsB at hs
  simp at hs
  omega
 have hR255 := hZ.2.1
 have HRF := J hF
 have HZ := J hZ
 have HM := J hM
 have HCN := J hcn
 have hB8 : 8 ≤ B := by omega
 have hl0p : 0 < l0 := by rw [hl0e]; unfold pgB; omega
 have HMN := J hmn
 have HNM : Hid (n0 = m0 * l0) := by unfold Hid; rw [hn0e, hm0e, hl0e]
 have HM0e := J hm0e
 have ecn : cn = n0 := by rw [hn0e]; exact hcn
 have HEC := J ecn
 clear hF hZ hM hcn hmn ecn
 have H0 : Hid (LB w (w.alloc (.cells #[.int .i64 (B : Int), .int .i64 (P : Int), .int .i64 (S : Int), .slice ca cn cc, .slice ma mn mc] 27)).drew B P S ca cn cc ma mn mc) := LB.start w _ _ _ _ _ _ _ _ _
 have HBd : Hid (Below w.heap.size w (w.alloc (.cells #[.int .i64 (B : Int), .int .i64 (P : Int), .int .i64 (S : Int), .slice ca cn cc, .slice ma mn mc] 27)).drew) := below_trans (below_alloc _ _) (drew_below _)
 clear hFB hn0e hm0e hl0e
 go_enter Try.func10, Try.ntmps10
 go_wp2
 refine wp_region_held_drew (S := (fun u => u.cell? ⟨w.heap.size, 0, none⟩ = some (.int .i64 (B : Int)) ∧ u.cell? ⟨w.heap.size, 1, none⟩ = some (.int .i64 (P : Int)) ∧ u.cell? ⟨w.heap.size, 2, none⟩ = some (.int .i64 (S : Int)) ∧ u.cell? ⟨w.heap.size, 3, none⟩ = some (.slice ca cn cc) ∧ u.cell? ⟨w.heap.size, 4, none⟩ = some (.slice ma mn mc))) (by kernel_rfl) (H0.out.s) fun O => ?_
 refine tk 0 ?_
 refine tk 1 ?_
 refine rd 2 fun K N => ?_
 go_simp
 go_at_call 45
 refine (mayBe_any B P S _).mono ?_
 rintro e u1 ⟨rfl, b1⟩
 rw [hf]
 have HB1 := J (below_trans HBd.out b1)
 have H1 := J (H0.out.keep b1)
 have hZ := H1.out.s
 clear b1
 go_wp2_with fail
 clear O
 refine N.out _ _ hZ fun O => ?_
 clear N K hZ
 try simp only [zz]
 refine tk 3 ?_
 refine tk 4 ?_
 refine tk 5 ?_
 refine tk 6 ?_
 refine tk 7 ?_
 refine tk 8 ?_
 refine tk 9 ?_
 refine tk 10 ?_
 refine tk 11 ?_
 refine tk 12 ?_
 refine tk 13 ?_
 refine tk 14 ?_
 rw [HM0.out]
 refine tk 15 ?_
 refine tk 16 ?_
 refine rd 17 fun K N => ?_
 go_simp
 go_at_call 46
 refine (pageB_any _ _ S _ hS.1 hS.2).mono ?_
 rintro e u2 ⟨rfl, b2⟩
 rw [← HL0.out]
 have HB2 := J (below_trans HB1.out b2)
 have H2 := J (H1.out.keep b2)
 have hZ := H2.out.s
 clear b2
 go_wp2_with fail
 clear O
 refine N.out _ _ hZ fun O => ?_
 clear N K hZ
 try simp only [zz]
 refine tk 18 ?_
 rw [HN0.out]
 refine tk 19 ?_
 refine tk 20 ?_
 refine tk 21 ?_
 refine tk 22 ?_
 refine tk 23 ?_
 refine tk 24 ?_
 refine tk 25 ?_
 refine tk 26 ?_
 refine tk 27 ?_
 refine tk 28 ?_
 refine tk 29 ?_
 refine td ?_
 clear O
 go_wp2_with (first | (go_at_call 47; refine (faults_any _ sa n c fs (HRF.out.below HB2.out) hn).mono ?_; rintro e u3 ⟨rfl, b3⟩; rw [hs]; have HB3 := J (below_trans HB2.out b3); have H3 := J (H2.out.keep b3); obtain ⟨k0, k1, k2, k3, k4⟩ := H3.out.s; clear b3) | (go_at_call 48; refine (empty_any _ B P S hB4 hP4 sa n c fs (HRF.out.below HB3.out) hn4).mono ?_; rintro e u4 ⟨p, rfl, hC, b4⟩; obtain ⟨x, bs, fe, hc⟩ := hC; have HLD := J (LD.start (m := 0) (t := 0) (zs := zs) (ms := ms) hc HB3.out b4 H3.out); have c3 := hc.box.c3; have enb := HLD.out.nb; rw [enb] at c3; obtain ⟨q0, q1, q2, q3, q4⟩ := HLD.out.lb.s; clear hc b4 k0 k1 k2 k3 k4 enb))
 clear c3 q0 q1 q2 q3 q4
 go_loopw [7, 55] (fun s7 s55 wr => ∃ (i : Nat) (a : Option Addr) (l cp : Nat) (bs : List Bc), i ≤ B ∧ s55 = .int .i64 i ∧ s7 = .slice a l cp ∧ l ≤ cp ∧ Hid (Reads w a l (zs.drop (i * P * l0)) ∧ l + i * P * l0 = cn) ∧ Hid (LD w wr p x B P S (fs.map Fc.t) zs ms ca cn cc ma mn mc i (i * P) bs fe)) (fun s7 s55 _ => B - (intOf s55).toNat)
 case atStart => exact ⟨0, ca, cn, cc, bs, Nat.zero_le _, rfl, rfl, hcc, ⟨by simp; exact HZ.out, by simp⟩, by rw [Nat.zero_mul]; exact HLD⟩
 case round =>
  clear HLD
  obtain ⟨i, a, l, cp, bs1, hi, rfl, rfl, hlc, HRD, HI⟩ := hrel
  have c3 := HI.out.c.box.c3
  rw [HI.out.nb] at c3
  by_cases hlt : i < B
  ·have dm : decide ((i : Int) < (B : Int)) = true := decide_eq_true (by omega)
   have i1 : (i : Int) < (B : Int) := by omega
   have i2 : (i : Int) < (mn : Int) := by have := HMN.out; omega
   obtain ⟨b, hib, hbv, hbp⟩ := HI.out.blk hlt
   obtain ⟨gM, off, hma, _, hcells⟩ := HM.out.pos (by have := HMN.out; omega)
   subst hma
   have mc1 := (HI.out.bel.cell (block_lt_of_cell (hcells i (by omega)))).trans (hcells i (by omega))
   obtain ⟨mv, hmv⟩ : ∃ v, v = ms.getD i false := ⟨_, rfl⟩
   rw [← hmv] at mc1
   obtain ⟨q0, q1, q2, q3, q4⟩ := HI.out.lb.s
   obtain ⟨z0, z1, z2, z3⟩ := HI.out.c.blk hib
   have fzb := fun j => frozen_of_row wr x.gb j _ 106 HI.out.c.row
   rw [hbp] at z3
   have HIM := J (HI.out.mark hlt hib hbv)
   rw [← hmv] at HIM
   have HMV := J hmv
   have hbg0 : (bs1.set i { b with m := mv })[i]? = some { b with m := mv } := List.getElem?_set_self (List.getElem?_eq_some_iff.1 hib).1
   have hge : ({ b with m := mv } : Bc).g = b.g := rfl
   clear hcells q0 q1 q2 q3 z1 z2 hmv hbv
   go_wp2
   clear z0 z3 fzb mc1 q4 c3
   generalize hT : World.setCell wr ⟨x.gb, i * 4, none⟩ _ = t3 at HIM ⊢
   clear hT HI
   obtain ⟨bg, hbg⟩ : ∃ g, b.g = g := ⟨_, rfl⟩
   rw [hbg]
   have HBG0 : Hid (∀ b', (bs1.set i { b with m := mv })[i]? = some b' → b'.g = bg) := fun b' hb' => by
    rw [hbg0] at hb'
    cases hb'
    exact hbg
   clear hib hbg0 hge hbg hbp
   go_loopw [7, 77] (fun s7 s77 wr => ∃ (k : Nat) (a : Option Addr) (l cp : Nat) (bs : List Bc), k ≤ P ∧ s77 = .int .i64 k ∧ s7 = .slice a l cp ∧ l ≤ cp ∧ Hid (Reads w a l (zs.drop ((i * P + k) * l0)) ∧ l + (i * P + k) * l0 = cn) ∧ Hid (LD w wr p x B P S (fs.map Fc.t) zs ms ca cn cc (some ⟨gM, off, none⟩) mn mc (i + 1) (i * P + k) bs fe) ∧ Hid (∀ b', bs[i]? = some b' → b'.g = bg)) (fun s7 s77 _ => P - (intOf s77).toNat)
   case atStart => exact ⟨0, a, l, cp, _, Nat.zero_le _, rfl, rfl, hlc, by rw [Nat.add_zero]; exact HRD, by rw [Nat.add_zero]; exact HIM, HBG0⟩
   case round =>
    clear HIM HRD HBG0 hlc
    obtain ⟨k, a, l, cp, bs2, hk, rfl, rfl, hlc, HRD, HI, HBG⟩ := hrel
    by_cases hkt : k < P
    ·have dk : decide ((k : Int) < (P : Int)) = true := decide_eq_true (by omega)
     have k1 : (k : Int) < (P : Int) := by omega
     obtain ⟨b2, hib, hbv, hbp⟩ := HI.out.blk hlt
     have ebg := HBG.out b2 hib
     have HSA := J (HI.out.s15 hib)
     rw [ebg] at HSA
     have hkl2 : k < b2.ps.length := by omega
     have hkm : (i * P + k + 1) * l0 ≤ cn := by
      have h1 : (i * P + k + 1) ≤ m0 := by
       have h2 : i * P + P ≤ B * P := by rw [← Nat.succ_mul]; exact Nat.mul_le_mul_right _ hlt
       have h3 := HM0e.out
       omega
      have h4 := HEC.out
      have h5 := HNM.out
      rw [h4, h5]
      exact Nat.mul_le_mul_right _ h1
     have hll : l0 ≤ l := by
      have h1 := HRD.out.2
      rw [Nat.succ_mul] at hkm
      omega
     have hlcp : l0 ≤ cp := by omega
     have hfr := fun u : World => front_run u a l cp l0 hlcp
     have HFR := J (front_reads HRD.out.1 hll)
     have HTR := J (tail_reads HRD.out.1 hll hlc)
     have htl := fun u : World => tail_run u a l cp l0 hll hlc
     have HKM := J hkm
     clear hkm
     go_upto_region 15 with fail
     refine wp_region_held_drew (S := (fun u => u.cell? ⟨x.gb, i * 4 + 3, none⟩ = some (.slice (some ⟨bg, 0, none⟩) P P) ∧ u.cell? ⟨w.heap.size, 0, none⟩ = some (.int .i64 (B : Int)) ∧ u.cell? ⟨w.heap.size, 1, none⟩ = some (.int .i64 (P : Int)) ∧ u.cell? ⟨w.heap.size, 2, none⟩ = some (.int .i64 (S : Int)))) (by kernel_rfl) (s15_keep HSA.out (drew_below _)) fun O => ?_
     refine tk 0 ?_
     refine tk 1 ?_
     refine tk 2 ?_
     refine tk 3 ?_
     refine tk 4 ?_
     refine tk 5 ?_
     refine tk 6 ?_
     refine tk 7 ?_
     refine rd 8 fun K N => ?_
     go_simp
     go_at_call 46
     refine (pageB_any _ _ S _ hS.1 hS.2).mono ?_
     rintro e u5 ⟨rfl, b5⟩
     rw [← HL0.out]
     have HB5 := J (below_trans (drew_below wr) b5)
     have hZ := s15_keep HSA.out HB5.out
     clear b5
     go_wp2_with fail
     clear O
     refine N.out _ _ hZ fun O => ?_
     clear N K hZ
     try simp only [zz]
     refine tk 9 ?_
     refine rd 10 fun K N => ?_
     go_simp
     go_at_call 49
     refine (clone_any _ l0 _ _ _ (HFR.out.below (below_trans HI.out.bel HB5.out)) (by omega)).mono ?_
     rintro e u6 ⟨v6, rfl, ow6, b6⟩
     obtain ⟨g6, c6, rfl, le6, _⟩ := own_shape ow6 hl0p
     have HB6 := J (below_trans HB5.out b6)
     have HO6 := J (own_base (B' := wr.heap.size) ow6 HB5.out.size)
     have hZ := s15_keep HSA.out HB6.out
     obtain ⟨v7, y6⟩ := page_cell (HI.out.c.below HB6.out) hib hkl2
     have fz6 := page_fz (HI.out.c.below HB6.out) hib
     rw [ebg] at y6
     rw [ebg] at fz6
     clear b6 ow6
     go_wp2_with fail
     clear O
     refine N.out _ _ hZ fun O => ?_
     clear N K hZ
     try simp only [zz]
     refine tk 11 ?_
     refine tk 12 ?_
     refine rd 13 fun K N => ?_
     go_simp
     go_wp2_with fail
     have HX := HI.out.page hlt hkt hib hbv HB6.out (by rw [← HL0.out]; exact HO6.out) (by rw [← HL0.out]; exact le6) hR255
     rw [← HL0.out, ebg] at HX
     obtain ⟨bs6, HX, HGS⟩ := HX
     have HLD := J HX
     have HBG6 := J HGS
     have hZ := s15_keep2 HX hlt HBG6.out
     clear HX HGS
     clear O
     refine N.out _ _ hZ fun O => ?_
     clear N K hZ
     try simp only [zz]
     refine td ?_
     clear O
     generalize hT : World.setCell u6 ⟨bg, k * 2, none⟩ _ = t6 at HLD ⊢
     clear hT y6 fz6 HSA hfr
     obtain ⟨q0, q1, q2, q3, q4⟩ := HLD.out.lb.s
     go_wp2_with (first | (go_at_call 46; refine (pageB_any _ _ S _ hS.1 hS.2).mono ?_; rintro e u7 ⟨rfl, b7⟩; rw [← HL0.out]; have HB7 := J b7; clear b7))
     go_roundw
     case rel => exact ⟨k + 1, _, _, _, bs6, hkt, by go_num, rfl, by omega, ⟨by
       have h9 := HTR.out
       rw [List.drop_drop] at h9
       rw [show (i * P + (k + 1)) * l0 = (i * P + k) * l0 + l0 by rw [← Nat.add_assoc, Nat.succ_mul]]
       exact h9, by
       have h9 := HRD.out.2
       rw [show (i * P + (k + 1)) * l0 = (i * P + k) * l0 + l0 by rw [← Nat.add_assoc, Nat.succ_mul]]
       omega⟩, HLD.out.grow HB7.out, HBG6⟩
     case measure => simp [intOf]; omega
    ·have dk : decide ((k : Int) < (P : Int)) = false := decide_eq_false (by omega)
     have ek : k = P := by omega
     subst ek
     go_wp2
     go_roundw
     case rel => exact ⟨i + 1, a, l, cp, bs2, hlt, by go_num, rfl, hlc, by rw [Nat.succ_mul]; exact HRD, by rw [Nat.succ_mul]; exact HI⟩
     case measure => simp [intOf]; omega
  ·have dm : decide ((i : Int) < (B : Int)) = false := decide_eq_false (by omega)
   have ei : i = B := by omega
   subst ei
   go_wp2
   refine bodyPost_ret (v := .tuple #[.pointer (some ⟨p, 0, none⟩), .int .i64 0]) (by simp [results, Try.results10, go_sem]) rfl ?_
   exact ⟨p, rfl, ⟨_, _, _, HI.out.c⟩, HI.out.bel⟩
def LoadE (B P S : Int) (cn mn : Nat) (fs : List Fc) : Int :=
 if Fits B P S = false then 47 else if cn ≠ B.toNat * P.toNat * pgB S.toNat then 47 else if mn ≠ B.toNat then 47 else if faultsB fs = false then 48 else 0
structure LoadV (w w' : World) (B P S : Int) (cn mn : Nat) (zs : List Int) (ms : List Bool) (fs : List Fc) (e : Ending) : Prop where
 no : LoadE B P S cn mn fs ≠ 0 → e = .returned (.tuple #[.pointer none, .int .i64 (LoadE B P S cn mn fs)])
 yes : LoadE B P S cn mn fs = 0 → ∃ p, e = .returned (.tuple #[.pointer (some ⟨p, 0, none⟩), .int .i64 0]) ∧ ChipAt w' p (fun k => w.heap.size < k ∧ k < w'.heap.size) (loadC B.toNat P.toNat S.toNat zs ms (fs.map Fc.t))
 bel : Below w.heap.size w w'
theorem Load_any (w : World) (B P S : Int) (ca : Option Addr) (cn cc : Nat) (hcc : cn ≤ cc) (zs : List Int) (hZ : Reads w ca cn zs) (ma : Option Addr) (mn mc : Nat) (ms : List Bool) (hM : ReadsB w ma mn ms) (sa : Option Addr) (n c : Nat) (fs : List Fc) (hF : ReadsF w sa n fs) (hn : n ≤ 9223372036854775807) :
  Calls Try.prog 10 #[.agg #[.int .i64 B, .int .i64 P, .int .i64 S, .slice ca cn cc, .slice ma mn mc], .slice sa n c] w fun e w' => LoadV w w' B P S cn mn zs ms fs e := by
 cases hf : Fits B P S with
 | false =>
  have e1 : LoadE B P S cn mn fs = 47 := by simp [LoadE, hf]
  refine (load_fit w B P S hf ca cn cc ma mn mc sa n c).mono ?_
  rintro e w' ⟨rfl, hb⟩
  exact ⟨fun _ => by rw [e1], fun h => by (rw [e1] at h; cases h), hb⟩
 | true =>
  have h0 := of_decide_eq_true hf
  obtain ⟨B', rfl⟩ : ∃ b : Nat, B = b := ⟨B.toNat, by omega⟩
  obtain ⟨P', rfl⟩ : ∃ b : Nat, P = b := ⟨P.toNat, by omega⟩
  obtain ⟨S', rfl⟩ : ∃ b : Nat, S = b := ⟨S.toNat, by omega⟩
  by_cases h1 : cn = B' * P' * pgB S'
  ·by_cases h2 : mn = B'
   ·cases hs : faultsB fs with
    | false =>
     have e1 : LoadE B' P' S' cn mn fs = 48 := by simp only [LoadE, hf, hs, Int.toNat_natCast, h1, h2]; simp
     refine (load_flt w B' P' S' hf ca cn cc ma mn mc sa n c h1 h2 fs hF hn hs).mono ?_
     rintro e w' ⟨rfl, hb'⟩
     exact ⟨fun _ => by rw [e1], fun h => by (rw [e1] at h; cases h), hb'⟩
    | true =>
     have e1 : LoadE B' P' S' cn mn fs = 0 := by simp only [LoadE, hf, hs, Int.toNat_natCast, h1, h2]; simp
     refine (load_ok w B' P' S' hf ca cn cc ma mn mc sa n c h1 hcc h2 zs hZ ms hM fs hF hn hs).mono ?_
     rintro e w' ⟨p, rfl, hc, hb'⟩
     exact ⟨fun h => absurd e1 h, fun _ => ⟨p, rfl, hc⟩, hb'⟩
   ·have e1 : LoadE B' P' S' cn mn fs = 47 := by simp only [LoadE, hf, Int.toNat_natCast, h1]; simp [h2]
    refine (load_marks w B' P' S' hf ca cn cc ma mn mc sa n c h1 h2).mono ?_
    rintro e w' ⟨rfl, hb'⟩
    exact ⟨fun _ => by rw [e1], fun h => by (rw [e1] at h; cases h), hb'⟩
  ·have e1 : LoadE B' P' S' cn mn fs = 47 := by simp only [LoadE, hf, Int.toNat_natCast]; simp [h1]
   refine (load_cells w B' P' S' hf ca cn cc ma mn mc sa n c h1).mono ?_
   rintro e w' ⟨rfl, hb'⟩
   exact ⟨fun _ => by rw [e1], fun h => by (rw [e1] at h; cases h), hb'⟩
theorem loadC_ok (B P S : Nat) (zs : List Int) (ms : List Bool) (q : List Ft) (hf : Fits B P S = true) : (loadC B P S zs ms q).Ok := by
 refine ⟨hf, ?_, ?_, Nat.le_refl _, fun _ _ z hz => by cases hz⟩
 ·simp [loadC, ldL, emptyC]
 ·intro b hb
  simp only [loadC, ldL, List.mem_map] at hb
  obtain ⟨i, _, rfl⟩ := hb
  simp [ldB, loadC, emptyC]
section
variable {P : Program} {md : Region.Mode} {ops : Array Oper} {Q : Exit → Act → World → Prop} {S : World → Prop} {fuel : Nat} {listed : Array Bool} {a a' : Act} {w : World}
theorem rn1 (i : Nat) (hi : ∀ K' : Act → World → Prop, Shut (∀ a w, S w → (S w → wpAnyH P md ops Q S fuel (listed.setIfInBounds i true) a w) → K' a w) → Oper.wp P oi a w K' Q) (pi : ops[i]? = some oi := by (simp only [List.getElem?_toArray, List.getElem?_cons_zero, List.getElem?_cons_succ]; exact rfl)) (gi : Region.wanted oi (yielded ops a.tmps) = true := by rfl) (hr : Region.ready md ops listed = [i] := by kernel_rfl) : wpAnyH P md ops Q S (fuel + 1) listed a w :=
 wpAnyH_ready hr (by simp) (AllReadyH.cons pi (fun K N => (if_pos gi).symm ▸ hi K N) AllReadyH.nil)
theorem rn2 (i j : Nat) (hi : ∀ K' : Act → World → Prop, Shut (∀ a w, S w → (S w → wpAnyH P md ops Q S fuel (listed.setIfInBounds i true) a w) → K' a w) → Oper.wp P oi a w K' Q) (hj : ∀ K' : Act → World → Prop, Shut (∀ a w, S w → (S w → wpAnyH P md ops Q S fuel (listed.setIfInBounds j true) a w) → K' a w) → Oper.wp P oj a w K' Q) (pi : ops[i]? = some oi := by (simp only [List.getElem?_toArray, List.getElem?_cons_zero, List.getElem?_cons_succ]; exact rfl)) (gi : Region.wanted oi (yielded ops a.tmps) = true := by rfl) (pj : ops[j]? = some oj := by (simp only [List.getElem?_toArray, List.getElem?_cons_zero, List.getElem?_cons_succ]; exact rfl)) (gj : Region.wanted oj (yielded ops a.tmps) = true := by rfl) (hr : Region.ready md ops listed = [i, j] := by kernel_rfl) : wpAnyH P md ops Q S (fuel + 1) listed a w :=
 wpAnyH_ready hr (by simp) (AllReadyH.cons pi (fun K N => (if_pos gi).symm ▸ hi K N) (AllReadyH.cons pj (fun K N => (if_pos gj).symm ▸ hj K N) AllReadyH.nil))
theorem rn3 {ok : Oper} (i j k : Nat) (hi : ∀ K' : Act → World → Prop, Shut (∀ a w, S w → (S w → wpAnyH P md ops Q S fuel (listed.setIfInBounds i true) a w) → K' a w) → Oper.wp P oi a w K' Q) (hj : ∀ K' : Act → World → Prop, Shut (∀ a w, S w → (S w → wpAnyH P md ops Q S fuel (listed.setIfInBounds j true) a w) → K' a w) → Oper.wp P oj a w K' Q) (hk : ∀ K' : Act → World → Prop, Shut (∀ a w, S w → (S w → wpAnyH P md ops Q S fuel (listed.setIfInBounds k true) a w) → K' a w) → Oper.wp P ok a w K' Q) (pi : ops[i]? = some oi := by (simp only [List.getElem?_toArray, List.getElem?_cons_zero, List.getElem?_cons_succ]; exact rfl)) (gi : Region.wanted oi (yielded ops a.tmps) = true := by rfl) (pj : ops[j]? = some oj := by (simp only [List.getElem?_toArray, List.getElem?_cons_zero, List.getElem?_cons_succ]; exact rfl)) (gj : Region.wanted oj (yielded ops a.tmps) = true := by rfl) (pk : ops[k]? = some ok := by (simp only [List.getElem?_toArray, List.getElem?_cons_zero, List.getElem?_cons_succ]; exact rfl)) (gk : Region.wanted ok (yielded ops a.tmps) = true := by rfl) (hr : Region.ready md ops listed = [i, j, k] := by kernel_rfl) : wpAnyH P md ops Q S (fuel + 1) listed a w :=
 wpAnyH_ready hr (by simp) (AllReadyH.cons pi (fun K N => (if_pos gi).symm ▸ hi K N) (AllReadyH.cons pj (fun K N => (if_pos gj).symm ▸ hj K N) (AllReadyH.cons pk (fun K N => (if_pos gk).symm ▸ hk K N) AllReadyH.nil)))
theorem rn4 {ok ol : Oper} (i j k l : Nat) (hi : ∀ K' : Act → World → Prop, Shut (∀ a w, S w → (S w → wpAnyH P md ops Q S fuel (listed.setIfInBounds i true) a w) → K' a w) → Oper.wp P oi a w K' Q) (hj : ∀ K' : Act → World → Prop, Shut (∀ a w, S w → (S w → wpAnyH P md ops Q S fuel (listed.setIfInBounds j true) a w) → K' a w) → Oper.wp P oj a w K' Q) (hk : ∀ K' : Act → World → Prop, Shut (∀ a w, S w → (S w → wpAnyH P md ops Q S fuel (listed.setIfInBounds k true) a w) → K' a w) → Oper.wp P ok a w K' Q) (hl : ∀ K' : Act → World → Prop, Shut (∀ a w, S w → (S w → wpAnyH P md ops Q S fuel (listed.setIfInBounds l true) a w) → K' a w) → Oper.wp P ol a w K' Q) (pi : ops[i]? = some oi := by (simp only [List.getElem?_toArray, List.getElem?_cons_zero, List.getElem?_cons_succ]; exact rfl)) (gi : Region.wanted oi (yielded ops a.tmps) = true := by rfl) (pj : ops[j]? = some oj := by (simp only [List.getElem?_toArray, List.getElem?_cons_zero, List.getElem?_cons_succ]; exact rfl)) (gj : Region.wanted oj (yielded ops a.tmps) = true := by rfl) (pk : ops[k]? = some ok := by (simp only [List.getElem?_toArray, List.getElem?_cons_zero, List.getElem?_cons_succ]; exact rfl)) (gk : Region.wanted ok (yielded ops a.tmps) = true := by rfl) (pl : ops[l]? = some ol := by (simp only [List.getElem?_toArray, List.getElem?_cons_zero, List.getElem?_cons_succ]; exact rfl)) (gl : Region.wanted ol (yielded ops a.tmps) = true := by rfl) (hr : Region.ready md ops listed = [i, j, k, l] := by kernel_rfl) : wpAnyH P md ops Q S (fuel + 1) listed a w :=
 wpAnyH_ready hr (by simp) (AllReadyH.cons pi (fun K N => (if_pos gi).symm ▸ hi K N) (AllReadyH.cons pj (fun K N => (if_pos gj).symm ▸ hj K N) (AllReadyH.cons pk (fun K N => (if_pos gk).symm ▸ hk K N) (AllReadyH.cons pl (fun K N => (if_pos gl).symm ▸ hl K N) AllReadyH.nil))))
end
end Go.Proofs.Ytadlkikjfonkgaa
