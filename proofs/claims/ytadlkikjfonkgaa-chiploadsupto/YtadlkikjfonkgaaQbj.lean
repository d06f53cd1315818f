/-
  SEAT Ytadlkikjfonkgaa: Xt.
-/
import Derived.Deep.DeepMust
import Derived.Test.YtadlkikjfonkgaaQa
import Derived.Test.YtadlkikjfonkgaaQbi
import Derived.Test.YtadlkikjfonkgaaQbe
import Derived.Test.YtadlkikjfonkgaaQq
namespace Go.Proofs.Ytadlkikjfonkgaa
open Go.RowKit Go.Conc
set_option linter.unusedVariables false
set_option maxRecDepth 100000
set_option maxHeartbeats 4000000
variable {w u : World} {B g n : Nat} {xs : List Fc} {zs : List Int} {a : Option Addr}
theorem own_front4 {e size m cap : Nat} {xs ys : List Value} (h : w.ownsRow B e size (.slice (some ⟨g, 0, none⟩) (n + m) cap) (n + m) (xs ++ ys)) (hx : xs.length = n * size) : w.ownsRow B e size (.slice (some ⟨g, 0, none⟩) n cap) n xs := by
 refine ⟨hx, ?_⟩
 rcases h.2 with ⟨h0, _⟩ | ⟨g', cap', cur, hv, hB, hg, hnc, hcm, hcs, htk⟩
 ·cases h0
 ·cases hv
  refine Or.inr ⟨g, cap, cur, rfl, hB, hg, by omega, hcm, hcs, ?_⟩
  have h1 : cur.toList.take (n * size) = (cur.toList.take ((n + m) * size)).take (n * size) := by rw [List.take_take, Nat.min_eq_left (Nat.mul_le_mul_right _ (by omega))]
  rw [h1, htk, List.take_left' hx]
theorem front48 (u : World) (g l n c : Nat) (hc : n ≤ c) : (Instr.sliceAt 48 (.slice (some ⟨g, 0, none⟩) l c) none (some (.int .i64 (n : Int))) none).run Try.prog u = .ok (.slice (some ⟨g, 0, none⟩) n c) u := by
 have h1 : (n : Int) ≤ c := by omega
 have h3 : (0 : Int) ≤ n := by omega
 simp [go_sem]
 omega
theorem made3 (w : World) : (w.alloc (.cells #[] 3)).ownsRow w.heap.size 3 1 (.slice (some ⟨w.heap.size, 0, none⟩) 0 0) 0 [] := World.ownsRow_made w #[] 0 (Nat.le_refl _) (by simp [maxLen]) rfl
theorem intsI_one (zs : List Int) : ∀ u ∈ zs.map (Value.int .i64), u.oneCell' = true := fun u hu => by
 obtain ⟨z, _, rfl⟩ := List.mem_map.1 hu
 rfl
theorem ReadsI.news {x : Addr} {len : Nat} (h : ReadsI w (some x) len zs) : ∀ j u, (zs.map (Value.int .i64))[j]? = some u → w.cell? (x.add j) = some u := fun j u hj => by
 have hl := h.1
 have hjl : j < zs.length := by have := (List.getElem?_eq_some_iff.1 hj).1; simpa using this
 rw [h.2.2.2 x rfl j (by omega)]
 rw [List.getElem?_map, List.getElem?_eq_getElem hjl] at hj
 rw [List.getD_eq_getElem?_getD, List.getElem?_eq_getElem hjl]
 exact hj
theorem intsL_any (w : World) (a : Option Addr) (n cp : Nat) (zs : List Int) (h : ReadsI w a n zs) (hn : n ≤ 17000000000000) :
  Calls Try.prog 63 #[.slice a n cp] w fun e w' => ∃ g c, e = .returned (.slice (some ⟨g, 0, none⟩) n c) ∧ w'.ownsRow w.heap.size 3 1 (.slice (some ⟨g, 0, none⟩) (n + 1) c) (n + 1) (zs.map (Value.int .i64) ++ [.int .i64 (-71)]) ∧ Below w.heap.size w w' := by
 obtain ⟨i0, hI, hz0, hz1, hz2⟩ := info_parts info3
 have hl := h.1
 have hm := made3 w
 have HM := J hm
 cases a with
 | none =>
  have hl0 : n = 0 := h.2.2.1 rfl
  subst hl0
  have hz : zs = [] := List.eq_nil_of_length_eq_zero hl
  subst hz
  have HNW := J (alloc_new (w.alloc (.cells #[] 3)) (.cells #[.int .i64 (-71)] 3))
  rw [alloc_size] at HNW
  have HB := J (below_trans (below_alloc w (.cells #[] 3)) (below_alloc _ (.cells #[.int .i64 (-71)] 3)))
  clear h hm hl
  go_enter Try.func63, Try.ntmps63
  go_wp2_with (at_builtin; refine wpList_append_lies _ rfl (.tmp 5) (.tmp 6) 48 rfl w.heap.size 3 i0 (.int .i64 0) 1 8 Try.underlying48 hI hz0 hz1 hz2 rfl (by decide) _ 0 [] rfl (owns_bel HM.out (below_alloc _ _)) ⟨w.heap.size + 1, 0, none⟩ 1 1 [.int .i64 (-71)] rfl rfl (news1 HNW.out) (by intro u hu; simp at hu; rw [hu]; rfl) (by decide) (by simp [maxLen]) (by omega) HB.out.size _ rfl ?_; intro g c Y own grow _ _; have HO := J own; have HG := J grow; have hfr := front48 Y g 1 0 c (by omega); clear own grow)
  go_ret
  exact ⟨g, c, rfl, HO.out, HB.out.grown HG.out HB.out.size (fun k hk => by cases hk; exact Nat.le_refl _)⟩
 | some x =>
  have HNS : Hid (∀ j u, (zs.map (Value.int .i64))[j]? = some u → (w.alloc (.cells #[] 3)).cell? (x.add j) = some u) := fun j u hj => by
   have h1 := h.news j u hj
   exact ((below_alloc w (.cells #[] 3)).cell (block_lt_of_cell h1)).trans h1
  have HB1 := J (below_alloc w (.cells #[] 3))
  clear h hm
  go_enter Try.func63, Try.ntmps63
  go_wp2_with (first
   | (at_builtin; refine wpList_append_own _ rfl (.tmp 3) (.tmp 4) 48 rfl w.heap.size 3 i0 (.int .i64 0) 1 8 Try.underlying48 hI hz0 hz1 hz2 rfl (by decide) _ 0 [] rfl HM.out x n cp (zs.map (Value.int .i64)) rfl (by simp [hl]) HNS.out (intsI_one _) (by simp [maxLen]; omega) (by omega) HB1.out.size ?_; intro v1 w1 own1 grow1 hv1; have HO1 := J own1; have HB2 := J (HB1.out.grown grow1 HB1.out.size (fun k hk => by cases hk; exact Nat.le_refl _)); have HN1 := J (alloc_new w1 (.cells #[.int .i64 (-71)] 3)); clear own1 grow1 hv1)
   | (at_builtin; refine wpList_append_lies _ rfl (.tmp 5) (.tmp 6) 48 rfl w.heap.size 3 i0 (.int .i64 0) 1 8 Try.underlying48 hI hz0 hz1 hz2 rfl (by decide) v1 n (zs.map (Value.int .i64)) rfl (by have h9 := owns_bel HO1.out (below_alloc w1 (.cells #[.int .i64 (-71)] 3)); simpa using h9) ⟨w1.heap.size, 0, none⟩ 1 1 [.int .i64 (-71)] rfl rfl (news1 HN1.out) (by intro u hu; simp at hu; rw [hu]; rfl) (by decide) (by simp [maxLen]; omega) (by omega) (below_trans HB2.out (below_alloc _ _)).size _ rfl ?_; intro g c Y own grow _ _; have HO := J own; have HG := J grow; have hfr := front48 Y g (n + 1) n c (by have := own_capG own; omega); clear own grow))
  go_ret
  refine ⟨g, c, rfl, HO.out, (below_trans HB2.out (below_alloc _ _)).grown HG.out (below_trans HB2.out (below_alloc _ _)).size (fun k hk => ?_)⟩
  exact (HO1.out.lt k hk).1
def BothAt (w0 u : World) (b : Nat) (F : Nat → Prop) (C : Ch) (fs : List Fc) : Prop :=
 ∃ p d Fp Fd, u.heap[b]? = some (.cells #[.pointer (some ⟨p, 0, none⟩), .pointer (some ⟨d, 0, none⟩)] 88 (0, 0)) ∧ ChipAt u p Fp C ∧ RefAt w0 u d Fd C fs ∧ (∀ k, Fp k → F k ∧ ¬ Fd k ∧ k ≠ b) ∧ (∀ k, Fd k → F k ∧ k ≠ b) ∧ F b ∧ ∀ k, F k → w0.heap.size ≤ k ∧ k < u.heap.size
structure MadeV (w0 w w' : World) (B P S : Int) (bad : List Int) (fs : List Fc) (e : Ending) : Prop where
 no : NewE B P S bad fs ≠ 0 → e = .returned (.tuple #[.pointer none, .bool true])
 yes : NewE B P S bad fs = 0 → ∃ b, e = .returned (.tuple #[.pointer (some ⟨b, 0, none⟩), .bool true]) ∧ BothAt w0 w' b (Nws w w') (newC B.toNat P.toNat S.toNat bad (fs.map Fc.t)) fs
 bel : Below w.heap.size w w'
theorem ReadsF.belowB {w' : World} {len : Nat} {fs : List Fc} (h : ReadsF w a len fs) (hb : Below w.heap.size w w') : ReadsF w' a len fs := h.below hb
theorem readsI_row {c : Nat} (h : u.ownsRow B 3 1 (.slice (some ⟨g, 0, none⟩) (n + 1) c) (n + 1) (zs.map (Value.int .i64) ++ [.int .i64 (-71)])) (hr : ReadsI w a n zs) : ReadsI u (some ⟨g, 0, none⟩) n zs := by
 have hl := hr.1
 refine ⟨hl, hr.2.1, (fun e => by cases e), fun x hx i hi => ?_⟩
 cases hx
 rw [plain_add, Nat.zero_add, World.ownsRow.cellAt h i (by omega), List.getElem?_append_left (by rw [List.length_map]; omega), List.getElem?_map, List.getD_eq_getElem?_getD, List.getElem?_eq_getElem (by omega)]
 rfl
theorem HXLx {fs : List Fc} (h : Cpy w u fs xs) (hl : fs.length = n) : (xs.flatMap Fc.row).length = n * 4 := by rw [flat_len Fc.row 4 Fc.row_len, h.len, hl]
theorem fmb_t : ∀ {fs xs : List Fc} (l : Int), xs.map Fc.t = fs.map Fc.t → fmb l xs = fmb l fs
 | [], [], _, _ => rfl
 | [], _ :: _, _, h => by cases h
 | _ :: _, [], _, h => by cases h
 | c :: r, d :: s, l, h => by
  injection h with h1 h2
  have ha : d.a = c.a := congrArg Ft.a h1
  have hk : d.k = c.k := congrArg Ft.k h1
  unfold fmb
  rw [ha, hk, fmb_t c.a h2]
theorem newE_eq {fs : List Fc} {B P S : Int} {bad : List Int} (h : Cpy w u fs xs) : NewE B P S bad xs = NewE B P S bad fs := by
 unfold NewE faultsB
 rw [h.len, fmb_t (-1) h.t]
theorem made_any (w0 w : World) (B P S : Int) (ba : Option Addr) (bn bc : Nat) (bad : List Int) (hR : ReadsI w ba bn bad) (hbn : bn ≤ 17000000000000) (sa : Option Addr) (n cp : Nat) (fs : List Fc) (hF : ReadsF w0 sa n fs) (hb0 : Below w0.heap.size w0 w) (hn : n ≤ 2900000000000) :
  Calls Try.prog 33 #[.agg #[.int .i64 B, .int .i64 P, .int .i64 S], .slice ba bn bc, .slice sa n cp] w fun e w' => MadeV w0 w w' B P S bad fs e := by
 have HBB := J (below_alloc w (.cells #[.int .i64 B, .int .i64 P, .int .i64 S] 23))
 have HX0 := J (alloc_new w (.cells #[.int .i64 B, .int .i64 P, .int .i64 S] 23))
 have HRI := J hR
 have HRF0 := J hF
 have HB0 := J hb0
 have HRF : Hid (ReadsF w sa n fs) := hF.belowB hb0
 have HXL : ∀ {w9 u9 : World} {xs : List Fc}, Cpy w9 u9 fs xs → (xs.flatMap Fc.row).length = n * 4 := fun h => HXLx h hF.1
 obtain ⟨zE, hzE⟩ : ∃ z, NewE B P S bad fs = z := ⟨_, rfl⟩
 clear hR hF hb0
 by_cases hz0 : zE = 0
 ·subst hz0
  have HEN := J hzE
  clear hzE
  go_enter Try.func33, Try.ntmps33
  go_upto_region 5 with (first
   | (go_at_call 63; refine (intsL_any _ ba bn bc bad (HRI.out.below HBB.out) hbn).mono ?_; rintro e u1 ⟨gi, ci, rfl, oi, b1⟩; have HOI := J oi; have HB1 := J b1; clear oi b1)
   | (go_at_call 37; refine (faultsL_any _ sa n cp fs (HRF.out.below (below_trans HBB.out HB1.out)) hn).mono ?_; rintro e u2 hv2; obtain ⟨gf, cf, xs, rfl, of, hcy⟩ := hv2.ex; have HOF := J of; have HCY := J hcy; have HB2 := J hv2.bel; have hx2 := ((below_trans HB1.out HB2.out).block _ (lt_of_block HX0.out)).trans HX0.out; have HX2 := J hx2; obtain ⟨x0, x1, x2⟩ := cells3 hx2; clear hv2 of hcy hx2)
   | (go_at_call 21; refine (New_any _ B P S (some ⟨gi, 0, none⟩) bn ci bad (readsI_row (owns_bel HOI.out HB2.out) HRI.out) (by omega) (some ⟨gf, 0, none⟩) n cf xs (readsF_own (own_front4 HOF.out (HXL HCY.out)) (HCY.out.fok (HRF.out.below (below_trans HBB.out HB1.out)).2.1)) (by omega)).mono ?_; rintro e u3 hv3; have hE3 : NewE B P S bad xs = NewE B P S bad fs := newE_eq HCY.out; obtain ⟨p, rfl, hch⟩ := hv3.yes (hE3.trans HEN.out); rw [HCY.out.t] at hch; have HCH := J hch; clear hch; have HB3 := J hv3.bel; have hx3 := (HB3.out.block _ (lt_of_block HX2.out)).trans HX2.out; clear x0 x1 x2; obtain ⟨x0, x1, x2⟩ := cells3 hx3; clear hv3 hE3 hx3)
   | (go_at_call 64; go_must (refine (rNew_any _ B P S ba bn bc bad (HRI.out.below (below_trans HBB.out (below_trans HB1.out (below_trans HB2.out HB3.out)))) (by omega) sa n cp fs (HRF.out.below (below_trans HBB.out (below_trans HB1.out (below_trans HB2.out HB3.out)))) (by omega)).mono ?_); go_must (rintro e u4 hv4); go_must (obtain ⟨d, rfl, xr, rsr, hra, hxa, hxn⟩ := hv4.yes HEN.out; have HRA := J (And.intro hra (And.intro hxa hxn)); clear hra hxa hxn); have HB4 := J hv4.bel; clear hv4))
  clear x0 x1 x2 HX2
  have HU5 := J (show Below u1.heap.size u1 u4 from below_trans HB2.out (below_trans HB3.out HB4.out))
  have HCY4 := J (HCY.out.below (below_trans HB3.out HB4.out))
  have HOF4 := J (owns_bel HOF.out (below_trans HB3.out HB4.out))
  have HFH : Hid (∀ (j : Nat) (c d : Fc), fs[j]? = some c → xs[j]? = some d → ∀ y, d.ma = some y → y.block < u2.heap.size) := fun j c d hc hd y hy => by
   obtain ⟨g9, k9, e9, ho9⟩ := HCY.out.ok j c d hc hd
   rw [e9] at hy
   cases hy
   exact ho9.lt.2
  have HGF : Hid (gf < u2.heap.size) := (HOF.out.lt gf rfl).2
  have hz1 : ((0 : Int) == 0) = true := by simp
  go_upto_region 6 with (first
   | (go_at_call 11; refine (no_any' _ _).mono ?_; rintro e u9 ⟨rfl, hu9⟩; subst u9)
   | (go_at_call 40; refine (unspoilt_any u1 _ u2.heap.size gf cf n sa cp fs xs (HRF.out.below (below_trans HBB.out HB1.out)) hn HU5.out HCY4.out HOF4.out HFH.out HGF.out).mono ?_; rintro e u5 ⟨rfl, ho5⟩; have HO5 := J ho5; clear ho5))
  have HOI5 : Hid (u5.ownsRow (w.alloc (.cells #[.int .i64 B, .int .i64 P, .int .i64 S] 23)).heap.size 3 1 (.slice (some ⟨gi, 0, none⟩) (bn + 1) ci) (bn + 1) (bad.map (Value.int .i64) ++ [.int .i64 (-71)])) := by
   refine owns_keep (owns_bel HOI.out HU5.out) (fun k hk => ?_)
   have hk1 := (HOI.out.lt k hk).2
   exact HO5.out.block k (Nat.lt_of_lt_of_le hk1 HU5.out.size) (fun e => by have h9 : u1.heap.size ≤ k := e.1; omega)
  have HGI : Hid ((w.alloc (.cells #[.int .i64 B, .int .i64 P, .int .i64 S] 23)).heap.size ≤ gi ∧ gi < u1.heap.size) := HOI.out.lt gi rfl
  have hci := own_capG HOI.out
  obtain ⟨n1, hn1⟩ : ∃ m, m = bn + 1 := ⟨_, rfl⟩
  have hw1 : wrap64 ((bn : Int) + 1) = (n1 : Int) := by unfold wrap64; omega
  have hw2 : (bn : Int) + 1 = (n1 : Int) := by omega
  have hfr := fun u : World => front48 u gi bn n1 ci (by omega)
  have nn1 : (bn : Int) < (n1 : Int) := by omega
  have hmk : u5.cell? ⟨gi, bn, none⟩ = some (.int .i64 (-71)) := by
   rw [World.ownsRow.cellAt HOI5.out bn (by omega), List.getElem?_append_right (by rw [List.length_map, HRI.out.1]; exact Nat.le_refl _), List.length_map, HRI.out.1, Nat.sub_self]
   rfl
  clear hn1 hci HOI HOF HCY HOF4 HCY4 HFH HGF
  go_upto_region 8 with fail
  clear hmk hfr nn1 hw1 hw2
  go_wp2
  go_loopw [14, 16] (fun s14 s16 wr => ∃ (i : Nat) (vals : List Value), i ≤ bn ∧ s16 = .int .i64 i ∧ s14 = .bool true ∧ Hid (Only (· = gi) u5 wr) ∧ Hid (wr.ownsRow (w.alloc (.cells #[.int .i64 B, .int .i64 P, .int .i64 S] 23)).heap.size 3 1 (.slice (some ⟨gi, 0, none⟩) (bn + 1) ci) (bn + 1) vals) ∧ Hid (∀ j z, i ≤ j → bad[j]? = some z → vals[j]? = some (.int .i64 z))) (fun _ s16 _ => bn - (intOf s16).toNat)
  case atStart => exact ⟨0, _, Nat.zero_le _, rfl, rfl, J (Only.refl _ _), HOI5, J (fun j z _ hz => by rw [List.getElem?_append_left (by rw [List.length_map]; exact (List.getElem?_eq_some_iff.1 hz).1), List.getElem?_map, hz]; rfl)⟩
  case round =>
   clear HOI5
   obtain ⟨i, vals, hi, rfl, rfl, HOr, HRr, HVr⟩ := hrel
   by_cases hlt : i < bn
   ·have d0 : decide ((i : Int) < (bn : Int)) = true := decide_eq_true (by omega)
    have d1 : (i : Int) < (bn : Int) := by omega
    obtain ⟨gb, ob, z, rfl, hz, hcz⟩ := HRI.out.at hlt
    have hgb : gb < w.heap.size := block_lt_of_cell hcz
    have hc5 : u5.cell? ⟨gb, ob + i, none⟩ = some (.int .i64 z) := HO5.out.cell (((below_trans HBB.out (below_trans HB1.out HU5.out)).cell (show (⟨gb, ob + i, none⟩ : Addr).block < w.heap.size from hgb)).trans hcz) (fun e => by have h9 : u1.heap.size ≤ gb := e.1; have := HB1.out.size; simp at this; omega)
    have hcr : wr.cell? ⟨gb, ob + i, none⟩ = some (.int .i64 z) := HOr.out.cell hc5 (fun e => by have h9 := HGI.out.1; simp at h9; omega)
    have hci2 : wr.cell? ⟨gi, i, none⟩ = some (.int .i64 z) := (World.ownsRow.cellAt HRr.out i (by omega)).trans (HVr.out i z (Nat.le_refl _) hz)
    have HQ := J (And.intro hci2 hcr)
    have HQI := J hci2
    obtain ⟨cg, hcg⟩ := own_tag HRr.out rfl
    have hfz : wr.drew.frozen? ⟨gi, i, none⟩ = false := frozen_of_row wr.drew gi i _ 3 hcg
    have hqd : wr.drew.cell? ⟨gi, i, none⟩ = some (.int .i64 z) := hci2
    have HVn : Hid (∀ j y, i + 1 ≤ j → bad[j]? = some y → (vals.set i (.int .i64 0))[j]? = some (.int .i64 y)) := fun j y hj hy => by rw [List.getElem?_set_ne (by omega)]; exact HVr.out j y (by omega) hy
    have HRn : Hid ((wr.drew.setCell ⟨gi, i, none⟩ (.int .i64 0)).ownsRow (w.alloc (.cells #[.int .i64 B, .int .i64 P, .int .i64 S] 23)).heap.size 3 1 (.slice (some ⟨gi, 0, none⟩) (bn + 1) ci) (bn + 1) (vals.set i (.int .i64 0))) := (World.ownsRow.stored (owns_bel HRr.out (drew_below wr)) i (.int .i64 0)).1
    have HOn : Hid (Only (· = gi) u5 (wr.drew.setCell ⟨gi, i, none⟩ (.int .i64 0))) := (HOr.out.trans' (Only.ofB (drew_below wr))).trans' (Only.setCell _ _ gi i _ rfl)
    clear hz hcz hgb hc5 hcr hcg hci2
    go_upto_region 11 with fail
    refine wp_region_held_drew (S := (fun u => u.cell? ⟨gi, i, none⟩ = some (.int .i64 z) ∧ u.cell? ⟨gb, ob + i, none⟩ = some (.int .i64 z))) (by kernel_rfl) (HQ.out) fun O => ?_
    refine tk 0 ?_
    refine tk 1 ?_
    refine tk 2 ?_
    refine tk 3 ?_
    refine tk 4 ?_
    refine tk 5 ?_
    refine tk 6 ?_
    refine tk 7 ?_
    refine tk 8 ?_
    refine tk 9 ?_
    refine tk 10 ?_
    refine tk 11 ?_
    refine tk 12 ?_
    refine td ?_
    clear O
    go_wp2
    go_roundw
    case rel => exact ⟨i + 1, _, by omega, by go_num, rfl, HOn, HRn, HVn⟩
    case measure => simp [intOf]; omega
   ·have d0 : decide ((i : Int) < (bn : Int)) = false := decide_eq_false (by omega)
    have HBW : Hid (Below w.heap.size w wr) := by
     have h1 : Below w.heap.size w u4 := below_trans HBB.out (below_trans HB1.out HU5.out)
     have h2 := h1.trans (HO5.out.below (B := w.heap.size) (fun j hj => by have h9 : u1.heap.size ≤ j := hj.1; have := (below_trans HBB.out HB1.out).size; omega) h1.size)
     exact h2.trans (HOr.out.below (B := w.heap.size) (fun j hj => by rw [hj]; have := HGI.out.1; simp at this; omega) h2.size)
    go_wp2
    go_ret2
    refine ⟨fun e => absurd HEN.out e, fun _ => ⟨wr.heap.size, rfl, ?_⟩, below_trans HBW.out (below_alloc _ _)⟩
    have hs12 : w.heap.size + 1 ≤ u1.heap.size := by have := HB1.out.size; simpa using this
    have hs2 := HB2.out.size
    have hs3 := HB3.out.size
    have hs4 := HB4.out.size
    have hs5 := HO5.out.size
    have hsr := HOr.out.size
    have hgi := HGI.out.2
    have hch : ChipAt (wr.alloc (.cells #[.pointer (some ⟨p, 0, none⟩), .pointer (some ⟨d, 0, none⟩)] 88)) p (fun k => u2.heap.size ≤ k ∧ k < u3.heap.size) (newC B.toNat P.toNat S.toNat bad (fs.map Fc.t)) := (((HCH.out.below HB4.out).only HO5.out (fun k hk e => by have h1 : u2.heap.size ≤ k := hk.1; have h2 : k < u2.heap.size := e.2; omega)).only HOr.out (fun k hk e => by have h1 : u2.heap.size ≤ k := hk.1; have h2 : k = gi := e; omega)).below (below_alloc _ _)
    have hrf : RefAt w0 (wr.alloc (.cells #[.pointer (some ⟨p, 0, none⟩), .pointer (some ⟨d, 0, none⟩)] 88)) d (Nws u3 u4) (newC B.toNat P.toNat S.toNat bad (fs.map Fc.t)) fs := by
     have h0 : RefAt w0 u4 d (Nws u3 u4) (newC B.toNat P.toNat S.toNat bad (fs.map Fc.t)) fs := ⟨xr, rsr, HRA.out.1.base (HB0.out.trans ((below_trans HBB.out (below_trans HB1.out (below_trans HB2.out HB3.out))).mono HB0.out.size)) (by rw [HRA.out.2.1, HRA.out.2.2]; exact HRF0.out)⟩
     have h1 := h0.only HO5.out (fun k hk e => by have h1 : u3.heap.size ≤ k := hk.1; have h2 : k < u2.heap.size := e.2; omega) (fun k hk => by have h1 : u1.heap.size ≤ k := hk.1; have := HB0.out.size; omega)
     have h2 := h1.only HOr.out (fun k hk e => by have h1 : u3.heap.size ≤ k := hk.1; have h2 : k = gi := e; omega) (fun k hk => by have h1 := HGI.out.1; have h2 : k = gi := hk; have := HB0.out.size; simp at h1; omega)
     exact h2.below (below_alloc _ _)
    refine ⟨p, d, _, _, alloc_new _ _, hch, hrf, fun k hk => ⟨⟨by have h1 : u2.heap.size ≤ k := hk.1; omega, by have h1 : k < u3.heap.size := hk.2; simp; omega⟩, (fun e => by have h1 : u3.heap.size ≤ k := e.1; have h2 : k < u3.heap.size := hk.2; omega), (fun e => by have h2 : k < u3.heap.size := hk.2; omega)⟩, fun k hk => ⟨⟨by have h1 : u3.heap.size ≤ k := hk.1; omega, by have h1 : k < u4.heap.size := hk.2; simp; omega⟩, (fun e => by have h2 : k < u4.heap.size := hk.2; omega)⟩, ⟨by omega, by simp⟩, fun k hk => ⟨Nat.le_trans HB0.out.size hk.1, hk.2⟩⟩
 ·have HEN := J hzE
  clear hzE
  go_enter Try.func33, Try.ntmps33
  go_upto_region 5 with (first
   | (go_at_call 63; refine (intsL_any _ ba bn bc bad (HRI.out.below HBB.out) hbn).mono ?_; rintro e u1 ⟨gi, ci, rfl, oi, b1⟩; have HOI := J oi; have HB1 := J b1; clear oi b1)
   | (go_at_call 37; refine (faultsL_any _ sa n cp fs (HRF.out.below (below_trans HBB.out HB1.out)) hn).mono ?_; rintro e u2 hv2; obtain ⟨gf, cf, xs, rfl, of, hcy⟩ := hv2.ex; have HOF := J of; have HCY := J hcy; have HB2 := J hv2.bel; have hx2 := ((below_trans HB1.out HB2.out).block _ (lt_of_block HX0.out)).trans HX0.out; have HX2 := J hx2; obtain ⟨x0, x1, x2⟩ := cells3 hx2; clear hv2 of hcy hx2)
   | (go_at_call 21; refine (New_any _ B P S (some ⟨gi, 0, none⟩) bn ci bad (readsI_row (owns_bel HOI.out HB2.out) HRI.out) (by omega) (some ⟨gf, 0, none⟩) n cf xs (readsF_own (own_front4 HOF.out (HXL HCY.out)) (HCY.out.fok (HRF.out.below (below_trans HBB.out HB1.out)).2.1)) (by omega)).mono ?_; rintro e u3 hv3; have hE3 : NewE B P S bad xs = NewE B P S bad fs := newE_eq HCY.out; obtain rfl := hv3.no (by rw [hE3, HEN.out]; exact hz0); rw [hE3, HEN.out]; have HB3 := J hv3.bel; have hx3 := (HB3.out.block _ (lt_of_block HX2.out)).trans HX2.out; clear x0 x1 x2; obtain ⟨x0, x1, x2⟩ := cells3 hx3; clear hv3 hE3 hx3)
   | (go_at_call 64; go_must (refine (rNew_any _ B P S ba bn bc bad (HRI.out.below (below_trans HBB.out (below_trans HB1.out (below_trans HB2.out HB3.out)))) (by omega) sa n cp fs (HRF.out.below (below_trans HBB.out (below_trans HB1.out (below_trans HB2.out HB3.out)))) (by omega)).mono ?_); go_must (rintro e u4 hv4); go_must (obtain rfl := hv4.no (by rw [HEN.out]; exact hz0); rw [HEN.out]); have HB4 := J hv4.bel; clear hv4))
  clear x0 x1 x2 HX2
  have HU5 := J (show Below u1.heap.size u1 u4 from below_trans HB2.out (below_trans HB3.out HB4.out))
  have HCY4 := J (HCY.out.below (below_trans HB3.out HB4.out))
  have HOF4 := J (owns_bel HOF.out (below_trans HB3.out HB4.out))
  have HFH : Hid (∀ (j : Nat) (c d : Fc), fs[j]? = some c → xs[j]? = some d → ∀ y, d.ma = some y → y.block < u2.heap.size) := fun j c d hc hd y hy => by
   obtain ⟨g9, k9, e9, ho9⟩ := HCY.out.ok j c d hc hd
   rw [e9] at hy
   cases hy
   exact ho9.lt.2
  have HGF : Hid (gf < u2.heap.size) := (HOF.out.lt gf rfl).2
  have hz1 : ((zE : Int) == zE) = true := by simp
  go_upto_region 6 with (first
   | (go_at_call 11; refine (no_any' _ _).mono ?_; rintro e u9 ⟨rfl, hu9⟩; subst u9)
   | (go_at_call 40; refine (unspoilt_any u1 _ u2.heap.size gf cf n sa cp fs xs (HRF.out.below (below_trans HBB.out HB1.out)) hn HU5.out HCY4.out HOF4.out HFH.out HGF.out).mono ?_; rintro e u5 ⟨rfl, ho5⟩; have HO5 := J ho5; clear ho5))
  have HOI5 : Hid (u5.ownsRow (w.alloc (.cells #[.int .i64 B, .int .i64 P, .int .i64 S] 23)).heap.size 3 1 (.slice (some ⟨gi, 0, none⟩) (bn + 1) ci) (bn + 1) (bad.map (Value.int .i64) ++ [.int .i64 (-71)])) := by
   refine owns_keep (owns_bel HOI.out HU5.out) (fun k hk => ?_)
   have hk1 := (HOI.out.lt k hk).2
   exact HO5.out.block k (Nat.lt_of_lt_of_le hk1 HU5.out.size) (fun e => by have h9 : u1.heap.size ≤ k := e.1; omega)
  have HGI : Hid ((w.alloc (.cells #[.int .i64 B, .int .i64 P, .int .i64 S] 23)).heap.size ≤ gi ∧ gi < u1.heap.size) := HOI.out.lt gi rfl
  have hci := own_capG HOI.out
  obtain ⟨n1, hn1⟩ : ∃ m, m = bn + 1 := ⟨_, rfl⟩
  have hw1 : wrap64 ((bn : Int) + 1) = (n1 : Int) := by unfold wrap64; omega
  have hw2 : (bn : Int) + 1 = (n1 : Int) := by omega
  have hfr := fun u : World => front48 u gi bn n1 ci (by omega)
  have nn1 : (bn : Int) < (n1 : Int) := by omega
  have hmk : u5.cell? ⟨gi, bn, none⟩ = some (.int .i64 (-71)) := by
   rw [World.ownsRow.cellAt HOI5.out bn (by omega), List.getElem?_append_right (by rw [List.length_map, HRI.out.1]; exact Nat.le_refl _), List.length_map, HRI.out.1, Nat.sub_self]
   rfl
  clear hn1 hci HOI HOF HCY HOF4 HCY4 HFH HGF
  go_upto_region 8 with fail
  clear hmk hfr nn1 hw1 hw2
  go_wp2
  go_loopw [14, 16] (fun s14 s16 wr => ∃ (i : Nat) (vals : List Value), i ≤ bn ∧ s16 = .int .i64 i ∧ s14 = .bool true ∧ Hid (Only (· = gi) u5 wr) ∧ Hid (wr.ownsRow (w.alloc (.cells #[.int .i64 B, .int .i64 P, .int .i64 S] 23)).heap.size 3 1 (.slice (some ⟨gi, 0, none⟩) (bn + 1) ci) (bn + 1) vals) ∧ Hid (∀ j z, i ≤ j → bad[j]? = some z → vals[j]? = some (.int .i64 z))) (fun _ s16 _ => bn - (intOf s16).toNat)
  case atStart => exact ⟨0, _, Nat.zero_le _, rfl, rfl, J (Only.refl _ _), HOI5, J (fun j z _ hz => by rw [List.getElem?_append_left (by rw [List.length_map]; exact (List.getElem?_eq_some_iff.1 hz).1), List.getElem?_map, hz]; rfl)⟩
  case round =>
   clear HOI5
   obtain ⟨i, vals, hi, rfl, rfl, HOr, HRr, HVr⟩ := hrel
   by_cases hlt : i < bn
   ·have d0 : decide ((i : Int) < (bn : Int)) = true := decide_eq_true (by omega)
    have d1 : (i : Int) < (bn : Int) := by omega
    obtain ⟨gb, ob, z, rfl, hz, hcz⟩ := HRI.out.at hlt
    have hgb : gb < w.heap.size := block_lt_of_cell hcz
    have hc5 : u5.cell? ⟨gb, ob + i, none⟩ = some (.int .i64 z) := HO5.out.cell (((below_trans HBB.out (below_trans HB1.out HU5.out)).cell (show (⟨gb, ob + i, none⟩ : Addr).block < w.heap.size from hgb)).trans hcz) (fun e => by have h9 : u1.heap.size ≤ gb := e.1; have := HB1.out.size; simp at this; omega)
    have hcr : wr.cell? ⟨gb, ob + i, none⟩ = some (.int .i64 z) := HOr.out.cell hc5 (fun e => by have h9 := HGI.out.1; simp at h9; omega)
    have hci2 : wr.cell? ⟨gi, i, none⟩ = some (.int .i64 z) := (World.ownsRow.cellAt HRr.out i (by omega)).trans (HVr.out i z (Nat.le_refl _) hz)
    have HQ := J (And.intro hci2 hcr)
    have HQI := J hci2
    obtain ⟨cg, hcg⟩ := own_tag HRr.out rfl
    have hfz : wr.drew.frozen? ⟨gi, i, none⟩ = false := frozen_of_row wr.drew gi i _ 3 hcg
    have hqd : wr.drew.cell? ⟨gi, i, none⟩ = some (.int .i64 z) := hci2
    have HVn : Hid (∀ j y, i + 1 ≤ j → bad[j]? = some y → (vals.set i (.int .i64 0))[j]? = some (.int .i64 y)) := fun j y hj hy => by rw [List.getElem?_set_ne (by omega)]; exact HVr.out j y (by omega) hy
    have HRn : Hid ((wr.drew.setCell ⟨gi, i, none⟩ (.int .i64 0)).ownsRow (w.alloc (.cells #[.int .i64 B, .int .i64 P, .int .i64 S] 23)).heap.size 3 1 (.slice (some ⟨gi, 0, none⟩) (bn + 1) ci) (bn + 1) (vals.set i (.int .i64 0))) := (World.ownsRow.stored (owns_bel HRr.out (drew_below wr)) i (.int .i64 0)).1
    have HOn : Hid (Only (· = gi) u5 (wr.drew.setCell ⟨gi, i, none⟩ (.int .i64 0))) := (HOr.out.trans' (Only.ofB (drew_below wr))).trans' (Only.setCell _ _ gi i _ rfl)
    clear hz hcz hgb hc5 hcr hcg hci2
    go_upto_region 11 with fail
    refine wp_region_held_drew (S := (fun u => u.cell? ⟨gi, i, none⟩ = some (.int .i64 z) ∧ u.cell? ⟨gb, ob + i, none⟩ = some (.int .i64 z))) (by kernel_rfl) (HQ.out) fun O => ?_
    refine tk 0 ?_
    refine tk 1 ?_
    refine tk 2 ?_
    refine tk 3 ?_
    refine tk 4 ?_
    refine tk 5 ?_
    refine tk 6 ?_
    refine tk 7 ?_
    refine tk 8 ?_
    refine tk 9 ?_
    refine tk 10 ?_
    refine tk 11 ?_
    refine tk 12 ?_
    refine td ?_
    clear O
    go_wp2
    go_roundw
    case rel => exact ⟨i + 1, _, by omega, by go_num, rfl, HOn, HRn, HVn⟩
    case measure => simp [intOf]; omega
   ·have d0 : decide ((i : Int) < (bn : Int)) = false := decide_eq_false (by omega)
    have HBW : Hid (Below w.heap.size w wr) := by
     have h1 : Below w.heap.size w u4 := below_trans HBB.out (below_trans HB1.out HU5.out)
     have h2 := h1.trans (HO5.out.below (B := w.heap.size) (fun j hj => by have h9 : u1.heap.size ≤ j := hj.1; have := (below_trans HBB.out HB1.out).size; omega) h1.size)
     exact h2.trans (HOr.out.below (B := w.heap.size) (fun j hj => by rw [hj]; have := HGI.out.1; simp at this; omega) h2.size)
    go_wp2
    go_ret2
    exact ⟨fun _ => rfl, fun e => absurd (HEN.out.symm.trans e) hz0, HBW.out⟩
end Go.Proofs.Ytadlkikjfonkgaa
