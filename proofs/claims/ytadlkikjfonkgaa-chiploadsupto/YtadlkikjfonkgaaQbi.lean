/-
  SEAT Ytadlkikjfonkgaa: Xs.
-/
import Derived.Test.YtadlkikjfonkgaaQa
import Derived.Test.YtadlkikjfonkgaaQbh
namespace Go.Proofs.Ytadlkikjfonkgaa
open Go.RowKit Go.Conc
set_option linter.unusedVariables false
set_option maxRecDepth 100000
set_option maxHeartbeats 4000000
variable {wb w u : World} {H g cp n i gi ki L : Nat} {xs : List Fc} {d c : Fc}
theorem drewN_below (w : World) (n : Nat) : Below w.heap.size w (w.drewN n) := ⟨rfl, rfl, rfl, Nat.le_refl _, fun _ _ => rfl⟩
structure UnS (wb w u : World) (H g cp n : Nat) (fs xs : List Fc) (i : Nat) : Prop where
 only : Only (fun j => wb.heap.size ≤ j ∧ j < H) w u
 row : ∃ vals, u.ownsRow wb.heap.size 58 4 (.slice (some ⟨g, 0, none⟩) (n + 1) cp) (n + 1) vals ∧ ∀ j d, i ≤ j → xs[j]? = some d → vals[j * 4]? = some (.int .i64 d.a) ∧ vals[j * 4 + 1]? = some (.int .i64 d.k) ∧ vals[j * 4 + 2]? = some (.slice d.ma d.ml d.mc) ∧ vals[j * 4 + 3]? = some (.int .u8 d.f)
 msk : ∀ (j : Nat) (c d : Fc), i ≤ j → fs[j]? = some c → xs[j]? = some d → ∃ gj kj, d = { c with ma := some ⟨gj, 0, none⟩, mc := kj } ∧ Own u wb.heap.size gj (c.ml + 3) kj (c.m ++ [161, 178, 195]) ∧ gj < H
theorem Cpy.un {fs : List Fc} (h : Cpy wb w fs xs) (hl : fs.length = n) (hrow : w.ownsRow wb.heap.size 58 4 (.slice (some ⟨g, 0, none⟩) (n + 1) cp) (n + 1) (xs.flatMap Fc.row ++ [.int .i64 (-77), .int .i64 0, .slice none 0 0, .int .u8 0])) (hH : ∀ (j : Nat) (c d : Fc), fs[j]? = some c → xs[j]? = some d → ∀ y, d.ma = some y → y.block < H) : UnS wb w w H g cp n fs xs 0 := by
 refine ⟨Only.refl _ _, ⟨_, hrow, fun j d _ hd => ?_⟩, fun j c d _ hc hd => ?_⟩
 ·have hjl := (List.getElem?_eq_some_iff.1 hd).1
  have hfl := flat_len Fc.row 4 Fc.row_len xs
  have e : ∀ t, t < 4 → (xs.flatMap Fc.row ++ [.int .i64 (-77), .int .i64 0, .slice none 0 0, .int .u8 0])[j * 4 + t]? = d.row[t]? := fun t ht => by
   rw [List.getElem?_append_left (by omega)]
   exact flat_get Fc.row 4 Fc.row_len t ht xs j d hd
  exact ⟨e 0 (by omega), e 1 (by omega), e 2 (by omega), e 3 (by omega)⟩
 ·obtain ⟨gj, kj, e, ho⟩ := h.ok j c d hc hd
  exact ⟨gj, kj, e, ho, hH j c d hc hd ⟨gj, 0, none⟩ (by rw [e])⟩
theorem UnS.keep {v : World} {fs : List Fc} (h : UnS wb w u H g cp n fs xs i) (hb : Below u.heap.size u v) : UnS wb w v H g cp n fs xs i := by
 obtain ⟨vals, h1, h2⟩ := h.row
 refine ⟨h.only.trans' (Only.ofB hb), ⟨vals, owns_bel h1 hb, h2⟩, fun j c d hj hc hd => ?_⟩
 obtain ⟨gj, kj, e, ho, hg⟩ := h.msk j c d hj hc hd
 exact ⟨gj, kj, e, owns_bel ho hb, hg⟩
structure UnM (wb w u : World) (H g cp n : Nat) (fs xs : List Fc) (i gi ki L : Nat) (c : Fc) : Prop where
 s : UnS wb w u H g cp n fs xs (i + 1)
 mr : ∃ zs, Own u wb.heap.size gi (L + 3) ki zs
 me : u.cell? ⟨g, i * 4, none⟩ = some (.int .i64 c.a) ∧ u.cell? ⟨g, i * 4 + 1, none⟩ = some (.int .i64 c.k) ∧ u.cell? ⟨g, i * 4 + 2, none⟩ = some (.slice (some ⟨gi, 0, none⟩) L ki) ∧ u.cell? ⟨g, i * 4 + 3, none⟩ = some (.int .u8 c.f)
theorem UnS.cells {fs : List Fc} (h : UnS wb w u H g cp n fs xs i) (hd : xs[i]? = some d) (hn : i < n) : u.cell? ⟨g, i * 4, none⟩ = some (.int .i64 d.a) ∧ u.cell? ⟨g, i * 4 + 1, none⟩ = some (.int .i64 d.k) ∧ u.cell? ⟨g, i * 4 + 2, none⟩ = some (.slice d.ma d.ml d.mc) ∧ u.cell? ⟨g, i * 4 + 3, none⟩ = some (.int .u8 d.f) := by
 obtain ⟨vals, h1, h2⟩ := h.row
 obtain ⟨k0, k1, k2, k3⟩ := h2 i d (Nat.le_refl _) hd
 exact ⟨(World.ownsRow.cellAt h1 _ (by omega)).trans k0, (World.ownsRow.cellAt h1 _ (by omega)).trans k1, (World.ownsRow.cellAt h1 _ (by omega)).trans k2, (World.ownsRow.cellAt h1 _ (by omega)).trans k3⟩
theorem UnS.later {fs : List Fc} (h : UnS wb w u H g cp n fs xs i) : UnS wb w u H g cp n fs xs (i + 1) := by
 obtain ⟨vals, h1, h2⟩ := h.row
 exact ⟨h.only, ⟨vals, h1, fun j d hj hd => h2 j d (by omega) hd⟩, fun j c d hj hc hd => h.msk j c d (by omega) hc hd⟩
theorem UnM.turn {fs : List Fc} (h : UnM wb w u H g cp n fs xs i gi ki L c) (hd : xs[i]? = some d) (hda : d.ma = some ⟨gi, 0, none⟩) (hfar : xs.Pairwise (fun c d => c.ma ≠ d.ma)) (hgi : gi < H) (j : Nat) (z : Int) : UnM wb w (u.setCell ⟨gi, j, none⟩ (.int .u8 z)) H g cp n fs xs i gi ki L c := by
 obtain ⟨vals, h1, h2⟩ := h.s.row
 obtain ⟨zs, hz⟩ := h.mr
 obtain ⟨cg, hcg⟩ := own_tag h1 rfl
 obtain ⟨ci, hci⟩ := own_tag hz rfl
 have hne : g ≠ gi := fun e => by rw [e, hci] at hcg; cases hcg
 have ho := Only.setCell (· = gi) u gi j (.int .u8 z) rfl
 have hst := Own.set hz j z
 obtain ⟨m0, m1, m2, m3⟩ := h.me
 refine ⟨⟨h.s.only.trans ho (fun a ha e => by rw [e]; exact ⟨hz.lt.1, hgi⟩), ⟨vals, owns_keep h1 (fun a ha => by cases ha; exact ho.block _ (lt_of_block hcg) hne), h2⟩, fun q a b hq ha hb => ?_⟩, ⟨_, hst.1⟩, ?_⟩
 ·obtain ⟨gj, kj, e, hj, hg⟩ := h.s.msk q a b hq ha hb
  refine ⟨gj, kj, e, ?_, hg⟩
  obtain ⟨cj, hcj⟩ := own_tag hj rfl
  refine owns_keep hj (fun a ha => ?_)
  cases ha
  refine ho.block _ (lt_of_block hcj) (fun e9 => ?_)
  have h8 := List.pairwise_iff_getElem.1 hfar i q (List.getElem?_eq_some_iff.1 hd).1 (List.getElem?_eq_some_iff.1 hb).1 (by omega)
  rw [(List.getElem?_eq_some_iff.1 hd).2, (List.getElem?_eq_some_iff.1 hb).2, hda, e] at h8
  have e8 : gj = gi := e9
  exact h8 (by rw [e8])
 ·exact ⟨ho.cell m0 hne, ho.cell m1 hne, ho.cell m2 hne, ho.cell m3 hne⟩
theorem UnM.over {fs : List Fc} (h : UnM wb w u H g cp n fs xs i gi ki L c) (hg : g < H) (v0 v1 v2 v3 : Value) : UnS wb w ((((u.setCell ⟨g, i * 4, none⟩ v0).setCell ⟨g, i * 4 + 1, none⟩ v1).setCell ⟨g, i * 4 + 2, none⟩ v2).setCell ⟨g, i * 4 + 3, none⟩ v3) H g cp n fs xs (i + 1) := by
 obtain ⟨vals, h1, h2⟩ := h.s.row
 obtain ⟨cg, hcg⟩ := own_tag h1 rfl
 have ho : Only (· = g) u ((((u.setCell ⟨g, i * 4, none⟩ v0).setCell ⟨g, i * 4 + 1, none⟩ v1).setCell ⟨g, i * 4 + 2, none⟩ v2).setCell ⟨g, i * 4 + 3, none⟩ v3) := (((Only.setCell (· = g) u g (i * 4) v0 rfl).trans' (Only.setCell _ _ g (i * 4 + 1) v1 rfl)).trans' (Only.setCell _ _ g (i * 4 + 2) v2 rfl)).trans' (Only.setCell _ _ g (i * 4 + 3) v3 rfl)
 have hB := (h1.lt g rfl).1
 refine ⟨h.s.only.trans ho (fun a ha e => by rw [e]; exact ⟨hB, hg⟩), ⟨_, (World.ownsRow.stored (World.ownsRow.stored (World.ownsRow.stored (World.ownsRow.stored h1 (i * 4) v0).1 (i * 4 + 1) v1).1 (i * 4 + 2) v2).1 (i * 4 + 3) v3).1, fun j d hj hd => ?_⟩, fun q a b hq ha hb => ?_⟩
 ·obtain ⟨k0, k1, k2, k3⟩ := h2 j d hj hd
  refine ⟨?_, ?_, ?_, ?_⟩
  all_goals rw [List.getElem?_set_ne (by omega), List.getElem?_set_ne (by omega), List.getElem?_set_ne (by omega), List.getElem?_set_ne (by omega)]; assumption
 ·obtain ⟨gj, kj, e, hj, hg9⟩ := h.s.msk q a b hq ha hb
  refine ⟨gj, kj, e, ?_, hg9⟩
  obtain ⟨cj, hcj⟩ := own_tag hj rfl
  exact owns_keep hj (fun a ha => by cases ha; exact ho.block _ (lt_of_block hcj) (fun e9 => by rw [e9, hcg] at hcj; cases hcj))
theorem UnM.drewB {v : World} {fs : List Fc} (h : UnM wb w u H g cp n fs xs i gi ki L c) (hb : Below u.heap.size u v) : UnM wb w v H g cp n fs xs i gi ki L c := by
 obtain ⟨zs, hz⟩ := h.mr
 obtain ⟨m0, m1, m2, m3⟩ := h.me
 exact ⟨h.s.keep hb, ⟨zs, owns_bel hz hb⟩, (hb.cell (block_lt_of_cell m0)).trans m0, (hb.cell (block_lt_of_cell m1)).trans m1, (hb.cell (block_lt_of_cell m2)).trans m2, (hb.cell (block_lt_of_cell m3)).trans m3⟩
theorem front58b (u : World) (g n c : Nat) (hc : n + 1 ≤ c) : (Instr.sliceAt 49 (.slice (some ⟨g, 0, none⟩) n c) none (some (.int .i64 ((n + 1 : Nat) : Int))) none).run Try.prog u = .ok (.slice (some ⟨g, 0, none⟩) (n + 1) c) u := by
 have h1 : ((n + 1 : Nat) : Int) ≤ c := by omega
 have h3 : (0 : Int) ≤ ((n + 1 : Nat) : Int) := by omega
 simp [go_sem]
 omega
theorem unspoilt_any (wb w : World) (H g cp n : Nat) (a : Option Addr) (ac : Nat) (fs xs : List Fc) (hF : ReadsF wb a n fs) (hn : n ≤ 2900000000000) (hb : Below wb.heap.size wb w) (hc : Cpy wb w fs xs) (hrow : w.ownsRow wb.heap.size 58 4 (.slice (some ⟨g, 0, none⟩) (n + 1) cp) (n + 1) (xs.flatMap Fc.row ++ [.int .i64 (-77), .int .i64 0, .slice none 0 0, .int .u8 0])) (hH : ∀ (j : Nat) (c d : Fc), fs[j]? = some c → xs[j]? = some d → ∀ y, d.ma = some y → y.block < H) (hg : g < H) :
  Calls Try.prog 40 #[.slice (some ⟨g, 0, none⟩) n cp, .slice a n ac] w fun e w' => e = .returned (.bool true) ∧ Only (fun j => wb.heap.size ≤ j ∧ j < H) w w' := by
 have HF := J hF
 have HL : Hid (fs.length = n) := hF.1
 have HB := J hb
 have HU0 := J (hc.un hF.1 hrow hH)
 have HXL : Hid (xs.length = n) := hc.len.trans hF.1
 have HFAR := J hc.far
 have HFOK := J hF.2.1
 have hcp := own_capG hrow
 have hfr := fun u : World => front58b u g n cp hcp
 obtain ⟨n1, hn1⟩ : ∃ m, m = n + 1 := ⟨_, rfl⟩
 have hw1 : wrap64 ((n : Int) + 1) = (n1 : Int) := by unfold wrap64; omega
 have hw2 : (n : Int) + 1 = (n1 : Int) := by omega
 rw [← hn1] at hfr
 have hmk : w.cell? ⟨g, n * 4, none⟩ = some (.int .i64 (-77)) := by
  rw [World.ownsRow.cellAt hrow (n * 4) (by omega)]
  have hfl := flat_len Fc.row 4 Fc.row_len xs
  rw [List.getElem?_append_right (by rw [hfl, HXL.out]; exact Nat.le_refl _), hfl, HXL.out, Nat.sub_self]
  rfl
 have nn1 : (n : Int) < (n1 : Int) := by omega
 clear hF hb hc hrow hH hn1
 go_enter Try.func40, Try.ntmps40
 go_upto_region 3 with fail
 clear hmk hfr nn1 hw1 hw2
 go_wp2
 go_loopw [6, 7, 8] (fun s6 s7 s8 wr => ∃ i : Nat, i ≤ n ∧ s7 = .int .i64 i ∧ s6 = .bool true ∧ Hid (UnS wb w wr H g cp n fs xs i)) (fun _ s7 _ _ => n - (intOf s7).toNat)
 case atStart => exact ⟨0, Nat.zero_le _, rfl, rfl, HU0⟩
 case round =>
  clear HU0
  obtain ⟨i, hi, rfl, rfl, HUr⟩ := hrel
  by_cases hlt : i < n
  ·have d0 : decide ((i : Int) < (n : Int)) = true := decide_eq_true (by omega)
   have d1 : (i : Int) < (n : Int) := by omega
   obtain ⟨gw, ow, c, rfl, hci, hok, k0, k1, k2, k3⟩ := HF.out.at hlt
   obtain ⟨d, hdi⟩ : ∃ d, xs[i]? = some d := ⟨_, List.getElem?_eq_getElem (by rw [HXL.out]; exact hlt)⟩
   obtain ⟨gi, ki, hde, hoi, hgH⟩ := HUr.out.msk i c d (Nat.le_refl _) hci hdi
   obtain ⟨q0, q1, q2, q3⟩ := HUr.out.cells hdi hlt
   rw [hde] at q0 q1 q2 q3
   have kw : ∀ {q : Nat} {v : Value}, wb.cell? ⟨gw, q, none⟩ = some v → wr.cell? ⟨gw, q, none⟩ = some v := fun {q} {v} hq => by
    have hlt9 : gw < wb.heap.size := block_lt_of_cell hq
    exact HUr.out.only.cell ((HB.out.cell (show (⟨gw, q, none⟩ : Addr).block < wb.heap.size from hlt9)).trans hq) (fun e => by have : wb.heap.size ≤ gw := e.1; omega)
   have HQ := J (And.intro (And.intro q0 (And.intro q1 (And.intro q3 q2))) (And.intro (kw k0) (And.intro (kw k1) (And.intro (kw k3) (kw k2)))))
   have HUM : Hid (UnM wb w wr H g cp n fs xs i gi ki c.ml c) := ⟨HUr.out.later, ⟨_, hoi⟩, ⟨q0, q1, q2, q3⟩⟩
   have HOI := J hoi
   have HRD : Hid (Reads wr c.ma c.ml c.m) := by
    refine reads_keep (hok.rd.below HB.out) (fun y hy h0 => HUr.out.only.block y.block ?_ (fun e => ?_))
    ·exact Nat.lt_of_lt_of_le (reads_low' hok.rd hy h0) HB.out.size
    ·have := reads_low' hok.rd hy h0
     have h9 : wb.heap.size ≤ y.block := e.1
     omega
   have hml : c.ml ≤ 140737488351232 := hok.le
   have HDI := J hdi
   have hdm : d.ma = some ⟨gi, 0, none⟩ := by rw [hde]
   have HDM := J hdm
   have HGH := J hgH
   clear hci hok k0 k1 k2 k3 hdi hde hoi q0 q1 q2 q3 HUr hdm hgH
   go_upto_region 6 with fail
   refine wp_region_held_drew (S := (fun u => (u.cell? ⟨g, i * 4, none⟩ = some (.int .i64 c.a) ∧ u.cell? ⟨g, i * 4 + 1, none⟩ = some (.int .i64 c.k) ∧ u.cell? ⟨g, i * 4 + 3, none⟩ = some (.int .u8 c.f) ∧ u.cell? ⟨g, i * 4 + 2, none⟩ = some (.slice (some ⟨gi, 0, none⟩) c.ml ki)) ∧ u.cell? ⟨gw, ow + i * 4, none⟩ = some (.int .i64 c.a) ∧ u.cell? ⟨gw, ow + i * 4 + 1, none⟩ = some (.int .i64 c.k) ∧ u.cell? ⟨gw, ow + i * 4 + 3, none⟩ = some (.int .u8 c.f) ∧ u.cell? ⟨gw, ow + i * 4 + 2, none⟩ = some (.slice c.ma c.ml c.mc))) (by kernel_rfl) (HQ.out) fun O => ?_
   refine tk 0 ?_
   refine tk 1 ?_
   refine tk 2 ?_
   refine tk 3 ?_
   refine tk 4 ?_
   refine tk 5 ?_
   refine tk 6 ?_
   refine tk 7 ?_
   refine tk 8 ?_
   refine tk 9 ?_
   refine tk 10 ?_
   refine tk 11 ?_
   refine rd 12 fun K N => ?_
   go_simp
   go_at_call 41
   refine (kept_any wb.heap.size gi c.ml ki c.ml c.mc c.ma c.m _ (by omega) (HRD.out.below (drew_below wr)) (owns_bel HOI.out (drew_below wr))).mono ?_
   rintro e u6 ⟨rfl, hk6⟩
   have HKK := J hk6
   have hb6 : Below wr.heap.size wr u6 := by obtain ⟨um, e6⟩ := hk6; rw [e6]; exact below_trans (drew_below wr) (drewN_below _ um)
   have hZ : (fun u => (u.cell? ⟨g, i * 4, none⟩ = some (.int .i64 c.a) ∧ u.cell? ⟨g, i * 4 + 1, none⟩ = some (.int .i64 c.k) ∧ u.cell? ⟨g, i * 4 + 3, none⟩ = some (.int .u8 c.f) ∧ u.cell? ⟨g, i * 4 + 2, none⟩ = some (.slice (some ⟨gi, 0, none⟩) c.ml ki)) ∧ u.cell? ⟨gw, ow + i * 4, none⟩ = some (.int .i64 c.a) ∧ u.cell? ⟨gw, ow + i * 4 + 1, none⟩ = some (.int .i64 c.k) ∧ u.cell? ⟨gw, ow + i * 4 + 3, none⟩ = some (.int .u8 c.f) ∧ u.cell? ⟨gw, ow + i * 4 + 2, none⟩ = some (.slice c.ma c.ml c.mc)) u6 := by obtain ⟨⟨p0, p1, p2, p3⟩, r0, r1, r2, r3⟩ := HQ.out; exact ⟨⟨(hb6.cell (block_lt_of_cell p0)).trans p0, (hb6.cell (block_lt_of_cell p1)).trans p1, (hb6.cell (block_lt_of_cell p2)).trans p2, (hb6.cell (block_lt_of_cell p3)).trans p3⟩, (hb6.cell (block_lt_of_cell r0)).trans r0, (hb6.cell (block_lt_of_cell r1)).trans r1, (hb6.cell (block_lt_of_cell r2)).trans r2, (hb6.cell (block_lt_of_cell r3)).trans r3⟩
   clear hk6 hb6
   go_wp2_with fail
   clear O
   refine N.out _ _ hZ fun O => ?_
   clear N K hZ
   try simp only [zz]
   refine tk 13 ?_
   refine tk 14 ?_
   refine tk 15 ?_
   refine tk 16 ?_
   refine tk 17 ?_
   refine tk 18 ?_
   refine tk 19 ?_
   refine tk 20 ?_
   refine tk 21 ?_
   refine tk 22 ?_
   refine tk 23 ?_
   refine tk 24 ?_
   refine tk 25 ?_
   refine tk 26 ?_
   refine tk 27 ?_
   refine tk 28 ?_
   refine tk 29 ?_
   refine tk 30 ?_
   refine tk 31 ?_
   refine tk 32 ?_
   refine tk 33 ?_
   refine tk 34 ?_
   refine tk 35 ?_
   refine tk 36 ?_
   refine tk 37 ?_
   refine tk 38 ?_
   refine tk 39 ?_
   refine tk 40 ?_
   refine tk 41 ?_
   refine tk 42 ?_
   refine tk 43 ?_
   refine tk 44 ?_
   refine tk 45 ?_
   refine tk 46 ?_
   refine tk 47 ?_
   refine tk 48 ?_
   refine tk 49 ?_
   refine tk 50 ?_
   refine tk 51 ?_
   refine tk 52 ?_
   refine tk 53 ?_
   refine td ?_
   clear O HQ
   obtain ⟨um, hum⟩ := HKK.out
   subst hum
   have HU6 : Hid (UnM wb w (wr.drew.drewN um) H g cp n fs xs i gi ki c.ml c) := UnM.drewB HUM.out (below_trans (drew_below wr) (drewN_below _ um))
   clear HUM HRD HOI
   generalize hV6 : wr.drew.drewN um = V6 at HU6 ⊢
   clear hV6
   go_wp2
   go_loopw [8] (fun s8 wr => ∃ k : Nat, k ≤ c.ml ∧ s8 = .int .i64 k ∧ Hid (UnM wb w wr H g cp n fs xs i gi ki c.ml c)) (fun s8 _ => c.ml - (intOf s8).toNat)
   case atStart => exact ⟨0, Nat.zero_le _, rfl, HU6⟩
   case round =>
    clear HU6
    obtain ⟨k, hk, rfl, HUk⟩ := hrel
    obtain ⟨q0, q1, q2, q3⟩ := HUk.out.me
    by_cases hkl : k < c.ml
    ·have f0 : decide ((k : Int) < (c.ml : Int)) = true := decide_eq_true (by omega)
     have f1 : (k : Int) < (c.ml : Int) := by omega
     go_upto_region 10 with fail
     obtain ⟨zs, hzs⟩ := HUk.out.mr
     have hzk : wr.drew.cell? ⟨gi, k, none⟩ = some (.int .u8 (zs.getD k 0)) := hzs.cell k (by omega)
     have hq2 : wr.drew.cell? ⟨g, i * 4 + 2, none⟩ = some (.slice (some ⟨gi, 0, none⟩) c.ml ki) := q2
     have hfz : wr.drew.frozen? ⟨gi, k, none⟩ = false := by obtain ⟨cs, hcs⟩ := own_tag hzs rfl; exact frozen_of_row wr.drew gi k _ 5 hcs
     obtain ⟨z, hz⟩ : ∃ z, z = zs.getD k 0 := ⟨_, rfl⟩
     rw [← hz] at hzk
     clear q0 q1 q2 q3 hzs hz
     refine wp_region_held_drew (S := (fun u => u.cell? ⟨g, i * 4 + 2, none⟩ = some (.slice (some ⟨gi, 0, none⟩) c.ml ki))) (by kernel_rfl) (hq2) fun O => ?_
     refine tk 0 ?_
     refine tk 1 ?_
     refine tk 2 ?_
     refine tk 3 ?_
     refine tk 4 ?_
     refine tk 5 ?_
     refine tk 6 ?_
     refine tk 7 ?_
     refine tk 8 ?_
     refine tk 9 ?_
     refine tk 10 ?_
     refine tk 11 ?_
     refine tk 12 ?_
     refine rd 13 fun K N => ?_
     go_simp
     go_wp2_with fail
     refine N.out _ _ O (fun hHeld13 => ?_)
     clear N K
     clear hHeld13
     try simp only [zz]
     refine tk 14 ?_
     refine tk 15 ?_
     refine rd 16 fun K N => ?_
     go_simp
     go_wp2_with fail
     clear hzk hfz
     have HUN := J ((UnM.drewB HUk.out (drew_below wr)).turn HDI.out HDM.out HFAR.out HGH.out k (bits .xor .u8 z 90))
     have hZ : (fun u => u.cell? ⟨g, i * 4 + 2, none⟩ = some (.slice (some ⟨gi, 0, none⟩) c.ml ki)) (wr.drew.setCell ⟨gi, k, none⟩ (.int .u8 (bits .xor .u8 z 90))) := HUN.out.me.2.2.1
     refine N.out _ _ hZ (fun hHeld16 => ?_)
     clear N K hZ O hHeld16 hq2
     try simp only [zz]
     refine td ?_
     go_wp2
     go_roundw
     case rel => exact ⟨k + 1, by omega, by go_num, HUN⟩
     case measure => simp [intOf]; omega
    ·have f0 : decide ((k : Int) < (c.ml : Int)) = false := decide_eq_false (by omega)
     obtain ⟨vals, hv1, _⟩ := HUk.out.s.row
     obtain ⟨cg, hcg⟩ := own_tag hv1 rfl
     have fz := fun j => frozen_of_row wr g j _ 58 hcg
     have HUO := J (HUk.out.over hg (.int .i64 (i : Int)) (.int .i64 2) (.slice none 0 0) (.int .u8 0))
     clear hv1 hcg
     go_wp2
     go_roundw
     case rel => exact ⟨i + 1, by omega, by go_num, rfl, HUO⟩
     case measure => simp [intOf]; omega
  ·have d0 : decide ((i : Int) < (n : Int)) = false := decide_eq_false (by omega)
   go_wp2
   go_ret
   exact ⟨rfl, HUr.out.only⟩
end Go.Proofs.Ytadlkikjfonkgaa
