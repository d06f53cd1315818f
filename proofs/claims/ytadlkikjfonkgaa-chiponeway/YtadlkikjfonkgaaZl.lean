/-
  SEAT Ytadlkikjfonkgaa: Of, Og.
-/
import Derived.Test.YtadlkikjfonkgaaZk
import Derived.Test.YtadlkikjfonkgaaZe
namespace Go.Proofs.Ytadlkikjfonkgaa
open Go.RowKit Go.Conc
set_option linter.unusedVariables false

theorem owns_base {w : World} {B B' e s n : Nat} {v : Value} {xs : List Value} (h : w.ownsRow B e s v n xs) (hb : B' ≤ B) : w.ownsRow B' e s v n xs :=
  ⟨h.1, h.2.imp id fun ⟨g, c, cur, h1, h2, h3⟩ => ⟨g, c, cur, h1, Nat.le_trans hb h2, h3⟩⟩
section
variable {w u u0 u' : World} {p b7 gf : Nat} {F : Nat → Prop} {C : Ch} {fs : List Bool} {v v2 : Value} {rs rs2 : List Rw}
theorem Cl.base (h : Cl u0 u v rs) (hb : w.heap.size ≤ u0.heap.size) : Cl w u v rs := ⟨owns_base h.own hb, fun r hr => owns_base (h.rows r hr) hb⟩
theorem Cl.shape (h : Cl w u v rs) (hl : rs.length = 32) : ∃ g c, v = .slice (some ⟨g, 0, none⟩) 32 c ∧ ∀ m r, rs[m]? = some r → u.cell? ⟨g, m, none⟩ = some r.val := by
  obtain ⟨g, c, hv⟩ : ∃ g c, v = .slice (some ⟨g, 0, none⟩) 32 c := by
    rcases h.own.2 with ⟨_, h0⟩ | ⟨g, cap, cur, hv, _⟩
    · omega
    · exact ⟨g, cap, by rw [hv, hl]⟩
  refine ⟨g, c, hv, fun m r hr => ?_⟩
  have h9 := h.own
  rw [hv, hl] at h9
  have hm : m < 32 := by have := (List.getElem?_eq_some_iff.1 hr).1; omega
  rw [World.ownsRow.cellAt h9 m (by omega), List.getElem?_map, hr]
  rfl
theorem om_next (h : HD w u p F [(gf, kobj fs), (b7, box8)] C) (hl : fs.length = 8) (hc : Cl u0 u v rs) (hw : w.heap.size ≤ u0.heap.size) (hf : ∀ k, F k → k < u0.heap.size) : OM w u p b7 gf F C fs v rs :=
  ⟨h, hl, hc.base hw, fun r hr hf9 => by have h1 := hf _ hf9; have h2 := (Own.lt (hc.rows r hr)).1; omega, fun g hg hf9 => by have h1 := hf _ hf9; have h2 := own_lo hc.own hg; omega⟩
theorem OM.next (h : OM w u p b7 gf F C fs v rs) (hc : Cl u u' v2 rs2) (hb : Below u.heap.size u u') : OM w u' p b7 gf F C fs v2 rs2 :=
  om_next (h.hd.below hb) h.fl hc h.hd.bel.size (fun k hk => h.hd.ch.fin k hk)
end
def f0row : Array Value := (List.replicate 8 (.bool false)).toArray
def fs0 : List Bool := List.replicate 8 false
theorem mk25c (w : World) : (Instr.makeSlice 25 (.int .i64 8) (.int .i64 8)).run Try.prog w = .ok (.slice (some ⟨w.heap.size, 0, none⟩) 8 8) (w.alloc (.cells f0row 4)) := by
  obtain ⟨i, hi, hz0, hz1, hb⟩ := info_parts info4
  have h := run_make (P := Try.prog) w 25 4 i _ Try.underlying25 hi hz0 .i64 .i64 (8 : Int) (8 : Int) (by omega) (by omega) (by rw [hb]; omega) (by omega)
  rw [hz1] at h
  rw [h]
  have e9 : madeCells #[Value.bool false] (8 * 1) = f0row := (made_eq [.bool false] 1 rfl (by omega) 8).trans rfl
  show Result.ok (Value.slice (some ⟨w.heap.size, 0, none⟩) 8 8) (w.alloc (.cells (madeCells #[Value.bool false] (8 * 1)) 4)) = _
  rw [e9]
theorem om_start {w u u' : World} {p b7 : Nat} {F : Nat → Prop} {C : Ch} {v : Value} {rs : List Rw} (h : HD w u p F [(b7, box8)] C) (hc : Cl u u' v rs) (hb : Below u.heap.size u u') : OM w (u'.alloc (.cells f0row 4)) p b7 u'.heap.size F C fs0 v rs := by
  have h1 := h.below hb
  have h2 := h1.below (below_alloc u' (.cells f0row 4))
  have h3 := h2.hold (g := u'.heap.size) (o := kobj fs0) ((alloc_new u' (.cells f0row 4)).trans (by rfl)) (fun hf => by have := h1.ch.fin _ hf; omega) h1.bel.size
  exact om_next h3 (by simp [fs0]) (hc.below (below_alloc u' (.cells f0row 4))) h.bel.size (fun k hk => h.ch.fin k hk)
/-- The row of flipped is that. -/
def TabF (fs : List Bool) (fp : Nat → Bool) : Prop := ∀ i, i < 8 → fs[i]? = some (fp i)
theorem tabF_new : TabF fs0 (fun _ => false) := fun i hi => by unfold fs0; rw [List.getElem?_replicate, if_pos hi]
theorem tabF_set {fs : List Bool} {fp fp' : Nat → Bool} {i : Nat} {b : Bool} (h : TabF fs fp) (hl : fs.length = 8) (hi : i < 8) (h1 : fp' i = b) (h2 : ∀ j, j ≠ i → fp' j = fp j) : TabF (fs.set i b) fp' := by
  intro j hj
  by_cases e : j = i
  · subst e; rw [List.getElem?_set_self (by omega), h1]
  · rw [List.getElem?_set_ne (fun h9 => e h9.symm), h2 j e]; exact h j hj
theorem tabF_four {fs : List Bool} {fp : Nat → Bool} {C : Ch} {o : Opc} {i : Nat} (h : TabF fs fp) (hl : fs.length = 8) (hi : i < 8) (h4 : o.k = 4) (h0 : (doesC C o).1 = 0) (e1 : o.b = i) : TabF (fs.set i true) (stepP C o fp) := by
  refine tabF_set h hl hi (if_pos ⟨h4, h0, e1.symm⟩) (fun j hj => ?_)
  unfold stepP
  rw [if_neg (fun h9 => hj (by omega)), if_neg (fun h9 => by rw [h4] at h9; exact absurd h9.1 (by decide))]
theorem tabF_two {fs : List Bool} {fp : Nat → Bool} {C : Ch} {o : Opc} {i : Nat} (h : TabF fs fp) (hl : fs.length = 8) (hi : i < 8) (h2 : o.k = 2) (ht : triedE (doesC C o).1 (doesC C o).2.dark = true) (e1 : o.b = i) : TabF (fs.set i false) (stepP C o fp) := by
  refine tabF_set h hl hi ((if_neg (fun h9 => by rw [h2] at h9; exact absurd h9.1 (by decide))).trans (if_pos ⟨h2, ht, e1.symm⟩)) (fun j hj => ?_)
  unfold stepP
  rw [if_neg (fun h9 => by rw [h2] at h9; exact absurd h9.1 (by decide)), if_neg (fun h9 => hj (by omega))]
theorem stepP_no {fp : Nat → Bool} {C : Ch} {o : Opc} (h4 : ¬ (o.k = 4 ∧ (doesC C o).1 = 0)) (h2 : ¬ (o.k = 2 ∧ triedE (doesC C o).1 (doesC C o).2.dark = true)) : stepP C o fp = fp := by
  funext i
  unfold stepP
  rw [if_neg (fun h9 => h4 ⟨h9.1, h9.2.1⟩), if_neg (fun h9 => h2 ⟨h9.1, h9.2.1⟩)]
theorem oneway_new (B P S : Nat) (bad : List Int) (q : List Ft) (hq : ∀ f ∈ q, f.k = 1 ∨ f.k = 2) : OInv (newC B P S bad q) (fun _ => false) := by
  refine ⟨hq, ?_, fun _ _ _ _ => rfl⟩
  have key : ∀ (bad : List Int) (l : List Bl), (∀ b ∈ l, ∀ g ∈ b.ps, g = ⟨List.replicate (pgB S) 255, false⟩) → ∀ b ∈ marks l bad, ∀ g ∈ b.ps, g = ⟨List.replicate (pgB S) 255, false⟩ := by
    intro bad
    induction bad with
    | nil => intro l h; exact h
    | cons z r ih =>
      intro l h
      refine ih (markAt l z.toNat) ?_
      unfold markAt
      split
      · rename_i b hb
        intro c hc
        rcases List.mem_or_eq_of_mem_set hc with h1 | h1
        · exact h c h1
        · rw [h1]; exact h b (List.mem_of_getElem? hb)
      · exact h
  intro i k b g hb hg hh
  have h9 := key bad _ (fun b hb g hg => by
    obtain ⟨b0, hb0, rfl⟩ := List.mem_map.1 hb
    rw [(List.mem_replicate.1 hb0).2] at hg
    exact (List.mem_replicate.1 hg).2) b (List.mem_of_getElem? hb) g (List.mem_of_getElem? hg)
  rw [h9] at hh
  rcases hh with h1 | h1
  · cases h1
  · exact absurd rfl h1
/-- What stands of the chip between two calls. -/
structure OFin (C : Ch) (fp : Nat → Bool) (n : Nat) : Prop where
  inv : OInv C fp
  dark : C.dark = false
  life : Life C n
  B : C.B = 8
  P : C.P = 4
  S : C.S = 1
theorem OFin.step {C : Ch} {fp : Nat → Bool} {n : Nat} (h : OFin C fp n) (hp : POk C) (o : Opc) (hbd : Byt o.d) (hbz : Byt o.z) : OFin { (doesC C o).2 with dark := false } (stepP C o fp) (n + 1) ∧ ∀ m : Nat, m < 32 → Goes o (triedE (doesC C o).1 (doesC C o).2.dark) ((m / 4 : Nat) : Int) ((m % 4 : Nat) : Int) (readL C (m / 4) (m % 4)) (readL (doesC C o).2 (m / 4) (m % 4)) (fp (m / 4)) := by
  have h1 := one_step h.inv hp h.life.ok h.dark hbd hbz
  have h2 := h.life.does o
  have h3 := does_geo C o
  exact ⟨⟨h1.1, rfl, ⟨On_ok _ h2.ok, h2.tr, h2.fl⟩, h3.1.trans h.B, h3.2.1.trans h.P, h3.2.2.trans h.S⟩, fun m hm => h1.2 (m / 4) (m % 4) (by rw [h.B]; omega) (by rw [h.P]; omega)⟩
theorem tbl_get {C : Ch} {rs : List Rw} (h : rs.map Rw.z = tbl C 32) {m : Nat} (hm : m < 32) : ∃ r, rs[m]? = some r ∧ r.z = readL C (m / 4) (m % 4) := by
  have h1 : (rs.map Rw.z)[m]? = some (readL C (m / 4) (m % 4)) := by
    rw [h]; unfold tbl
    rw [List.getElem?_map, List.getElem?_range hm]; rfl
  rw [List.getElem?_map] at h1
  obtain ⟨r, hr, e⟩ := Option.map_eq_some_iff.1 h1
  exact ⟨r, hr, e⟩
theorem tbl_len {C : Ch} {rs : List Rw} (h : rs.map Rw.z = tbl C 32) : rs.length = 32 := by
  have h9 := congrArg List.length h
  unfold tbl at h9
  simpa using h9
/-- All that a round of the inner loop reads. -/
theorem round_all {w U : World} {p b7 gf gv cv gn cn : Nat} {F : Nat → Prop} {C D : Ch} {fs : List Bool} {rs rs2 : List Rw} {fp : Nat → Bool} {o : Opc} {tr : Bool} (hM : OM w U p b7 gf F D fs (.slice (some ⟨gv, 0, none⟩) 32 cv) rs) (hN : OM w U p b7 gf F D fs (.slice (some ⟨gn, 0, none⟩) 32 cn) rs2) (hT : TabF fs fp) (hp : POk C) (hq : POk D) (h1 : rs.map Rw.z = tbl C 32) (h2 : rs2.map Rw.z = tbl D 32) (hG : ∀ m : Nat, m < 32 → Goes o tr ((m / 4 : Nat) : Int) ((m % 4 : Nat) : Int) (readL C (m / 4) (m % 4)) (readL D (m / 4) (m % 4)) (fp (m / 4))) (m : Nat) (hm : m < 32) :
    ∃ (r r2 : Rw) (fb : Bool), U.cell? ⟨gv, m, none⟩ = some r.val ∧ U.cell? ⟨gn, m, none⟩ = some r2.val ∧ U.cell? ⟨gf, m / 4, none⟩ = some (.bool fb) ∧ Reads U (some ⟨r.g, 0, none⟩) 313 r.z ∧ Reads U (some ⟨r2.g, 0, none⟩) 313 r2.z ∧ Goes o tr ((m / 4 : Nat) : Int) ((m % 4 : Nat) : Int) r.z r2.z fb := by
  obtain ⟨r, hr, er⟩ := tbl_get h1 hm
  obtain ⟨r2, hr2, er2⟩ := tbl_get h2 hm
  obtain ⟨g, c, hv, hc⟩ := hM.cl.shape (tbl_len h1)
  cases hv
  obtain ⟨g2, c2, hv2, hc2⟩ := hN.cl.shape (tbl_len h2)
  cases hv2
  refine ⟨r, r2, fp (m / 4), hc m r hr, hc2 m r2 hr2, kcell (hM.hd.blk (g := gf) (o := kobj fs) (by simp)) (hT (m / 4) (by omega)), reads_of (hM.cl.rows r (List.mem_of_getElem? hr)) (by rw [er]; exact readL_byt hp _ _), reads_of (hN.cl.rows r2 (List.mem_of_getElem? hr2)) (by rw [er2]; exact readL_byt hq _ _), ?_⟩
  rw [er, er2]
  exact hG m hm
theorem flip_place {C : Ch} {o : Opc} (h4 : o.k = 4) (h0 : (doesC C o).1 = 0) : ∃ i : Nat, o.b = i ∧ i < C.B := by
  have hdc : doesC C o = FlipC C o.b o.p o.bit := by unfold doesC; rw [if_neg (by rw [h4]; decide), if_neg (by rw [h4]; decide), if_neg (by rw [h4]; decide), if_pos h4]
  rw [hdc] at h0
  unfold FlipC at h0
  cases hpp : hasP C.B C.P o.b o.p with
  | false => rw [hpp] at h0; cases h0
  | true =>
    obtain ⟨i, k, e1, _, hi, _⟩ := hasP_nat hpp
    exact ⟨i, e1, hi⟩
theorem erase_place {C : Ch} (hok : C.Ok) (hd : C.dark = false) {o : Opc} (h2 : o.k = 2) (ht : triedE (doesC C o).1 (doesC C o).2.dark = true) : ∃ i : Nat, o.b = i ∧ i < C.B := by
  have hdc : doesC C o = EraseC C o.b := by unfold doesC; rw [if_neg (by rw [h2]; decide), if_pos h2]
  rcases erase_cases C hd o.b with ⟨e, he, h3, h4⟩ | ⟨i', b, e1, hb, he⟩
  · rw [hdc, tried_no (by rw [h3]; omega)] at ht; cases ht
  · have hi9 := (List.getElem?_eq_some_iff.1 hb).1
    rw [hok.bl] at hi9
    exact ⟨i', e1, hi9⟩
set_option maxHeartbeats 8000000 in
set_option maxRecDepth 100000 in
theorem oneway_no (w : World) (ba : Option Addr) (bn bc : Nat) (bad : List Int) (hR : ReadsI w ba bn bad) (hbn : bn ≤ 9223372036854775807) (sa : Option Addr) (n c : Nat) (fs : List Fc) (hF : ReadsF w sa n fs) (hn : n ≤ 9223372036854775807) (oa : Option Addr) (on oc : Nat) (xs : List Ox) (hO : ReadsO w oa on xs) (hon : on ≤ 1600000000000) (hne : NewE 8 4 1 bad fs ≠ 0) :
    Calls Try.prog 5 #[.slice ba bn bc, .slice sa n c, .slice oa on oc] w fun e w' => e = .returned (.bool true) ∧ Below w.heap.size w w' := by
  have HR := hide hR
  have HF := hide hF
  obtain ⟨ne, hnee⟩ : ∃ z, z = NewE 8 4 1 bad fs := ⟨_, rfl⟩
  have dne : (ne != 0) = true := by rw [hnee]; simpa using hne
  have HNE := hide hnee
  have HN0 := hide hne
  clear hR hF hO hnee hne
  go_enter Try.func5, Try.ntmps5
  go_wp2_with (first
    | (go_at_call 20; refine (lshape_any _).mono ?_; rintro e u1 ⟨rfl, b1⟩; have HB1 := hide (below_trans b1 (below_alloc u1 (.cells #[.int .i64 8, .int .i64 4, .int .i64 1] 23))); clear b1)
    | (go_at_call 21; refine (New_any _ 8 4 1 ba bn bc bad (HR.out.below HB1.out) hbn sa n c fs (HF.out.below HB1.out) hn).mono ?_; rintro e u2 hnew; have hv1 := hnew.no HN0.out; rw [← HNE.out] at hv1; subst hv1; have HB2 := hide (below_trans HB1.out hnew.bel); clear hnew)
    | (go_at_call 11; refine (no_any' ne _).mono ?_; rintro e v0 ⟨rfl, hv0⟩; subst hv0)
    | (go_at_call 12; refine (heads_any _).mono ?_; rintro e u3 ⟨rfl, b3⟩; have HB3 := hide (below_trans HB2.out b3); clear b3))
  go_ret
  exact ⟨rfl, HB3.out⟩
end Go.Proofs.Ytadlkikjfonkgaa
namespace Go.Proofs.Ytadlkikjfonkgaa
open Go.RowKit Go.Conc
set_option linter.unusedVariables false

set_option maxHeartbeats 8000000 in
set_option maxRecDepth 100000 in
theorem oneway_yes (w : World) (ba : Option Addr) (bn bc : Nat) (bad : List Int) (hR : ReadsI w ba bn bad) (hbn : bn ≤ 9223372036854775807) (sa : Option Addr) (n c : Nat) (fs : List Fc) (hF : ReadsF w sa n fs) (hn : n ≤ 9223372036854775807) (oa : Option Addr) (on oc : Nat) (xs : List Ox) (hO : ReadsO w oa on xs) (hon : on ≤ 1600000000000) (hne : NewE 8 4 1 bad fs = 0) :
    Calls Try.prog 5 #[.slice ba bn bc, .slice sa n c, .slice oa on oc] w fun e w' => e = .returned (.bool true) ∧ Below w.heap.size w w' := by
  obtain ⟨C0, hC0⟩ : ∃ C, C = newC 8 4 1 bad (fs.map Fc.t) := ⟨_, rfl⟩
  have hfb : faultsB fs = true := by
    have h9 := hne
    unfold NewE at h9
    split at h9
    · cases h9
    split at h9
    · cases h9
    split at h9
    · cases h9
    · rename_i h1 h2 h3; simpa using h3
  have HFI : Hid (OFin C0 (fun _ => false) 0) := by rw [hC0]; exact ⟨oneway_new 8 4 1 bad _ (fmb_kinds hfb), rfl, newC_life 8 4 1 bad _ (by decide), rfl, rfl, rfl⟩
  have HR := hide hR
  have HF := hide hF
  have HO := hide hO
  have HNE := hide hne
  have HC0 := hide hC0
  clear hfb
  have hm25 := mk25c
  clear hR hF hO hne hC0
  go_enter Try.func5, Try.ntmps5
  go_upto_region 5 with (first
    | (go_at_call 20; refine (lshape_any _).mono ?_; rintro e u1 ⟨rfl, b1⟩; have HB1 := hide (below_trans b1 (below_alloc u1 (.cells #[.int .i64 8, .int .i64 4, .int .i64 1] 23))); have HU1 := hide b1.size; have HG1 := hide (alloc_new u1 (.cells #[.int .i64 8, .int .i64 4, .int .i64 1] 23)); clear b1)
    | (go_at_call 21; refine (New_any _ 8 4 1 ba bn bc bad (HR.out.below HB1.out) hbn sa n c fs (HF.out.below HB1.out) hn).mono ?_; rintro e u2 hnew; obtain ⟨p, hE, hch⟩ := hnew.yes HNE.out; subst hE; have HCH : Hid (ChipAt u2 p (fun k => u1.heap.size + 1 ≤ k ∧ k < u2.heap.size) C0) := (by rw [HC0.out]; have h9 := hch; rw [alloc_size] at h9; exact h9); have HN2 := hide hnew.bel; clear hnew hch)
    | (go_at_call 11; refine (no_any' 0 _).mono ?_; rintro e v0 ⟨rfl, hv0⟩; subst hv0))
  obtain ⟨b7, hb7⟩ : ∃ b, b = u1.heap.size := ⟨_, rfl⟩
  have HA0 : Hid (∃ F, HD w v0 p F [(b7, box8)] C0) := by
    have h1 := HU1.out
    refine ⟨_, ⟨below_trans HB1.out HN2.out, HCH.out, fun k hk => by omega, fun x hx => ?_⟩⟩
    simp at hx
    subst hx
    rw [hb7]
    exact ⟨(HN2.out.block _ (lt_of_block HG1.out)).trans HG1.out, (fun hf => by have := hf.1; omega), h1⟩
  rw [← hb7]
  clear hb7 HCH HN2 HG1 HU1 HB1
  obtain ⟨F0, HH0⟩ := HA0.out
  have HH := hide HH0
  clear HH0 HA0
  go_upto_region 6 with (first
    | (go_at_call 24; refine (cells_any _ p F0 C0 HH.out.ch HFI.out.life.ok HFI.out.dark HFI.out.B HFI.out.P HFI.out.S).mono ?_; rintro e u5 ⟨v5, rs5, rfl, hcl5, htb5, hb5⟩; have HM0 := hide (om_start HH.out hcl5 hb5); have HTB0 := hide htb5; have HB5 := hide hb5; clear hcl5 htb5 hb5))
  obtain ⟨x0, x1, x2⟩ := cells3 ((HH.out.below HB5.out).blk (List.mem_cons_self))
  have hbl := lt_of_block ((HH.out.below HB5.out).blk (List.mem_cons_self))
  go_wp2
  generalize hU : u5.alloc (.cells f0row 4) = U at HM0 ⊢
  generalize hgf : u5.heap.size = gf at HM0 ⊢
  clear hU hgf HH HB5 x0 x1 x2 hbl hm25
  have HT0 : Hid (∃ (F : Nat → Prop) (C : Ch) (fs : List Bool) (rs : List Rw) (fp : Nat → Bool), OM w U p b7 gf F C fs v5 rs ∧ TabF fs fp ∧ rs.map Rw.z = tbl C 32 ∧ OFin C fp 0) := ⟨_, _, _, _, _, HM0.out, tabF_new, HTB0.out, HFI.out⟩
  clear HM0 HTB0 HFI HC0 HNE HR HF
  go_loopw [10, 12] (fun s10 s12 wr => ∃ i : Nat, i ≤ on ∧ s12 = .int .i64 i ∧ Hid (∃ (F : Nat → Prop) (C : Ch) (fs : List Bool) (rs : List Rw) (fp : Nat → Bool), OM w wr p b7 gf F C fs s10 rs ∧ TabF fs fp ∧ rs.map Rw.z = tbl C 32 ∧ OFin C fp i)) (fun _ s12 _ => on - (intOf s12).toNat)
  case atStart => exact ⟨0, Nat.zero_le _, rfl, HT0⟩
  case round =>
    clear HT0
    obtain ⟨i, hi, rfl, HS⟩ := hrel
    obtain ⟨F, C, fs, rs, fp, hM, hT, htb, hfi⟩ := HS.out
    obtain ⟨gv, cv, hv, _⟩ := hM.cl.shape (tbl_len htb)
    subst hv
    have HMi := hide hM
    have HT := hide hT
    have HTB := hide htb
    have HFI := hide hfi
    clear HS hM hT htb hfi
    by_cases hlt : i < on
    · have dm : decide ((i : Int) < (on : Int)) = true := decide_eq_true (by omega)
      have i1 : (i : Int) < (on : Int) := by omega
      obtain ⟨gO, oO, x, hoa, hgO, hxi, hxo, k0, k1, k2, k3, k4, k5, k6⟩ := HO.out.pos hlt
      subst hoa
      have hbw := HMi.out.hd.bel
      have k0 := (hbw.cell (block_lt_of_cell k0)).trans k0
      have k1 := (hbw.cell (block_lt_of_cell k1)).trans k1
      have k2 := (hbw.cell (block_lt_of_cell k2)).trans k2
      have k3 := (hbw.cell (block_lt_of_cell k3)).trans k3
      have k4 := (hbw.cell (block_lt_of_cell k4)).trans k4
      have k5 := (hbw.cell (block_lt_of_cell k5)).trans k5
      have k6 := (hbw.cell (block_lt_of_cell k6)).trans k6
      have HXO := hide hxo
      have HPOK := hide HMi.out.hd.ch.pok
      clear hxi hxo hbw
      go_upto_region 11 with fail
      clear k0 k1 k2 k3 k4 k5 k6
      have hb1 := below_alloc wr (.cells #[.int .i64 x.o.k, .int .i64 x.o.b, .int .i64 x.o.p, .int .i64 x.o.bit, .bool x.o.fit, .slice x.da x.dn x.dc, .slice x.za x.zn x.zc] 56)
      have HM1 := hide (HMi.out.below hb1)
      have HX1 := hide (alloc_new wr (.cells #[.int .i64 x.o.k, .int .i64 x.o.b, .int .i64 x.o.p, .int .i64 x.o.bit, .bool x.o.fit, .slice x.da x.dn x.dc, .slice x.za x.zn x.zc] 56))
      have HF1 : Hid (¬ F wr.heap.size) := fun hf => by have h9 := HMi.out.hd.ch.fin _ hf; omega
      have HXO1 := hide (HXO.out.below (HM1.out.hd.bel))
      generalize hU : wr.alloc (.cells #[.int .i64 x.o.k, .int .i64 x.o.b, .int .i64 x.o.p, .int .i64 x.o.bit, .bool x.o.fit, .slice x.da x.dn x.dc, .slice x.za x.zn x.zc] 56) = U at HM1 HX1 HXO1 ⊢
      generalize hq13 : wr.heap.size = q13 at HX1 HF1 ⊢
      clear hU hq13 hb1 HMi
      obtain ⟨C1, hC1⟩ : ∃ D, D = (doesC C x.o).2 := ⟨_, rfl⟩
      obtain ⟨er, her⟩ : ∃ r, r = (doesC C x.o).1 := ⟨_, rfl⟩
      have HC1 := hide (And.intro hC1 her)
      have HFS := hide (HFI.out.step HPOK.out x.o HXO.out.d.2.1 HXO.out.z.2.1)
      have HFIN : Hid (OFin { C1 with dark := false } (stepP C x.o fp) (i + 1)) := by rw [hC1]; exact HFS.out.1
      clear hC1 her
      obtain ⟨y0, y1, y2, y3, y4, y5, y6⟩ := cells7 HX1.out
      have hil : i ≤ 1600000000000 := by omega
      go_upto_region 12 with (first | (go_at_call 22; refine (does_any _ p F C HM1.out.hd.ch HFI.out.life.ok (by have := HFI.out.life.tr; omega) (HFI.out.life.fl.mono (by omega)) x.o x.da x.dn x.dc x.za x.zn x.zc HXO1.out.d HXO1.out.z (by have := HXO1.out.dl; omega) (by have := HXO1.out.zl; omega) (fun y hy h0 hf => by have h1 := reads_low HXO.out.d hy h0; have h2 := HM1.out.hd.lo _ hf; omega) (fun y hy h0 hf => by have h1 := reads_low HXO.out.z hy h0; have h2 := HM1.out.hd.lo _ hf; omega) HXO1.out.bit).mono ?_; rintro e u4 ⟨rfl, hc4, ho4⟩; rw [← HC1.out.2]; rw [← HC1.out.1] at hc4; have HM4 := hide (HM1.out.does hc4 ho4); have HX4 := hide ((ho4.block _ (lt_of_block HX1.out) HF1.out).trans HX1.out); have HF4 : Hid (¬ Fx F U u4 q13) := (fun hf => hf.elim HF1.out (fun h9 => by have h8 := lt_of_block HX1.out; omega)); clear hc4 ho4 y0 y1 y2 y3 y4 y5 y6))
      obtain ⟨dk1, hdk1⟩ : ∃ b, b = C1.dark := ⟨_, rfl⟩
      have HDK := hide hdk1
      clear hdk1 HM1 HX1 HXO1 HF1
      generalize hFF : Fx F U u4 = FF at HM4 HF4
      clear hFF
      go_upto_region 13 with (first | (go_at_call 17; refine (Dark_any _ p _ C1 HM4.out.hd.ch).mono ?_; rintro e v0 ⟨rfl, hv0⟩; subst hv0; rw [← HDK.out]))
      obtain ⟨u4b, hu4b⟩ : ∃ u, u = v0 := ⟨_, rfl⟩
      go_upto_region 14 with (first | (go_at_call 25; refine (On_any _ p _ C1 HM4.out.hd.ch).mono ?_; rintro e u6 ⟨rfl, hc6, ho6⟩; have HM6 := hide (HM4.out.on hc6 ho6); have HX6 := hide ((ho6.block _ (lt_of_block HX4.out) HF4.out).trans HX4.out); clear hc6 ho6))
      clear HM4 HX4 HF4 hu4b
      go_upto_region 15 with (first | (go_at_call 24; refine (cells_any _ p _ _ HM6.out.hd.ch HFIN.out.life.ok HFIN.out.dark HFIN.out.B HFIN.out.P HFIN.out.S).mono ?_; rintro e u7 ⟨v7, rs7, rfl, hcl7, htb7, hb7⟩; obtain ⟨gn, cn, hv7, _⟩ := hcl7.shape (tbl_len htb7); subst hv7; have HN7 := hide (HM6.out.next hcl7 hb7); have HM7 := hide (HM6.out.below hb7); have HX7 := hide ((hb7.block _ (lt_of_block HX6.out)).trans HX6.out); have HTB2 := hide htb7; clear hcl7 htb7 hb7))
      clear HM6 HX6
      obtain ⟨tr, htr⟩ : ∃ b, b = triedE er C1.dark := ⟨_, rfl⟩
      have HTRr := hide htr
      clear htr
      obtain ⟨u9, hu9⟩ : ∃ u, u = u7 := ⟨_, rfl⟩
      subst hu9
      go_cut [17] from 60 to 75 (fun s17 wx => s17 = .bool tr ∧ Hid (wx = u9))
      case first =>
        by_cases e0 : er = 0
        · subst e0
          have ht : Hid (true = tr) := by unfold Hid; rw [HTRr.out]; rfl
          go_wp2_with (first | (go_at_call 11; refine (no_any' 0 _).mono ?_; rintro e v0 ⟨rfl, hv0⟩; subst hv0))
          go_meet
          exact ⟨by rw [← ht.out], rfl⟩
        have d0 : (er == 0) = false := by simp [e0]
        by_cases e44 : er = 44
        · subst e44
          have ht : Hid (true = tr) := by unfold Hid; rw [HTRr.out]; rfl
          clear e0
          go_wp2_with (first | (go_at_call 11; refine (no_any' 44 _).mono ?_; rintro e v0 ⟨rfl, hv0⟩; subst hv0))
          go_meet
          exact ⟨by rw [← ht.out], rfl⟩
        have d44 : (er == 44) = false := by simp [e44]
        by_cases e45 : er = 45
        · subst e45
          have ht : Hid (dk1 = tr) := by unfold Hid; rw [HTRr.out, HDK.out]; simp [triedE]
          clear e0 e44
          go_wp2_with (first | (go_at_call 11; refine (no_any' 45 _).mono ?_; rintro e v0 ⟨rfl, hv0⟩; subst hv0))
          go_meet
          exact ⟨by rw [← ht.out], rfl⟩
        have d45 : (er == 45) = false := by simp [e45]
        have ht : Hid (false = tr) := by unfold Hid; rw [HTRr.out]; simp [triedE, d0, d44, d45]
        clear e0 e44 e45
        go_wp2_with (first | (go_at_call 11; refine (no_any' er _).mono ?_; rintro e v0 ⟨rfl, hv0⟩; subst hv0))
        go_meet
        exact ⟨by rw [← ht.out], rfl⟩
      case rest =>
      obtain ⟨rfl, hwc⟩ := hcut
      have hwc' := hwc.out
      subst hwc'
      obtain ⟨u9, hu9⟩ : ∃ u, u = wc := ⟨_, rfl⟩
      subst hu9
      have HGO : Hid (∀ m : Nat, m < 32 → Goes x.o tr ((m / 4 : Nat) : Int) ((m % 4 : Nat) : Int) (readL C (m / 4) (m % 4)) (readL { C1 with dark := false } (m / 4) (m % 4)) (fp (m / 4))) := by
        rw [HTRr.out, HC1.out.1, HC1.out.2]
        exact HFS.out.2
      have HRA := hide (round_all HM7.out HN7.out HT.out HPOK.out HM7.out.hd.ch.pok HTB.out HTB2.out HGO.out)
      have H79 := hide (HM7.out.hd.blk (g := b7) (o := box8) (by simp))
      clear HGO HFS
      go_wp2
      go_loopw [18] (fun s18 wr => ∃ m : Nat, m ≤ 32 ∧ s18 = .int .i64 m ∧ Hid (Below u9.heap.size u9 wr)) (fun s18 _ => 32 - (intOf s18).toNat)
      case atStart => exact ⟨0, Nat.zero_le _, rfl, Below.refl _ _⟩
      case round =>
        obtain ⟨m, hm, rfl, HJ⟩ := hrel
        by_cases hmt : m < 32
        · obtain ⟨r, r2, fb, q1, q2, q3, q4, q5, q6⟩ := HRA.out m hmt
          refine o2_round u9 wr HJ x tr HX7 H79 (fun _ _ _ _ _ h => h) m hmt r r2 fb q1 q2 q3 q4 q5 q6 _ _ _ _ _ _ _ _ _ _ _ _ _ _ _ _ _ _ _ _ _ _ _ _ _ _ _ _ _ _ _ _ _ _ _ _ _ _ _ _ _ _ _ _ _ _ _ _ _ _ _ _ _ _ _ _ _ _ _ _ _ _ _ _ _ _ _ _ _ _ _ _ _ _ _ _ _ _ _ _ _ _ _ _ _ _ _ _ _ _ _ _ _ _ _ _ _ _ _ _ _ _ _ _ _ _ _ _ _ _ _ _ _ _ _ _ _ _ _ _ _ _ _ _ _ _ _ _ ?_
          intro x18 x19 x76 x77 x78 x79 x80 x81 x82 x83 x84 x85 x86 x87 x88 x89 x90 x91 x92 x93 x94 x95 x96 x97 x98 x99 x100 x101 x102 x103 x104 x105 x106 x107 x108 w9 e18 hB9
          subst e18
          clear q1 q2 q3 q4 q5 q6
          go_roundw
          case rel => first | exact ⟨m + 1, by omega, rfl, hB9⟩ | ((repeat apply Exists.intro); exact ⟨⟨m + 1, by omega, rfl, hB9⟩, rfl⟩)
          case measure => simp [intOf]; omega
        · have dmm : decide ((m : Int) < 32) = false := decide_eq_false (by omega)
          have HN9 := hide (HN7.out.below HJ.out)
          have HX9o := hide ((HJ.out.block _ (lt_of_block HX7.out)).trans HX7.out)
          clear HRA H79 HN7 HM7 HX7 HJ
          obtain ⟨y0, y1, y2, y3, y4, y5, y6⟩ := cells7 HX9o.out
          by_cases hk4 : x.o.k = 4
          · have d4 : (x.o.k == 4) = true := by rw [hk4]; rfl
            have d2 : (x.o.k == 2) = false := by rw [hk4]; rfl
            by_cases h0 : er = 0
            · obtain ⟨i', e1, hi'⟩ : ∃ i' : Nat, x.o.b = i' ∧ i' < 8 := by
                obtain ⟨i', e1, hi'⟩ := flip_place hk4 (by rw [← HC1.out.2]; exact h0)
                exact ⟨i', e1, by rw [HFI.out.B] at hi'; exact hi'⟩
              have HT9 : Hid (TabF (fs.set i' true) (stepP C x.o fp)) := tabF_four HT.out HN9.out.fl hi' hk4 (by rw [← HC1.out.2]; exact h0) e1
              have d0 : (er == 0) = true := by rw [h0]; rfl
              have hkr := HN9.out.hd.blk (g := gf) (o := kobj fs) (by simp)
              have hcv := kcell hkr (HT.out i' hi')
              have fzk := fun j => frozen_of_row wr gf j _ 4 hkr
              have HX9 := hide (HN9.out.setF i' true)
              have y0s : (wr.setCell ⟨gf, i', none⟩ (.bool true)).cell? ⟨q13, 0, none⟩ = some (.int .i64 x.o.k) := (cells7 (((Only.setCell (· = gf) wr gf i' (.bool true) rfl).block q13 (lt_of_block HX9o.out) (fun e => tag_ne HX9o.out hkr (t := 56) (u := 4) rfl rfl (by decide) e)).trans HX9o.out)).1
              have i81 : (i' : Int) < 8 := by omega
              rw [e1] at y1
              clear hkr e1
              clear hk4 h0
              go_wp2_with (first | (go_at_call 11; refine (no_any' er _).mono ?_; rintro e v0 ⟨rfl, hv0⟩; subst hv0))
              go_roundw
              case rel =>
                have HREL : ∃ (F : Nat → Prop) (C : Ch) (fs : List Bool) (rs : List Rw) (fp : Nat → Bool), OM w _ p b7 gf F C fs (.slice (some ⟨gn, 0, none⟩) 32 cn) rs ∧ TabF fs fp ∧ rs.map Rw.z = tbl C 32 ∧ OFin C fp (i + 1) := ⟨_, _, _, _, _, HX9.out, HT9.out, HTB2.out, HFIN.out⟩
                first | exact ⟨i + 1, by omega, by go_num, HREL⟩ | ((repeat apply Exists.intro); exact ⟨⟨i + 1, by omega, by go_num, HREL⟩, rfl⟩)
              case measure => simp [intOf]; omega
            · have d0 : (er == 0) = false := by simp [h0]
              have HT9 : Hid (TabF fs (stepP C x.o fp)) := by
                show TabF fs _
                rw [stepP_no (fun h9 => h0 (by rw [HC1.out.2]; exact h9.2)) (fun h9 => by rw [hk4] at h9; exact absurd h9.1 (by decide))]
                exact HT.out
              have HX9 := HN9
              clear hk4 h0
              go_wp2_with (first | (go_at_call 11; refine (no_any' er _).mono ?_; rintro e v0 ⟨rfl, hv0⟩; subst hv0))
              go_roundw
              case rel =>
                have HREL : ∃ (F : Nat → Prop) (C : Ch) (fs : List Bool) (rs : List Rw) (fp : Nat → Bool), OM w _ p b7 gf F C fs (.slice (some ⟨gn, 0, none⟩) 32 cn) rs ∧ TabF fs fp ∧ rs.map Rw.z = tbl C 32 ∧ OFin C fp (i + 1) := ⟨_, _, _, _, _, HX9.out, HT9.out, HTB2.out, HFIN.out⟩
                first | exact ⟨i + 1, by omega, by go_num, HREL⟩ | ((repeat apply Exists.intro); exact ⟨⟨i + 1, by omega, by go_num, HREL⟩, rfl⟩)
              case measure => simp [intOf]; omega
          have d4 : (x.o.k == 4) = false := by simp [hk4]
          by_cases hB : x.o.k = 2 ∧ tr = true
          · obtain ⟨hk2, htr⟩ := hB
            have htd : triedE (doesC C x.o).1 (doesC C x.o).2.dark = true := by rw [← HC1.out.1, ← HC1.out.2, ← HTRr.out]; exact htr
            obtain ⟨i', e1, hi'⟩ : ∃ i' : Nat, x.o.b = i' ∧ i' < 8 := by
              obtain ⟨i', e1, hi'⟩ := erase_place HFI.out.life.ok HFI.out.dark hk2 htd
              exact ⟨i', e1, by rw [HFI.out.B] at hi'; exact hi'⟩
            have HT9 : Hid (TabF (fs.set i' false) (stepP C x.o fp)) := tabF_two HT.out HN9.out.fl hi' hk2 htd e1
            have d2 : (x.o.k == 2) = true := by rw [hk2]; rfl
            have hkr := HN9.out.hd.blk (g := gf) (o := kobj fs) (by simp)
            have hcv := kcell hkr (HT.out i' hi')
            have fzk := fun j => frozen_of_row wr gf j _ 4 hkr
            have HX9 := hide (HN9.out.setF i' false)
            have y0s : (wr.setCell ⟨gf, i', none⟩ (.bool false)).cell? ⟨q13, 0, none⟩ = some (.int .i64 x.o.k) := (cells7 (((Only.setCell (· = gf) wr gf i' (.bool false) rfl).block q13 (lt_of_block HX9o.out) (fun e => tag_ne HX9o.out hkr (t := 56) (u := 4) rfl rfl (by decide) e)).trans HX9o.out)).1
            have i81 : (i' : Int) < 8 := by omega
            rw [e1] at y1
            clear hkr e1
            clear hk4 hk2 htd HTRr
            subst htr
            go_wp2
            go_roundw
            case rel =>
              have HREL : ∃ (F : Nat → Prop) (C : Ch) (fs : List Bool) (rs : List Rw) (fp : Nat → Bool), OM w _ p b7 gf F C fs (.slice (some ⟨gn, 0, none⟩) 32 cn) rs ∧ TabF fs fp ∧ rs.map Rw.z = tbl C 32 ∧ OFin C fp (i + 1) := ⟨_, _, _, _, _, HX9.out, HT9.out, HTB2.out, HFIN.out⟩
              first | exact ⟨i + 1, by omega, by go_num, HREL⟩ | ((repeat apply Exists.intro); exact ⟨⟨i + 1, by omega, by go_num, HREL⟩, rfl⟩)
            case measure => simp [intOf]; omega
          have HT9 : Hid (TabF fs (stepP C x.o fp)) := by
            show TabF fs _
            rw [stepP_no (fun h9 => hk4 h9.1) (fun h9 => hB ⟨h9.1, by rw [HTRr.out, HC1.out.1, HC1.out.2]; exact h9.2⟩)]
            exact HT.out
          have HX9 := HN9
          by_cases hk2 : x.o.k = 2
          · have htf : tr = false := by
              cases htb : tr with
              | false => rfl
              | true => exact absurd ⟨hk2, htb⟩ hB
            have d2 : (x.o.k == 2) = true := by rw [hk2]; rfl
            clear hk4 hk2 hB HTRr
            subst htf
            go_wp2
            go_roundw
            case rel =>
              have HREL : ∃ (F : Nat → Prop) (C : Ch) (fs : List Bool) (rs : List Rw) (fp : Nat → Bool), OM w _ p b7 gf F C fs (.slice (some ⟨gn, 0, none⟩) 32 cn) rs ∧ TabF fs fp ∧ rs.map Rw.z = tbl C 32 ∧ OFin C fp (i + 1) := ⟨_, _, _, _, _, HX9.out, HT9.out, HTB2.out, HFIN.out⟩
              first | exact ⟨i + 1, by omega, by go_num, HREL⟩ | ((repeat apply Exists.intro); exact ⟨⟨i + 1, by omega, by go_num, HREL⟩, rfl⟩)
            case measure => simp [intOf]; omega
          · have d2 : (x.o.k == 2) = false := by simp [hk2]
            clear hk4 hk2 hB
            go_wp2
            go_roundw
            case rel =>
              have HREL : ∃ (F : Nat → Prop) (C : Ch) (fs : List Bool) (rs : List Rw) (fp : Nat → Bool), OM w _ p b7 gf F C fs (.slice (some ⟨gn, 0, none⟩) 32 cn) rs ∧ TabF fs fp ∧ rs.map Rw.z = tbl C 32 ∧ OFin C fp (i + 1) := ⟨_, _, _, _, _, HX9.out, HT9.out, HTB2.out, HFIN.out⟩
              first | exact ⟨i + 1, by omega, by go_num, HREL⟩ | ((repeat apply Exists.intro); exact ⟨⟨i + 1, by omega, by go_num, HREL⟩, rfl⟩)
            case measure => simp [intOf]; omega
    · have dm : decide ((i : Int) < (on : Int)) = false := decide_eq_false (by omega)
      go_wp2_with (first | (go_at_call 12; refine (heads_any _).mono ?_; rintro e u12 ⟨rfl, b12⟩; have HK12 := hide (HMi.out.below b12); clear b12))
      go_ret
      exact ⟨rfl, HK12.out.hd.bel⟩
end Go.Proofs.Ytadlkikjfonkgaa
