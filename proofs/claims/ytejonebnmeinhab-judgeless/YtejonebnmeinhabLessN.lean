/-
  SEAT Ytejonebnmeinhab: JudgeLess, its walk of what may be.
-/
import Derived.Test.YtejonebnmeinhabLessB
import Derived.Deep.DeepCutAuto
import Derived.Deep.CutRange
namespace Go.Proofs.Ytejonebnmeinhab
open Go.RowKit
set_option linter.unusedVariables false

set_option maxHeartbeats 8000000 in
set_option maxRecDepth 100000 in
theorem less_N (b p s : Int) (a1 a4 : Option Addr) (ax : Addr) (m len cap n cap3 l4 cap4 : Nat) (bs outs : List Bool) (cs : List Cmd) (clean : Bool) (blk at0 : Int) (w : World) (hb : ReadsB w a1 len bs) (hl : len ≤ 140737488351232) (hc : ReadsC w (some ax) n cs) (hn : n * 32 ≤ 140737488351232) (hnc : n ≤ cap3) (ho : ReadsB w a4 l4 outs) (hlo : l4 ≤ 140737488351232) (wb : Wf blk) (wa : Wf at0) (hE : newE b p s len = 0) (hmn : m ≤ n) (hrun : (runs p (start clean p bs) (cs.take m)).isSome) (hR : chkI (chk p (start clean p bs) cs) = -1) (hmn2 : m = n)
    (HR0 : ∀ (a a' : Option Addr) (cap cap' : Nat) (w : World), ReadsB w a len bs → ReadsC w a' n cs → Calls Try.prog 27 #[.agg #[.int .i64 b, .int .i64 p, .int .i64 s], .slice a len cap, .bool clean, .slice a' n cap'] w fun e w' => e = .returned (.tuple #[.int .i64 (chkI (chk p (start clean p bs) cs)), .int .i64 0]) ∧ Below w.heap.size w w') :
    Calls Try.prog 6 #[.agg #[.int .i64 b, .int .i64 p, .int .i64 s], .slice a1 len cap, .bool clean, .slice (some ax) n cap3, .slice a4 l4 cap4, .int .i64 blk, .int .i64 at0] w fun e w' => e = .returned (.bool true) ∧ Below w.heap.size w w' := by
  have hb0 : Below w.heap.size w (w.alloc (.cells #[.int .i64 b, .int .i64 p, .int .i64 s] 23)) := (Below.refl _ _).alloc (Nat.le_refl _) _
  obtain ⟨w0, hw0⟩ : ∃ w0, w0 = w.alloc (.cells #[.int .i64 b, .int .i64 p, .int .i64 s] 23) := ⟨_, rfl⟩
  have hS : ∀ x, w0.grownBy x none → x.cell? ⟨w.heap.size, 0, none⟩ = some (.int .i64 b) ∧ x.cell? ⟨w.heap.size, 1, none⟩ = some (.int .i64 p) ∧ x.cell? ⟨w.heap.size, 2, none⟩ = some (.int .i64 s) := fun x hx => box_cells (by rw [hw0] at hx; exact hx)
  rw [← hw0] at hb0
  have hlen := hb.1
  have hclen := hc.1
  have hf : Fits b p s = true := by
    cases hf : Fits b p s with
    | true => rfl
    | false => simp [newE, hf] at hE
  have hbd := fits_b hf
  have hlb : (len : Int) = b := by
    by_cases hb : (len : Int) = b
    · exact hb
    · simp [newE, hf, hb] at hE
  have hn2 : n ≤ 140737488355000 := by omega
  obtain ⟨st, hst⟩ : ∃ st, start clean p bs = st := ⟨_, rfl⟩
  have hsl : st.length = len := by rw [← hst, start_length]; exact hlen
  rw [hst] at hR hrun
  subst hmn2
  have HR : Hid _ := HR0
  have HMK : Hid _ := make8
  have hm8 := make8 (w.alloc (.cells #[.int .i64 b, .int .i64 p, .int .i64 s] 23))
  have H8 : Hid (ReadsB (((w.alloc (.cells #[.int .i64 b, .int .i64 p, .int .i64 s] 23)).alloc (.cells #[.bool false, .bool false, .bool false, .bool false, .bool false, .bool false, .bool false, .bool false] 4)).alloc (.cells #[.int .i64 1, .int .i64 0, .int .i64 0, .int .i64 0, .int .i64 1, .int .i64 0, .int .i64 0, .int .i64 0] 73)) (some ⟨w.heap.size + 1, 0, none⟩) 8 F8) := by
    have h := reads8 (w := w.alloc (.cells #[.int .i64 b, .int .i64 p, .int .i64 s] 23)) (World.grownBy_alloc _ (.cells #[.int .i64 1, .int .i64 0, .int .i64 0, .int .i64 0, .int .i64 1, .int .i64 0, .int .i64 0, .int .i64 0] 73) none)
    rw [show (w.alloc (.cells #[.int .i64 b, .int .i64 p, .int .i64 s] 23)).heap.size = w.heap.size + 1 by simp] at h
    exact h
  have HT : Hid (ReadsC (((w.alloc (.cells #[.int .i64 b, .int .i64 p, .int .i64 s] 23)).alloc (.cells #[.bool false, .bool false, .bool false, .bool false, .bool false, .bool false, .bool false, .bool false] 4)).alloc (.cells #[.int .i64 1, .int .i64 0, .int .i64 0, .int .i64 0, .int .i64 1, .int .i64 0, .int .i64 0, .int .i64 0] 73)) (some ⟨w.heap.size + 1 + 1, 0, none⟩) 2 T2) := by
    have h := readsT2 ((w.alloc (.cells #[.int .i64 b, .int .i64 p, .int .i64 s] 23)).alloc (.cells #[.bool false, .bool false, .bool false, .bool false, .bool false, .bool false, .bool false, .bool false] 4))
    simp only [World.size_alloc] at h
    exact h
  have gA : w0.grownBy (((w.alloc (.cells #[.int .i64 b, .int .i64 p, .int .i64 s] 23)).alloc (.cells #[.bool false, .bool false, .bool false, .bool false, .bool false, .bool false, .bool false, .bool false] 4)).alloc (.cells #[.int .i64 1, .int .i64 0, .int .i64 0, .int .i64 0, .int .i64 1, .int .i64 0, .int .i64 0, .int .i64 0] 73)) none := by rw [hw0]; exact gb_alloc (World.grownBy_alloc _ _ none) _
  have HS : Hid _ := hS
  clear HR0 hS hw0 HMK
  go_enter Try.func6, Try.ntmps6
  go_wp2_with (first
    | (go_at_call 22; refine (check_ok 8 4 1 (some ⟨w.heap.size + 1, 0, none⟩) (some ⟨w.heap.size + 1 + 1, 0, none⟩) 8 8 2 2 F8 T2 true _ new8 H8.out HT.out (by omega)).mono ?_; rintro e u1 ⟨rfl, bel1⟩; rw [twice_is]; have g1 := grownBy_trans gA (grown_of bel1 none); have bw1 := below_trans hb0 (below_of g1); obtain ⟨c0, c1, c2⟩ := HS.out _ g1; clear hm8))
  go_region_held3 (fun x => w0.grownBy x none ∧ x.cell? ⟨w.heap.size, 0, none⟩ = some (.int .i64 b) ∧ x.cell? ⟨w.heap.size, 1, none⟩ = some (.int .i64 p) ∧ x.cell? ⟨w.heap.size, 2, none⟩ = some (.int .i64 s))
    ((refine (fun hx => ⟨hx, HS.out _ hx⟩) ?_; first | exact gb_drew g1 | exact g4 | exact g3 | exact g2))
    (first
      | (go_at_call 23; refine (marks_any _ _ _ bs _ hl ?_).mono ?_; exact hb.below bw1.drew; rintro e u2 ⟨gm, cm, rfl, hcm, ownm, belm⟩; have g2 := grownBy_trans (gb_drew g1) (grown_of belm none); have bw2 := below_trans bw1.drew belm; have rm2 := marksR hlen ownm)
      | (go_at_call 24; refine (trace_any _ _ _ cs _ (by omega) ?_).mono ?_; exact hc.below bw2; rintro e u3 ⟨gt, ct, rfl, hct, ownt, belt⟩; have g3 := grownBy_trans g2 (grown_of belt none); have bw3 := below_trans bw2 belt; have rm3 := rm2.below belt; have rt3 := traceR hclen hc.2.1 ownt)
      | (go_at_call 22; refine (check_ok b p s _ _ _ _ _ _ bs cs _ _ hE rm3 rt3 hn2).mono ?_; rintro e u4 ⟨rfl, belk⟩; rw [hst, hR]; have g4 := grownBy_trans g3 (grown_of belk none); have bw4 := below_trans bw3 belk; clear ownm ownt rm2 rm3 rt3 g1 g2 g3 bw1 bw2 bw3 belm belt))
  obtain ⟨c0, c1, c2⟩ := HS.out _ g4
  go_upto_region 10 with (first
    | (go_at_call 27; refine (HR.out _ _ _ _ _ (hb.below bw4) (hc.below bw4)).mono ?_; rintro e u5 ⟨rfl, bel5⟩; rw [hst, hR]; have g5 := grownBy_trans g4 (grown_of bel5 none); have bw5 := below_trans bw4 bel5; obtain ⟨d0, d1, d2⟩ := HS.out _ g5; clear g4 bw4 c0 c1 c2))
  go_cut [86] (fun s86 wx => s86 = .bool (decide (blk < 0 ∨ b ≤ blk)) ∧ u5 = wx)
  case first =>
    by_cases q0 : blk < 0
    · go_wp2
      go_meet
      exact ⟨congrArg Value.bool (decide_eq_true (by omega)).symm, rfl⟩
    · by_cases q1 : b ≤ blk
      · go_wp2
        go_meet
        exact ⟨congrArg Value.bool (decide_eq_true (by omega)).symm, rfl⟩
      · go_wp2
        go_meet
        exact ⟨congrArg Value.bool (decide_eq_false (by omega)).symm, rfl⟩
  case rest =>
  obtain ⟨rfl, rfl⟩ := hcut
  go_upto_if 86 with fail
  go_cut [5] (fun s5 wx => ∃ q : Nat, q < len ∧ s5 = .int .i64 (q : Int) ∧ u5 = wx)
  case first =>
    by_cases q0 : blk < 0 ∨ b ≤ blk
    · have q1 : decide (blk < 0 ∨ b ≤ blk) = true := decide_eq_true q0
      go_wp2
      go_meet
      exact ⟨0, by omega, rfl, rfl⟩
    · have q1 : decide (blk < 0 ∨ b ≤ blk) = false := decide_eq_false q0
      go_wp2
      go_meet
      exact ⟨blk.toNat, by omega, by congr 1; omega, rfl⟩
  case rest =>
  obtain ⟨q, hq, rfl, rfl⟩ := hcut
  obtain ⟨i0, hi, hz0, hz1, hz2⟩ := info_parts info73
  have PK : Hid (ReadsB w a1 len bs ∧ ReadsC w (some ax) m cs ∧ ReadsB w a4 l4 outs ∧ newE b p s len = 0 ∧ (runs p st (cs.take m)).isSome = true ∧ start clean p bs = st ∧ w0.grownBy u5 none ∧ Below w.heap.size w u5 ∧ (len ≤ 140737488351232 ∧ m * 32 ≤ 140737488351232 ∧ m ≤ m ∧ m ≤ cap3 ∧ q < len ∧ st.length = len ∧ (len : Int) = b ∧ 8 ≤ b ∧ b ≤ 4096 ∧ l4 ≤ 140737488351232 ∧ Wf at0)) := ⟨hb, hc, ho, hE, hrun, hst, g5, bw5, hl, hn, hmn, hnc, hq, hsl, hlb, hbd.1, hbd.2.1, hlo, wa⟩
  have HI : Hid (Try.prog.info? 73 = some i0 ∧ i0.zero = some (.agg #[.int .i64 0, .int .i64 0, .int .i64 0, .int .i64 0]) ∧ i0.size = 4 ∧ i0.bytes = 32) := ⟨hi, hz0, hz1, hz2⟩
  clear hb hl hc hn hnc ho hlo wb wa hE hmn hb0 hlen hclen hf hbd hlb hn2 hrun hR hst hsl HR H8 HT gA bel1 c0 c1 c2 hcm hct belk bel5 g5 bw5 d0 d1 d2 hq hi hz0 hz1 hz2
  go_wp2
  go_loopw [21, 22, 23] (fun s21 s22 s23 wr => ∃ (k : Nat) (L : Int), k ≤ m ∧ s23 = .int .i64 k ∧ s22 = .int .i64 L ∧ -1 ≤ L ∧ L < k ∧ Hid (∀ j : Nat, j < k → L < (j : Int) → (cs.getD j Cmd.none).b ≠ (q : Int)) ∧ Hid (wr.ownsRow u5.heap.size 73 4 s21 (lessOf outs 0 (cs.take k)).length (flat (lessOf outs 0 (cs.take k)))) ∧ Below u5.heap.size u5 wr)
    (fun _ _ i _ => m - (intOf i).toNat)
  case atStart => exact ⟨0, -1, Nat.zero_le _, rfl, rfl, by omega, by omega, fun j hj => absurd hj (Nat.not_lt_zero _), own_nil u5, Below.refl _ _⟩
  case round =>
    obtain ⟨k, L, hk, rfl, rfl, hL0, hL1, HL, HO, bel⟩ := hrel
    obtain ⟨hb, hc, ho, hE, hrun, hst, g5, bw5, hl, hn, hmn, hnc, hq, hsl, hlb, hb8, hb9, hlo, wa⟩ := PK.out
    have hlt5 : w.heap.size ≤ u5.heap.size := bw5.size
    have hclen := hc.1
    obtain ⟨N, hN⟩ : ∃ N, (lessOf outs 0 (cs.take k)).length = N := ⟨_, rfl⟩
    obtain ⟨xs, hxs⟩ : ∃ xs, flat (lessOf outs 0 (cs.take k)) = xs := ⟨_, rfl⟩
    have hNk : N ≤ k := by
      have := lessOf_length outs 0 (cs.take k)
      rw [List.length_take] at this
      omega
    by_cases hlt : k < m
    · obtain ⟨g, off, hax, hg, hcell⟩ := hc.pos (by omega)
      cases hax
      obtain ⟨c, hcd⟩ : ∃ c, c = cs.getD k Cmd.none := ⟨_, rfl⟩
      have hX : ∀ v, Below u5.heap.size u5 v → v.cell? ⟨g, off + k * 4, none⟩ = some (.int .i64 c.k) ∧ v.cell? ⟨g, off + k * 4 + 1, none⟩ = some (.int .i64 c.b) ∧ v.cell? ⟨g, off + k * 4 + 2, none⟩ = some (.int .i64 c.p) ∧ v.cell? ⟨g, off + k * 4 + 3, none⟩ = some (.int .i64 c.s) := fun v hv => by
        obtain ⟨x0, x1, x2, x3⟩ := hcell k (by omega)
        rw [← hcd] at x0 x1 x2 x3
        have bv := below_trans bw5 hv
        exact ⟨(bv.cell hg).trans x0, (bv.cell hg).trans x1, (bv.cell hg).trans x2, (bv.cell hg).trans x3⟩
      have hget : cs[k]? = some c := by rw [hcd]; exact getC (by omega)
      have hlast := last_step hL0 hL1 HL.out hcd
      have hless := lessOf_take outs cs k c hget
      have d1 : decide ((k : Int) < (m : Int)) = true := decide_eq_true (by omega)
      have own : wr.ownsRow u5.heap.size 73 4 u21 N xs := by rw [← hN, ← hxs]; exact HO.out
      have h63 : N + 1 ≤ maxLen := by unfold maxLen; omega
      have hby : (N + 1) * 32 ≤ 140737488355328 := by omega
      have hwr : u5.heap.size ≤ wr.heap.size := bel.size
      have HLS : Hid _ := hlast
      have HLT : Hid _ := hless
      have HX : Hid _ := hX
      have HN : Hid (_ = N) := hN
      have HXS : Hid (_ = xs) := hxs
      have HOWN : Hid (wr.ownsRow u5.heap.size 73 4 u21 N xs) := own
      have HNUM : Hid (N + 1 ≤ maxLen ∧ (N + 1) * 32 ≤ 140737488355328 ∧ u5.heap.size ≤ wr.heap.size ∧ k + 1 ≤ m ∧ m ≤ 4398046510976) := ⟨h63, hby, hwr, by omega, by omega⟩
      have HBEL : Hid (Below u5.heap.size u5 wr) := bel
      clear hcd hget hcell hlast hless hX hN hxs HO HL
      obtain ⟨ck, cb, cp, cq⟩ := c
      obtain ⟨x0, x1, x2, x3⟩ := HX.out _ bel
      simp only at x0 x1 x2 x3
      have hol := ho.1
      by_cases hA : ck = 2
      · have hkeep : Hid (keepB outs k ⟨ck, cb, cp, cq⟩ = true) := by unfold Hid; simp [keepB, hA]
        have ka : (ck == 2) = true := by simp [hA]
        clear hA
        clear hb hc hE hrun hst g5 hl hn hmn hnc hq hsl hlb hb8 hb9 hlo wa hclen hNk hlt5 hwr h63 hby ho
        by_cases hcq : cb = (q : Int)
        ·
          clear own bel hk
          have hm9 := HNUM.out.2.2.2.2
          have qe : (cb == (q : Int)) = true := by simp [hcq]
          have HQ : Hid (cb = (q : Int)) := hcq
          clear hcq
          go_wp2_with (first
            | (at_builtin; refine wpList_append_src rfl (.tmp 112) (.tmp 117) 62 rfl u5.heap.size 73 i0 _ 4 32 Try.underlying62 HI.out.1 HI.out.2.1 HI.out.2.2.1 HI.out.2.2.2 rfl (by decide) _ N xs rfl (HOWN.out.alloc _) _ 1 _ _ rfl (rv_block (cs := #[.int .i64 ck, .int .i64 cb, .int .i64 cp, .int .i64 cq]) rfl) (flat_one [⟨ck, cb, cp, cq⟩]) HNUM.out.1 HNUM.out.2.1 (by have := HNUM.out.2.2.1; simp; omega) ?_; intro v2 w2 own2 grow2; have bel2 := (HBEL.out.alloc HNUM.out.2.2.1 _).grown grow2 (by have := HNUM.out.2.2.1; simp; omega) (fun j hj => (HOWN.out.lt j hj).1); obtain ⟨y0, y1, y2, y3⟩ := HX.out _ bel2; simp only at y1))
          go_roundw
          case rel => exact ⟨k + 1, (k : Int), by have := HNUM.out.2.2.2; omega, by go_num, rfl, by omega, by omega, (HLS.out.1 HQ.out), less_keep HLT.out HN.out HXS.out hkeep.out own2, bel2⟩
          case measure => simp [intOf]; have := HNUM.out.2.2.2; omega
        ·
          clear own bel hk
          have hm9 := HNUM.out.2.2.2.2
          have qe : (cb == (q : Int)) = false := by simp [hcq]
          go_wp2_with (first
            | (at_builtin; refine wpList_append_src rfl (.tmp 112) (.tmp 117) 62 rfl u5.heap.size 73 i0 _ 4 32 Try.underlying62 HI.out.1 HI.out.2.1 HI.out.2.2.1 HI.out.2.2.2 rfl (by decide) _ N xs rfl (HOWN.out.alloc _) _ 1 _ _ rfl (rv_block (cs := #[.int .i64 ck, .int .i64 cb, .int .i64 cp, .int .i64 cq]) rfl) (flat_one [⟨ck, cb, cp, cq⟩]) HNUM.out.1 HNUM.out.2.1 (by have := HNUM.out.2.2.1; simp; omega) ?_; intro v2 w2 own2 grow2; have bel2 := (HBEL.out.alloc HNUM.out.2.2.1 _).grown grow2 (by have := HNUM.out.2.2.1; simp; omega) (fun j hj => (HOWN.out.lt j hj).1); obtain ⟨y0, y1, y2, y3⟩ := HX.out _ bel2; simp only at y1))
          go_roundw
          case rel => exact ⟨k + 1, L, by have := HNUM.out.2.2.2; omega, by go_num, rfl, by omega, by omega, (HLS.out.2 hcq), less_keep HLT.out HN.out HXS.out hkeep.out own2, bel2⟩
          case measure => simp [intOf]; have := HNUM.out.2.2.2; omega
      have ka : (ck == 2) = false := by simp [hA]
      by_cases hB : l4 ≤ k
      · have hkeep : Hid (keepB outs k ⟨ck, cb, cp, cq⟩ = true) := by unfold Hid; simp [keepB, ho.1, hB]
        have kb : decide ((l4 : Int) ≤ (k : Int)) = true := decide_eq_true (by omega)
        clear hb hc hE hrun hst g5 hl hn hmn hnc hq hsl hlb hb8 hb9 hlo wa hclen hNk hlt5 hwr h63 hby ho
        by_cases hcq : cb = (q : Int)
        ·
          clear own bel hk
          have hm9 := HNUM.out.2.2.2.2
          have qe : (cb == (q : Int)) = true := by simp [hcq]
          have HQ : Hid (cb = (q : Int)) := hcq
          clear hcq
          go_wp2_with (first
            | (at_builtin; refine wpList_append_src rfl (.tmp 112) (.tmp 117) 62 rfl u5.heap.size 73 i0 _ 4 32 Try.underlying62 HI.out.1 HI.out.2.1 HI.out.2.2.1 HI.out.2.2.2 rfl (by decide) _ N xs rfl (HOWN.out.alloc _) _ 1 _ _ rfl (rv_block (cs := #[.int .i64 ck, .int .i64 cb, .int .i64 cp, .int .i64 cq]) rfl) (flat_one [⟨ck, cb, cp, cq⟩]) HNUM.out.1 HNUM.out.2.1 (by have := HNUM.out.2.2.1; simp; omega) ?_; intro v2 w2 own2 grow2; have bel2 := (HBEL.out.alloc HNUM.out.2.2.1 _).grown grow2 (by have := HNUM.out.2.2.1; simp; omega) (fun j hj => (HOWN.out.lt j hj).1); obtain ⟨y0, y1, y2, y3⟩ := HX.out _ bel2; simp only at y1))
          go_roundw
          case rel => exact ⟨k + 1, (k : Int), by have := HNUM.out.2.2.2; omega, by go_num, rfl, by omega, by omega, (HLS.out.1 HQ.out), less_keep HLT.out HN.out HXS.out hkeep.out own2, bel2⟩
          case measure => simp [intOf]; have := HNUM.out.2.2.2; omega
        ·
          clear own bel hk
          have hm9 := HNUM.out.2.2.2.2
          have qe : (cb == (q : Int)) = false := by simp [hcq]
          go_wp2_with (first
            | (at_builtin; refine wpList_append_src rfl (.tmp 112) (.tmp 117) 62 rfl u5.heap.size 73 i0 _ 4 32 Try.underlying62 HI.out.1 HI.out.2.1 HI.out.2.2.1 HI.out.2.2.2 rfl (by decide) _ N xs rfl (HOWN.out.alloc _) _ 1 _ _ rfl (rv_block (cs := #[.int .i64 ck, .int .i64 cb, .int .i64 cp, .int .i64 cq]) rfl) (flat_one [⟨ck, cb, cp, cq⟩]) HNUM.out.1 HNUM.out.2.1 (by have := HNUM.out.2.2.1; simp; omega) ?_; intro v2 w2 own2 grow2; have bel2 := (HBEL.out.alloc HNUM.out.2.2.1 _).grown grow2 (by have := HNUM.out.2.2.1; simp; omega) (fun j hj => (HOWN.out.lt j hj).1); obtain ⟨y0, y1, y2, y3⟩ := HX.out _ bel2; simp only at y1))
          go_roundw
          case rel => exact ⟨k + 1, L, by have := HNUM.out.2.2.2; omega, by go_num, rfl, by omega, by omega, (HLS.out.2 hcq), less_keep HLT.out HN.out HXS.out hkeep.out own2, bel2⟩
          case measure => simp [intOf]; have := HNUM.out.2.2.2; omega
      have kb : decide ((l4 : Int) ≤ (k : Int)) = false := decide_eq_false (by omega)
      obtain ⟨g4, off4, ha4, hg4, hcell4⟩ := ho.pos (by omega)
      cases ha4
      have z4 := hcell4 k (by omega)
      replace z4 := ((below_trans bw5 bel).cell (p := ⟨g4, off4 + k, none⟩) hg4).trans z4
      clear hcell4
      cases hC : outs.getD k false with
      | false =>
        rw [hC] at z4
        have hkeep : Hid (keepB outs k ⟨ck, cb, cp, cq⟩ = true) := by unfold Hid; unfold keepB; rw [hC]; simp
        clear hb hc hE hrun hst g5 hl hn hmn hnc hq hsl hlb hb8 hb9 hlo wa hclen hNk hlt5 hwr h63 hby ho
        by_cases hcq : cb = (q : Int)
        ·
          clear own bel hk
          have hm9 := HNUM.out.2.2.2.2
          have qe : (cb == (q : Int)) = true := by simp [hcq]
          have HQ : Hid (cb = (q : Int)) := hcq
          clear hcq
          go_wp2_with (first
            | (at_builtin; refine wpList_append_src rfl (.tmp 112) (.tmp 117) 62 rfl u5.heap.size 73 i0 _ 4 32 Try.underlying62 HI.out.1 HI.out.2.1 HI.out.2.2.1 HI.out.2.2.2 rfl (by decide) _ N xs rfl (HOWN.out.alloc _) _ 1 _ _ rfl (rv_block (cs := #[.int .i64 ck, .int .i64 cb, .int .i64 cp, .int .i64 cq]) rfl) (flat_one [⟨ck, cb, cp, cq⟩]) HNUM.out.1 HNUM.out.2.1 (by have := HNUM.out.2.2.1; simp; omega) ?_; intro v2 w2 own2 grow2; have bel2 := (HBEL.out.alloc HNUM.out.2.2.1 _).grown grow2 (by have := HNUM.out.2.2.1; simp; omega) (fun j hj => (HOWN.out.lt j hj).1); obtain ⟨y0, y1, y2, y3⟩ := HX.out _ bel2; simp only at y1))
          go_roundw
          case rel => exact ⟨k + 1, (k : Int), by have := HNUM.out.2.2.2; omega, by go_num, rfl, by omega, by omega, (HLS.out.1 HQ.out), less_keep HLT.out HN.out HXS.out hkeep.out own2, bel2⟩
          case measure => simp [intOf]; have := HNUM.out.2.2.2; omega
        ·
          clear own bel hk
          have hm9 := HNUM.out.2.2.2.2
          have qe : (cb == (q : Int)) = false := by simp [hcq]
          go_wp2_with (first
            | (at_builtin; refine wpList_append_src rfl (.tmp 112) (.tmp 117) 62 rfl u5.heap.size 73 i0 _ 4 32 Try.underlying62 HI.out.1 HI.out.2.1 HI.out.2.2.1 HI.out.2.2.2 rfl (by decide) _ N xs rfl (HOWN.out.alloc _) _ 1 _ _ rfl (rv_block (cs := #[.int .i64 ck, .int .i64 cb, .int .i64 cp, .int .i64 cq]) rfl) (flat_one [⟨ck, cb, cp, cq⟩]) HNUM.out.1 HNUM.out.2.1 (by have := HNUM.out.2.2.1; simp; omega) ?_; intro v2 w2 own2 grow2; have bel2 := (HBEL.out.alloc HNUM.out.2.2.1 _).grown grow2 (by have := HNUM.out.2.2.1; simp; omega) (fun j hj => (HOWN.out.lt j hj).1); obtain ⟨y0, y1, y2, y3⟩ := HX.out _ bel2; simp only at y1))
          go_roundw
          case rel => exact ⟨k + 1, L, by have := HNUM.out.2.2.2; omega, by go_num, rfl, by omega, by omega, (HLS.out.2 hcq), less_keep HLT.out HN.out HXS.out hkeep.out own2, bel2⟩
          case measure => simp [intOf]; have := HNUM.out.2.2.2; omega
      | true =>
        rw [hC] at z4
        have hkeep : Hid (keepB outs k ⟨ck, cb, cp, cq⟩ = false) := by unfold Hid; unfold keepB; rw [hC]; simp [hA]; omega
        clear hb hc hE hrun hst g5 hl hn hmn hnc hq hsl hlb hb8 hb9 hlo wa hclen hNk hlt5 hwr h63 hby ho
        by_cases hcq : cb = (q : Int)
        ·
          clear own bel hk
          have hm9 := HNUM.out.2.2.2.2
          have qe : (cb == (q : Int)) = true := by simp [hcq]
          have HQ : Hid (cb = (q : Int)) := hcq
          clear hcq
          go_wp2
          go_roundw
          case rel => exact ⟨k + 1, (k : Int), by have := HNUM.out.2.2.2; omega, by go_num, rfl, by omega, by omega, (HLS.out.1 HQ.out), less_drop HLT.out HN.out HXS.out hkeep.out HOWN.out, HBEL.out⟩
          case measure => simp [intOf]; have := HNUM.out.2.2.2; omega
        ·
          clear own bel hk
          have hm9 := HNUM.out.2.2.2.2
          have qe : (cb == (q : Int)) = false := by simp [hcq]
          go_wp2
          go_roundw
          case rel => exact ⟨k + 1, L, by have := HNUM.out.2.2.2; omega, by go_num, rfl, by omega, by omega, (HLS.out.2 hcq), less_drop HLT.out HN.out HXS.out hkeep.out HOWN.out, HBEL.out⟩
          case measure => simp [intOf]; have := HNUM.out.2.2.2; omega
    · have hkm : m = k := by omega
      subst hkm
      have hmc : m ≤ cs.length := by omega
      have hokl : ∀ c ∈ lessOf outs 0 (cs.take m), c.Ok := fun c h => hc.2.1 c (List.mem_of_mem_take (lessOf_mem _ _ _ c h))
      obtain ⟨al, kl, hul, rl⟩ := own_slice (show wr.ownsRow u5.heap.size 73 4 u21 N (flat (lessOf outs 0 (cs.take m))) by rw [← hN]; exact HO.out) hokl
      subst hul
      have gr : w0.grownBy wr none := grownBy_trans g5 (grown_of bel none)
      have bwr : Below w.heap.size w wr := below_trans bw5 bel
      have rc : ReadsC wr (some ax) m (cs.take m) := (hc.below bwr).front hmn
      have PX : Hid (ReadsB wr a1 len bs ∧ bs.length = len ∧ ReadsC wr (some ax) m (cs.take m) ∧ ReadsC wr al N (lessOf outs 0 (cs.take m)) ∧ (lessOf outs 0 (cs.take m)).length = N ∧ newE b p s len = 0 ∧ (runs p st (cs.take m)).isSome = true ∧ start clean p bs = st ∧ w0.grownBy wr none ∧ Below w.heap.size w wr ∧ (∀ j : Nat, j < m → L < (j : Int) → (cs.getD j Cmd.none).b ≠ (q : Int)) ∧ (len ≤ 140737488351232 ∧ m * 32 ≤ 140737488351232 ∧ m ≤ cap3 ∧ q < len ∧ st.length = len ∧ m ≤ cs.length ∧ N ≤ m ∧ q ≤ 100000)) := ⟨hb.below bwr, hb.1, rc, rl, hN, hE, hrun, hst, gr, bwr, HL.out, hl, by omega, by omega, hq, hsl, hmc, hNk, by omega⟩
      have hm9 : m ≤ 4398046510976 := by omega
      have hcap9 : (m : Int) ≤ (cap3 : Int) := by omega
      clear hb hc ho hE hrun hst g5 bw5 hl hn hmn hnc hq hsl hlb hb8 hb9 hlo hlt5 hclen hN hxs hNk hmc hokl rl gr bwr rc HL HO bel PK hk hlt
      go_upto_region 21 with fail
      go_cut [135] (fun s135 wx => s135 = .bool (decide (at0 ≤ L ∨ (m : Int) < at0)) ∧ wr = wx)
      case first =>
        by_cases q0 : at0 ≤ L
        · go_wp2
          go_meet
          exact ⟨congrArg Value.bool (decide_eq_true (by omega)).symm, rfl⟩
        · by_cases q1 : (m : Int) < at0
          · go_wp2
            go_meet
            exact ⟨congrArg Value.bool (decide_eq_true (by omega)).symm, rfl⟩
          · go_wp2
            go_meet
            exact ⟨congrArg Value.bool (decide_eq_false (by omega)).symm, rfl⟩
      case rest =>
      obtain ⟨rfl, rfl⟩ := hcut
      go_upto_if 135 with fail
      go_cut [6] (fun s6 wx => ∃ A : Nat, A ≤ m ∧ L < (A : Int) ∧ s6 = .int .i64 (A : Int) ∧ wr = wx)
      case first =>
        by_cases q0 : at0 ≤ L ∨ (m : Int) < at0
        · have q1 : decide (at0 ≤ L ∨ (m : Int) < at0) = true := decide_eq_true q0
          go_wp2
          go_meet
          exact ⟨m, by omega, by omega, rfl, rfl⟩
        · have q1 : decide (at0 ≤ L ∨ (m : Int) < at0) = false := decide_eq_false q0
          go_wp2
          go_meet
          exact ⟨at0.toNat, by omega, by omega, by congr 1; omega, rfl⟩
      case rest =>
      obtain ⟨A, hA, hLA, rfl, rfl⟩ := hcut
      have hA1 : (A : Int) ≤ (m : Int) := by omega
      have hA2 : (A : Int) ≤ (cap3 : Int) := by omega
      go_upto_region 23 with fail
      obtain ⟨X, hX⟩ : ∃ X, (cs.take m).take A = X := ⟨_, rfl⟩
      obtain ⟨Y, hY⟩ : ∃ Y, (cs.take m).drop A = Y := ⟨_, rfl⟩
      have HF : Hid (∀ x, Below wr.heap.size wr x → RV x (some ax) A 4 (flat X)) := fun x hx => by
        have := ((PX.out.2.2.1.below hx).front hA).rv
        rw [hX] at this; exact this
      have HBk : Hid (∀ x, Below wr.heap.size wr x → ∀ z, (cap3 = A → z = ax) → (cap3 ≠ A → z = ax.add (A * 4)) → RV x (some z) (m - A) 4 (flat Y)) := fun x hx z h1 h2 => by
        have hb := PX.out.2.2.1.below hx
        by_cases h : cap3 = A
        · have e0 : m - A = 0 := by have := PX.out.2.2.2.2.2.2.2.2.2.2.2; omega
          have eY : Y = [] := by
            rw [← hY]
            exact List.drop_eq_nil_of_le (by rw [hb.1]; omega)
          rw [e0, eY]
          exact ⟨rfl, (fun q => by cases q), fun y hy j u hj => by simp [flat] at hj⟩
        · rw [h2 h]
          have := (hb.back hA).rv
          rw [hY] at this; exact this
      have HXY : Hid (∀ c, c ∈ X ∨ c ∈ Y → c.Ok) := fun c h => by
        refine PX.out.2.2.1.2.1 c ?_
        rcases h with h | h
        · rw [← hX] at h; exact List.mem_of_mem_take h
        · rw [← hY] at h; exact List.mem_of_mem_drop h
      have HXe : Hid ((cs.take m).take A = X ∧ (cs.take m).drop A = Y) := ⟨hX, hY⟩
      have HD : Hid (0 + A ≤ maxLen ∧ (0 + A) * 32 ≤ 140737488355328 ∧ 0 + A + 1 ≤ maxLen ∧ (0 + A + 1) * 32 ≤ 140737488355328 ∧ 0 + A + 1 + (m - A) ≤ maxLen ∧ (0 + A + 1 + (m - A)) * 32 ≤ 140737488355328) := by
        have := PX.out.2.2.2.2.2.2.2.2.2.2.2
        unfold Hid maxLen
        omega
      clear hX hY
      have a0 : Below wr.heap.size wr wr := Below.refl _ _
      have a1 := a0.alloc (Nat.le_refl _) (.cells #[] 73)
      have a2 := a1.alloc a1.size (.cells #[.int .i64 3, .int .i64 (q : Int), .int .i64 0, .int .i64 0] 73)
      have a3 := a0.alloc (Nat.le_refl _) (.cells #[.int .i64 3, .int .i64 (q : Int), .int .i64 0, .int .i64 0] 73)
      have a4 := a3.alloc a3.size (.cells #[] 73)
      have b1 : Below wr.heap.size wr ((wr.alloc (.cells #[] 73)).drew) := a1.drew
      have b2 : Below wr.heap.size wr (((wr.alloc (.cells #[] 73)).alloc (.cells #[.int .i64 3, .int .i64 (q : Int), .int .i64 0, .int .i64 0] 73)).drew) := a2.drew
      have c2 : Below wr.heap.size wr (((wr.alloc (.cells #[.int .i64 3, .int .i64 (q : Int), .int .i64 0, .int .i64 0] 73)).alloc (.cells #[] 73)).drew) := a4.drew
      have p1 : (wr.alloc (.cells #[] 73)).ownsRow wr.heap.size 73 4 (.slice (some ⟨wr.heap.size, 0, none⟩) 0 0) 0 [] := own_made wr wr.heap.size (Nat.le_refl _)
      have o1 : ((wr.alloc (.cells #[] 73)).drew).ownsRow wr.heap.size 73 4 (.slice (some ⟨wr.heap.size, 0, none⟩) 0 0) 0 [] := p1.drew
      have o2 : (((wr.alloc (.cells #[] 73)).alloc (.cells #[.int .i64 3, .int .i64 (q : Int), .int .i64 0, .int .i64 0] 73)).drew).ownsRow wr.heap.size 73 4 (.slice (some ⟨wr.heap.size, 0, none⟩) 0 0) 0 [] := (p1.alloc (.cells #[.int .i64 3, .int .i64 (q : Int), .int .i64 0, .int .i64 0] 73)).drew
      have o3 : (((wr.alloc (.cells #[.int .i64 3, .int .i64 (q : Int), .int .i64 0, .int .i64 0] 73)).alloc (.cells #[] 73)).drew).ownsRow wr.heap.size 73 4 (.slice (some ⟨wr.heap.size + 1, 0, none⟩) 0 0) 0 [] := by
        have h := own_made (wr.alloc (.cells #[.int .i64 3, .int .i64 (q : Int), .int .i64 0, .int .i64 0] 73)) wr.heap.size a3.size
        rw [World.size_alloc] at h
        exact h.drew
      have rC2 : RV (((wr.alloc (.cells #[] 73)).alloc (.cells #[.int .i64 3, .int .i64 (q : Int), .int .i64 0, .int .i64 0] 73)).drew) (some ⟨wr.heap.size + 1, 0, none⟩) 1 4 [.int .i64 3, .int .i64 (q : Int), .int .i64 0, .int .i64 0] := by
        have h := rv_block (w := wr.alloc (.cells #[] 73)) (cs := #[.int .i64 3, .int .i64 (q : Int), .int .i64 0, .int .i64 0]) (t := 73) (m := 1) (size := 4) rfl
        rw [World.size_alloc] at h
        exact h.grown (drew_grown _ none) (by simp)
      have rC3 : RV (((wr.alloc (.cells #[.int .i64 3, .int .i64 (q : Int), .int .i64 0, .int .i64 0] 73)).alloc (.cells #[] 73)).drew) (some ⟨wr.heap.size, 0, none⟩) 1 4 [.int .i64 3, .int .i64 (q : Int), .int .i64 0, .int .i64 0] := (rv_block (w := wr) (cs := #[.int .i64 3, .int .i64 (q : Int), .int .i64 0, .int .i64 0]) (t := 73) (m := 1) (size := 4) rfl).grown (gb_drew (World.grownBy_alloc _ _ none)) (by simp)
      have P23 : Hid (Below wr.heap.size wr ((wr.alloc (.cells #[] 73)).drew) ∧ Below wr.heap.size wr (((wr.alloc (.cells #[] 73)).alloc (.cells #[.int .i64 3, .int .i64 (q : Int), .int .i64 0, .int .i64 0] 73)).drew) ∧ Below wr.heap.size wr (((wr.alloc (.cells #[.int .i64 3, .int .i64 (q : Int), .int .i64 0, .int .i64 0] 73)).alloc (.cells #[] 73)).drew) ∧ ((wr.alloc (.cells #[] 73)).drew).ownsRow wr.heap.size 73 4 (.slice (some ⟨wr.heap.size, 0, none⟩) 0 0) 0 [] ∧ (((wr.alloc (.cells #[] 73)).alloc (.cells #[.int .i64 3, .int .i64 (q : Int), .int .i64 0, .int .i64 0] 73)).drew).ownsRow wr.heap.size 73 4 (.slice (some ⟨wr.heap.size, 0, none⟩) 0 0) 0 [] ∧ (((wr.alloc (.cells #[.int .i64 3, .int .i64 (q : Int), .int .i64 0, .int .i64 0] 73)).alloc (.cells #[] 73)).drew).ownsRow wr.heap.size 73 4 (.slice (some ⟨wr.heap.size + 1, 0, none⟩) 0 0) 0 [] ∧ RV (((wr.alloc (.cells #[] 73)).alloc (.cells #[.int .i64 3, .int .i64 (q : Int), .int .i64 0, .int .i64 0] 73)).drew) (some ⟨wr.heap.size + 1, 0, none⟩) 1 4 [.int .i64 3, .int .i64 (q : Int), .int .i64 0, .int .i64 0] ∧ RV (((wr.alloc (.cells #[.int .i64 3, .int .i64 (q : Int), .int .i64 0, .int .i64 0] 73)).alloc (.cells #[] 73)).drew) (some ⟨wr.heap.size, 0, none⟩) 1 4 [.int .i64 3, .int .i64 (q : Int), .int .i64 0, .int .i64 0]) := ⟨b1, b2, c2, o1, o2, o3, rC2, rC3⟩
      clear a0 a1 a2 a3 a4 b1 b2 c2 p1 o1 o2 o3 rC2 rC3
      go_cut [24] (fun s24 wx => ∃ aw kw, s24 = .slice aw (m + 1) kw ∧ Hid (ReadsC wx aw (m + 1) (X ++ [⟨3, q, 0, 0⟩] ++ Y)) ∧ Below wr.heap.size wr wx)
      case first =>
        go_region_held3 (fun _ => True) (trivial)
          (first
            | (refine step_append_src (by rfl) (.tmp 138) (.tmp 141) 62 (by rfl) wr.heap.size 73 i0 _ 4 32 Try.underlying62 HI.out.1 HI.out.2.1 HI.out.2.2.1 HI.out.2.2.2 rfl (by decide) (.slice (some ⟨wr.heap.size, 0, none⟩) 0 0) 0 [] ?_ ?_ (some ax) A _ (flat X) (by rfl) ?_ (flat_one _) HD.out.1 HD.out.2.1 ?_ ?_; exact rfl; with_reducible exact P23.out.2.2.2.1; exact HF.out _ P23.out.1; exact P23.out.1.size; intro v1 w1 own1 grow1; have bw1 := P23.out.1.grown grow1 P23.out.1.size (fun j hj => (P23.out.2.2.2.1.lt j hj).1))
            | (refine step_append_src (by rfl) (.tmp 138) (.tmp 141) 62 (by rfl) wr.heap.size 73 i0 _ 4 32 Try.underlying62 HI.out.1 HI.out.2.1 HI.out.2.2.1 HI.out.2.2.2 rfl (by decide) (.slice (some ⟨wr.heap.size, 0, none⟩) 0 0) 0 [] ?_ ?_ (some ax) A _ (flat X) (by rfl) ?_ (flat_one _) HD.out.1 HD.out.2.1 ?_ ?_; exact rfl; with_reducible exact P23.out.2.2.2.2.1; exact HF.out _ P23.out.2.1; exact P23.out.2.1.size; intro v1 w1 own1 grow1; have bw1 := P23.out.2.1.grown grow1 P23.out.2.1.size (fun j hj => (P23.out.2.2.2.2.1.lt j hj).1); have rC1 := P23.out.2.2.2.2.2.2.1.grown grow1 (by intro x hx; cases hx; simp [Value.ownBlock]))
            | (refine step_append_src (by rfl) (.tmp 138) (.tmp 141) 62 (by rfl) wr.heap.size 73 i0 _ 4 32 Try.underlying62 HI.out.1 HI.out.2.1 HI.out.2.2.1 HI.out.2.2.2 rfl (by decide) (.slice (some ⟨wr.heap.size + 1, 0, none⟩) 0 0) 0 [] ?_ ?_ (some ax) A _ (flat X) (by rfl) ?_ (flat_one _) HD.out.1 HD.out.2.1 ?_ ?_; exact rfl; with_reducible exact P23.out.2.2.2.2.2.1; exact HF.out _ P23.out.2.2.1; exact P23.out.2.2.1.size; intro v1 w1 own1 grow1; have bw1 := P23.out.2.2.1.grown grow1 P23.out.2.2.1.size (fun j hj => (P23.out.2.2.2.2.2.1.lt j hj).1); have rC1 := P23.out.2.2.2.2.2.2.2.grown grow1 (by intro x hx; cases hx; simp [Value.ownBlock]))
            | (refine step_append_src (by rfl) (.tmp 142) (.tmp 145) 62 (by rfl) wr.heap.size 73 i0 _ 4 32 Try.underlying62 HI.out.1 HI.out.2.1 HI.out.2.2.1 HI.out.2.2.2 rfl (by decide) v1 (0 + A) ([] ++ flat X) (by rfl) own1 _ 1 _ [.int .i64 3, .int .i64 (q : Int), .int .i64 0, .int .i64 0] (by rfl) rC1 (flat_one [⟨3, (q : Int), 0, 0⟩]) HD.out.2.2.1 HD.out.2.2.2.1 bw1.size ?_; intro v2 w2 own2 grow2; have bw2 := bw1.grown grow2 bw1.size (fun j hj => (own1.lt j hj).1))
            | (refine step_append_src (by rfl) (.tmp 142) (.tmp 145) 62 (by rfl) wr.heap.size 73 i0 _ 4 32 Try.underlying62 HI.out.1 HI.out.2.1 HI.out.2.2.1 HI.out.2.2.2 rfl (by decide) v1 (0 + A) ([] ++ flat X) (by rfl) (own1.alloc _) _ 1 _ [.int .i64 3, .int .i64 (q : Int), .int .i64 0, .int .i64 0] (by rfl) (rv_block (w := w1) (cs := #[.int .i64 3, .int .i64 (q : Int), .int .i64 0, .int .i64 0]) (t := 73) rfl) (flat_one [⟨3, (q : Int), 0, 0⟩]) HD.out.2.2.1 HD.out.2.2.2.1 (bw1.alloc bw1.size _).size ?_; intro v2 w2 own2 grow2; have bw2 := (bw1.alloc bw1.size _).grown grow2 (bw1.alloc bw1.size _).size (fun j hj => (own1.lt j hj).1))
            | (refine step_append_src (by rfl) (.tmp 146) (.tmp 149) 62 (by rfl) wr.heap.size 73 i0 _ 4 32 Try.underlying62 HI.out.1 HI.out.2.1 HI.out.2.2.1 HI.out.2.2.2 rfl (by decide) v2 (0 + A + 1) ([] ++ flat X ++ [.int .i64 3, .int .i64 (q : Int), .int .i64 0, .int .i64 0]) (by rfl) own2 (some (if cap3 = A then ax else ax.add (A * 4))) (m - A) (cap3 - A) (flat Y) ?_ ?_ (flat_one _) HD.out.2.2.2.2.1 HD.out.2.2.2.2.2 bw2.size ?_; exact congrArg (fun z => Value.slice z (m - A) (cap3 - A)) (ite_some cap3 A ax (ax.add (A * 4))); exact HBk.out _ bw2 _ (fun h => if_pos h) (fun h => if_neg h); intro v3 w3 own3 grow3; have bw3 := bw2.grown grow3 bw2.size (fun j hj => (own2.lt j hj).1)))
        all_goals generalize (if cap3 = A then some ax else some (ax.add (A * 4))) = oo
        all_goals go_wp2
        all_goals go_meet
        all_goals
          obtain ⟨aw, kw, rfl, hrw⟩ := with_meet own3 hA (fun c h => HXY.out c (Or.inl h)) (fun c h => HXY.out c (Or.inr h)) (by have := PX.out.2.2.2.2.2.2.2.2.2.2.2; omega)
          exact ⟨aw, kw, rfl, hrw, bw3⟩
      case rest =>
      obtain ⟨aw, kw, rfl, HRW, bwx⟩ := hcut
      obtain ⟨rb, hbl, rc, rl, hNl, hE, hrun, hst, gr, bwr, hne, hl, hm32, hmcap, hq, hsl, hmc, hNm, hq5⟩ := PX.out
      have gx : w0.grownBy wc none := grownBy_trans gr (grown_of bwx none)
      have bx : Below w.heap.size w wc := below_trans bwr bwx
      have rbx := rb.below bwx
      have rlx := rl.below bwx
      have rwx := HRW.out
      have k0 : Below wc.heap.size wc wc.drew := (Below.refl _ _).drew
      have e1 : chkI (chk p (start clean p bs) (lessOf outs 0 (cs.take m))) = -1 := by rw [hst]; exact less_chk hrun
      have e2 : chkI (chk p (start clean p bs) (X ++ [⟨3, q, 0, 0⟩] ++ Y)) = -1 := by
        rw [hst, ← HXe.out.1, ← HXe.out.2]
        exact with_chk hrun hA hmc hLA (by omega) hne
      have hN32 : N * 32 ≤ 140737488355264 := by omega
      have hN9 : N ≤ 140737488355000 := by omega
      have hM32 : (m + 1) * 32 ≤ 140737488355264 := by omega
      have hM9 : m + 1 ≤ 140737488355000 := by omega
      have PZ : Hid (ReadsB wc a1 len bs ∧ ReadsC wc al N (lessOf outs 0 (cs.take m)) ∧ ReadsC wc aw (m + 1) (X ++ [⟨3, q, 0, 0⟩] ++ Y) ∧ N * 32 ≤ 140737488355264 ∧ N ≤ 140737488355000 ∧ (m + 1) * 32 ≤ 140737488355264 ∧ m + 1 ≤ 140737488355000 ∧ len ≤ 140737488351232 ∧ newE b p s len = 0 ∧ bs.length = len ∧ (lessOf outs 0 (cs.take m)).length = N) := ⟨rbx, rlx, rwx, hN32, hN9, hM32, hM9, hl, hE, hbl, hNl⟩
      have E1 : Hid _ := e1
      have E2 : Hid _ := e2
      obtain ⟨c0, c1, c2⟩ := HS.out _ gx
      clear rb rc rl hrun hst gr bwr hne hm32 hmcap hq hsl hmc hNm hq5 rbx rlx rwx e1 e2 hN32 hN9 hM32 hM9 hl hE hbl hNl PX HF HBk HXY HXe HD P23 HRW HI hLA hA hA1 hA2
      go_upto_region 24 with fail
      go_region_held3 (fun x => w0.grownBy x none ∧ x.cell? ⟨w.heap.size, 0, none⟩ = some (.int .i64 b) ∧ x.cell? ⟨w.heap.size, 1, none⟩ = some (.int .i64 p) ∧ x.cell? ⟨w.heap.size, 2, none⟩ = some (.int .i64 s))
        ((refine (fun hx => ⟨hx, HS.out _ hx⟩) ?_; first | exact gb_drew gx | exact g4 | exact g3 | exact g2))
        (first
          | (go_at_call 23; refine (marks_any _ _ _ bs _ PZ.out.2.2.2.2.2.2.2.1 ?_).mono ?_; exact PZ.out.1.below k0; rintro e y2 ⟨gm, cm, rfl, hcm, ownm, belm⟩; have g2 := grownBy_trans (gb_drew gx) (grown_of belm none); have k2 := below_trans k0 belm; have rm2 := marksR PZ.out.2.2.2.2.2.2.2.2.2.1 ownm)
          | (go_at_call 24; refine (trace_any _ _ _ (lessOf outs 0 (cs.take m)) _ PZ.out.2.2.2.1 ?_).mono ?_; exact PZ.out.2.1.below k2; rintro e y3 ⟨gt, ct, rfl, hct, ownt, belt⟩; have g3 := grownBy_trans g2 (grown_of belt none); have k3 := below_trans k2 belt; have rm3 := rm2.below belt; have rt3 := traceR PZ.out.2.2.2.2.2.2.2.2.2.2 PZ.out.2.1.2.1 ownt)
          | (go_at_call 22; refine (check_ok b p s _ _ _ _ _ _ bs (lessOf outs 0 (cs.take m)) _ _ PZ.out.2.2.2.2.2.2.2.2.1 rm3 rt3 PZ.out.2.2.2.2.1).mono ?_; rintro e y4 ⟨rfl, belk⟩; rw [E1.out]; have g4 := grownBy_trans g3 (grown_of belk none); have k4 := below_trans k3 belk; clear ownm ownt rm2 rm3 rt3 g2 g3 k2 k3 belm belt))
      obtain ⟨d0, d1, d2⟩ := HS.out _ g4
      have k5 : Below wc.heap.size wc y4.drew := k4.drew
      go_upto_region 25 with fail
      go_region_held3 (fun x => w0.grownBy x none ∧ x.cell? ⟨w.heap.size, 0, none⟩ = some (.int .i64 b) ∧ x.cell? ⟨w.heap.size, 1, none⟩ = some (.int .i64 p) ∧ x.cell? ⟨w.heap.size, 2, none⟩ = some (.int .i64 s))
        ((refine (fun hx => ⟨hx, HS.out _ hx⟩) ?_; first | exact gb_drew g4 | exact g8 | exact g7 | exact g6))
        (first
          | (go_at_call 23; refine (marks_any _ _ _ bs _ PZ.out.2.2.2.2.2.2.2.1 ?_).mono ?_; exact PZ.out.1.below k5; rintro e z2 ⟨gm6, cm6, rfl, hcm6, ownm6, belm6⟩; have g6 := grownBy_trans (gb_drew g4) (grown_of belm6 none); have k6 := below_trans k5 belm6; have rm6 := marksR PZ.out.2.2.2.2.2.2.2.2.2.1 ownm6)
          | (go_at_call 24; refine (trace_any _ _ _ (X ++ [⟨3, q, 0, 0⟩] ++ Y) _ PZ.out.2.2.2.2.2.1 ?_).mono ?_; exact PZ.out.2.2.1.below k6; rintro e z3 ⟨gt7, ct7, rfl, hct7, ownt7, belt7⟩; have g7 := grownBy_trans g6 (grown_of belt7 none); have k7 := below_trans k6 belt7; have rm7 := rm6.below belt7; have rt7 := traceR PZ.out.2.2.1.1 PZ.out.2.2.1.2.1 ownt7)
          | (go_at_call 22; refine (check_ok b p s _ _ _ _ _ _ bs (X ++ [⟨3, q, 0, 0⟩] ++ Y) _ _ PZ.out.2.2.2.2.2.2.2.2.1 rm7 rt7 PZ.out.2.2.2.2.2.2.1).mono ?_; rintro e z4 ⟨rfl, belk8⟩; rw [E2.out]; have g8 := grownBy_trans g7 (grown_of belk8 none); have k8 := below_trans k7 belk8))
      go_wp2
      go_ret
      exact ⟨rfl, below_trans bx k8⟩
end Go.Proofs.Ytejonebnmeinhab
