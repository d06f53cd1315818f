/-
  SEAT Ytejonebnmeinhab: JudgeTurns, its walk of what may be.
-/
import Derived.Test.YtejonebnmeinhabTurnsW
namespace Go.Proofs.Ytejonebnmeinhab
open Go.RowKit
set_option linter.unusedVariables false

theorem mark_ok (b : Int) (h : -9223372036854775808 ≤ b ∧ b ≤ 9223372036854775807) : (Cmd.mk 3 b 0 0).Ok := by
  refine ⟨?_, h, ?_, ?_⟩ <;> (unfold Wf; simp only; omega)

set_option maxHeartbeats 4000000 in
set_option maxRecDepth 100000 in
theorem turns_ok (b p s : Int) (a1 a3 a4 : Option Addr) (len cap n cap3 n4 cap4 : Nat) (bs : List Bool) (cs os : List Cmd) (clean : Bool) (w : World) (hb : ReadsB w a1 len bs) (hl : len ≤ 140737488351232) (hc : ReadsC w a3 n cs) (hn : n * 32 ≤ 140737488355264) (ho : ReadsC w a4 n4 os) (hn4 : n4 * 32 ≤ 140737488355264) (hE : newE b p s len = 0) :
    Calls Try.prog 4 #[.agg #[.int .i64 b, .int .i64 p, .int .i64 s], .slice a1 len cap, .bool clean, .slice a3 n cap3, .slice a4 n4 cap4] w fun e w' => e = .returned (.bool true) ∧ Below w.heap.size w w' := by
  have hb0 : Below w.heap.size w (w.alloc (.cells #[.int .i64 b, .int .i64 p, .int .i64 s] 23)) := (Below.refl _ _).alloc (Nat.le_refl _) _
  obtain ⟨w0, hw0⟩ : ∃ w0, w0 = w.alloc (.cells #[.int .i64 b, .int .i64 p, .int .i64 s] 23) := ⟨_, rfl⟩
  have hS : ∀ x, w0.grownBy x none → x.cell? ⟨w.heap.size, 0, none⟩ = some (.int .i64 b) ∧ x.cell? ⟨w.heap.size, 1, none⟩ = some (.int .i64 p) ∧ x.cell? ⟨w.heap.size, 2, none⟩ = some (.int .i64 s) := fun x hx => box_cells (by rw [hw0] at hx; exact hx)
  have hz0 : w0.heap.size = w.heap.size + 1 := by rw [hw0]; simp
  rw [← hw0] at hb0
  have hlen := hb.1
  have hclen := hc.1
  have hf : Fits b p s = true := by
    cases hf : Fits b p s with
    | true => rfl
    | false => simp [newE, hf] at hE
  have hbd := fits_b hf
  have hlb : (len : Int) = b := by
    by_cases hb : (len : Int) = b
    · exact hb
    · simp [newE, hf, hb] at hE
  have hp : 4 ≤ p ∧ p ≤ 256 := ⟨hbd.2.2.1, hbd.2.2.2⟩
  have hl2 : len ≤ 140737488355000 := by omega
  have hn2 : n ≤ 140737488355000 := by omega
  obtain ⟨st, hst⟩ : ∃ st, start clean p bs = st := ⟨_, rfl⟩
  obtain ⟨st2, hst2⟩ : ∃ st, start (!clean) p bs = st := ⟨_, rfl⟩
  have hsl : st.length = len := by rw [← hst, start_length]; exact hlen
  have hsl2 : st2.length = len := by rw [← hst2, start_length]; exact hlen
  obtain ⟨R, hR⟩ : ∃ R, chkI (chk p st cs) = R := ⟨_, rfl⟩
  go_enter Try.func4, Try.ntmps4
  go_wp2_with (first
    | (go_at_call 21; refine (rnew_any b p s _ _ _ _ hl2).mono ?_; rintro e u1 ⟨rfl, bel1⟩; rw [hE]; rw [← hw0] at bel1; have g1 := grown_of bel1 none; have bw1 := below_trans hb0 bel1; obtain ⟨c0, c1, c2⟩ := hS _ g1))
  go_region_held3 (fun x => w0.grownBy x none ∧ x.cell? ⟨w.heap.size, 0, none⟩ = some (.int .i64 b) ∧ x.cell? ⟨w.heap.size, 1, none⟩ = some (.int .i64 p) ∧ x.cell? ⟨w.heap.size, 2, none⟩ = some (.int .i64 s))
    ((refine (fun hx => ⟨hx, hS _ hx⟩) ?_; first | exact gb_drew g1 | exact g4 | exact g3 | exact g2))
    (first
      | (go_at_call 23; refine (marks_any _ _ _ bs _ hl ?_).mono ?_; exact hb.below bw1.drew; rintro e u2 ⟨gm, cm, rfl, hcm, ownm, belm⟩; have g2 := grownBy_trans (gb_drew g1) (grown_of belm none); have bw2 := below_trans bw1.drew belm; have rm2 := marksR hlen ownm)
      | (go_at_call 24; refine (trace_any _ _ _ cs _ hn ?_).mono ?_; exact hc.below bw2; rintro e u3 ⟨gt, ct, rfl, hct, ownt, belt⟩; have g3 := grownBy_trans g2 (grown_of belt none); have bw3 := below_trans bw2 belt; have rm3 := rm2.below belt; have rt3 := traceR hclen hc.2.1 ownt)
      | (go_at_call 22; refine (check_ok b p s _ _ _ _ _ _ bs cs _ _ hE rm3 rt3 hn2).mono ?_; rintro e u4 ⟨rfl, belk⟩; rw [hst, hR]; have g4 := grownBy_trans g3 (grown_of belk none); have bw4 := below_trans bw3 belk))
  go_wp2
  go_region_held3 (fun x => w0.grownBy x none ∧ x.cell? ⟨w.heap.size, 0, none⟩ = some (.int .i64 b) ∧ x.cell? ⟨w.heap.size, 1, none⟩ = some (.int .i64 p) ∧ x.cell? ⟨w.heap.size, 2, none⟩ = some (.int .i64 s))
    ((refine (fun hx => ⟨hx, hS _ hx⟩) ?_; first | exact gb_drew g4 | exact g6 | exact g5))
    (first
      | (go_at_call 23; refine (marks_any _ _ _ bs _ hl ?_).mono ?_; exact hb.below bw4.drew; rintro e u5 ⟨gm5, cm5, rfl, hcm5, ownm5, belm5⟩; have g5 := grownBy_trans (gb_drew g4) (grown_of belm5 none); have bw5 := below_trans bw4.drew belm5; have rm5 := marksR hlen ownm5)
      | (go_at_call 25; refine (new_ok b p s _ _ _ bs _ _ hE rm5).mono ?_; rintro e u6 ⟨ga, ma, rfl, JA, belk6, la, lma⟩; rw [hst] at JA; have g6 := grownBy_trans g5 (grown_of belk6 none); have bw6 := below_trans bw5 belk6))
  go_wp2
  go_region_held3 (fun x => w0.grownBy x none ∧ x.cell? ⟨w.heap.size, 0, none⟩ = some (.int .i64 b) ∧ x.cell? ⟨w.heap.size, 1, none⟩ = some (.int .i64 p) ∧ x.cell? ⟨w.heap.size, 2, none⟩ = some (.int .i64 s))
    ((refine (fun hx => ⟨hx, hS _ hx⟩) ?_; first | exact gb_drew g6 | exact g8 | exact g7))
    (first
      | (go_at_call 23; refine (marks_any _ _ _ bs _ hl ?_).mono ?_; exact hb.below bw6.drew; rintro e u7 ⟨gm7, cm7, rfl, hcm7, ownm7, belm7⟩; have g7 := grownBy_trans (gb_drew g6) (grown_of belm7 none); have bw7 := below_trans bw6.drew belm7; have rm7 := marksR hlen ownm7)
      | (go_at_call 25; refine (new_ok b p s _ _ _ bs _ _ hE rm7).mono ?_; rintro e u8 ⟨gb, mb, rfl, JB, belk8, lb, lmb⟩; rw [hst2] at JB; have g8 := grownBy_trans g7 (grown_of belk8 none); have bw8 := below_trans bw7 belk8; have g68 := grownBy_trans (gb_drew (World.grownBy.refl u6 none)) (grownBy_trans (grown_of belm7 none) (grown_of belk8 none)); have JA8 := JA.grown g68))
  go_wp2
  have za : ga < u6.heap.size := block_lt_of_cell JA.c0
  have zma : ma < u6.heap.size := JA.knows.lt
  have z7 := belm7.size
  have zd : u6.drew.heap.size = u6.heap.size := rfl
  have z1 := g5.size
  have ne1 : ga ≠ mb := by omega
  have ne2 : ma ≠ mb := by omega
  have ne3 : gb ≠ ma := by omega
  have ne4 : mb ≠ ma := by omega
  have zw : w.heap.size < ma := by omega
  have zw2 : w.heap.size < mb := by omega
  have hR' : Hid (chkI (chk p st cs) = R) := hR
  have bw8' := bw8
  have hbx0 := (hS _ g8).1
  clear hS hw0 hb0 bw8 g8 c0 c1 c2 hE hf hz0 z7 zd z1 za zma la lma lb lmb hR ownm ownt ownm5 ownm7 rm2 rm3 rt3 rm5 rm7 g1 g2 g3 g4 g5 g6 g7 bw1 bw2 bw3 bw4 bw5 bw6 bw7 bel1 belm belt belk belm5 belk6 belm7 belk8 JA g68
  go_loopw [18, 19] (fun v i wr => ∃ (k : Nat) (f : Int) (sa sb : List Blk), k ≤ n ∧ i = .int .i64 k ∧ v = .int .i64 f ∧ Hid (f = chkI (chk p st (cs.take k)) ∧ (f < 0 → runs p st (cs.take k) = some sa)) ∧ sa.length = len ∧ sb.length = len ∧ JudgeAt wr ga b p s ma sa ∧ JudgeAt wr gb b p s mb sb ∧ Below w.heap.size w wr ∧ wr.cell? ⟨w.heap.size, 0, none⟩ = some (.int .i64 b) ∧ -1 ≤ f ∧ f ≤ k)
    (fun _ i _ => n - (intOf i).toNat)
  case atStart => exact ⟨0, -1, st, st2, Nat.zero_le _, rfl, rfl, ⟨rfl, fun _ => rfl⟩, hsl, hsl2, JA8, JB, bw8', hbx0, by omega, by omega⟩
  case round =>
    clear JA8 JB bw8' hbx0 hst hst2
    obtain ⟨k, f, sa, sb, hk, rfl, rfl, hff, hsa, hsb, JAr, JBr, bel, hbx, f0, f1⟩ := hrel
    by_cases hlt : k < n
    · obtain ⟨g, off, rfl, hg, hcell⟩ := hc.pos (by omega)
      obtain ⟨c, hcd⟩ : ∃ c, c = cs.getD k Cmd.none := ⟨_, rfl⟩
      have hX : ∀ v, Below w.heap.size w v → v.cell? ⟨g, off + k * 4, none⟩ = some (.int .i64 c.k) ∧ v.cell? ⟨g, off + k * 4 + 1, none⟩ = some (.int .i64 c.b) ∧ v.cell? ⟨g, off + k * 4 + 2, none⟩ = some (.int .i64 c.p) ∧ v.cell? ⟨g, off + k * 4 + 3, none⟩ = some (.int .i64 c.s) := fun v hv => by
        obtain ⟨x0, x1, x2, x3⟩ := hcell k hlt
        rw [← hcd] at x0 x1 x2 x3
        exact ⟨(hv.cell hg).trans x0, (hv.cell hg).trans x1, (hv.cell hg).trans x2, (hv.cell hg).trans x3⟩
      have hok : c.Ok := by rw [hcd]; exact okAt hc.2.1 k (by omega)
      have hget : cs[k]? = some c := by rw [hcd]; exact getC (by omega)
      have hstep := first_step hget hff.out.1 hff.out.2
      clear hcd hget hcell
      obtain ⟨ck, cb, cp, cq⟩ := c
      obtain ⟨x0, x1, x2, x3⟩ := hX _ bel
      by_cases hlt4 : k < n4
      · obtain ⟨g', off', rfl, hg', hcell'⟩ := ho.pos (by omega)
        obtain ⟨o, hod⟩ : ∃ o, o = os.getD k Cmd.none := ⟨_, rfl⟩
        obtain ⟨z0, z1, z2, z3⟩ := hcell' k hlt4
        rw [← hod] at z0 z1 z2 z3
        have oko : o.Ok := by rw [hod]; exact okAt ho.2.1 k (by have := ho.1; omega)
        replace z0 := (bel.cell (p := ⟨g', off' + k * 4, none⟩) hg').trans z0
        replace z1 := (bel.cell (p := ⟨g', off' + k * 4 + 1, none⟩) hg').trans z1
        replace z2 := (bel.cell (p := ⟨g', off' + k * 4 + 2, none⟩) hg').trans z2
        replace z3 := (bel.cell (p := ⟨g', off' + k * 4 + 3, none⟩) hg').trans z3
        clear hod hcell'
        obtain ⟨ok, ob, op, oq⟩ := o
        have hsal : sa.length < 100000 := by omega
        have hsbl : sb.length < 100000 := by omega
        clear hc ho hb hbd hlb hn hn4 hl hclen hlen hsl hsl2
        cases hs : see p sa ⟨ck, cb, cp, cq⟩ with
        | none =>
          by_cases hneg : f < 0
          · have hst3 : Hid ((k : Int) = chkI (chk p st (cs.take (k + 1))) ∧ ((k : Int) < 0 → runs p st (cs.take (k + 1)) = some sa)) := ⟨(hstep.1 hs hneg).symm, fun h => by omega⟩
            clear hstep hff
            go_wp2_with (first | (go_at_call 26; refine (see_x _ mb b p s sb _ _ _ _ _ ?_ ?_ hp ?_).mono ?_; exact JBr; exact oko; exact hsbl; rintro e v1 ⟨rfl, JB2, gB⟩; have JA2 := JAr.far gB ne1 ne2; have belB := bel.grown gB bel.size (fun j hj => by cases hj; exact Nat.le_of_lt zw2); obtain ⟨y0, y1, y2, y3⟩ := hX _ belB; clear hX; have hbx2 := gB.cell hbx (by simp; omega)) | (go_at_call 26; refine (see_x _ ma b p s sa _ _ _ _ _ ?_ ?_ hp ?_).mono ?_; exact JA2; exact hok; exact hsal; rintro e v2 ⟨rfl, JA3, gA⟩; rw [hs] at JA3 ⊢; have JB3 := JB2.far gA ne3 ne4; have belA := belB.grown gA belB.size (fun j hj => by cases hj; exact Nat.le_of_lt zw); have hbx3 := gA.cell hbx2 (by simp; omega)))
            go_roundw
            case rel => exact ⟨k + 1, k, sa, _, by omega, by go_num, rfl, hst3, hsa, getD_len hsb, JA3, JB3, belA, hbx3, by omega, by omega⟩
            case measure => simp [intOf]; omega
          · have hst3 : Hid (f = chkI (chk p st (cs.take (k + 1))) ∧ (f < 0 → runs p st (cs.take (k + 1)) = some sa)) := ⟨(hstep.2.1 (by omega)).symm, fun h => by omega⟩
            clear hstep hff
            go_wp2_with (first | (go_at_call 26; refine (see_x _ mb b p s sb _ _ _ _ _ ?_ ?_ hp ?_).mono ?_; exact JBr; exact oko; exact hsbl; rintro e v1 ⟨rfl, JB2, gB⟩; have JA2 := JAr.far gB ne1 ne2; have belB := bel.grown gB bel.size (fun j hj => by cases hj; exact Nat.le_of_lt zw2); obtain ⟨y0, y1, y2, y3⟩ := hX _ belB; clear hX; have hbx2 := gB.cell hbx (by simp; omega)) | (go_at_call 26; refine (see_x _ ma b p s sa _ _ _ _ _ ?_ ?_ hp ?_).mono ?_; exact JA2; exact hok; exact hsal; rintro e v2 ⟨rfl, JA3, gA⟩; rw [hs] at JA3 ⊢; have JB3 := JB2.far gA ne3 ne4; have belA := belB.grown gA belB.size (fun j hj => by cases hj; exact Nat.le_of_lt zw); have hbx3 := gA.cell hbx2 (by simp; omega)))
            go_roundw
            case rel => exact ⟨k + 1, f, sa, _, by omega, by go_num, rfl, hst3, hsa, getD_len hsb, JA3, JB3, belA, hbx3, by omega, by omega⟩
            case measure => simp [intOf]; omega
        | some sa2 =>
          have hst3 : Hid (f = chkI (chk p st (cs.take (k + 1))) ∧ (f < 0 → runs p st (cs.take (k + 1)) = some sa2)) := by
            refine ⟨?_, fun h => (hstep.2.2 sa2 hs h).2⟩
            by_cases hneg : f < 0
            · exact (hstep.2.2 sa2 hs hneg).1.symm
            · exact (hstep.2.1 (by omega)).symm
          have hsa2 : sa2.length = len := (see_length hs).trans hsa
          clear hstep hff
          go_wp2_with (first | (go_at_call 26; refine (see_x _ mb b p s sb _ _ _ _ _ ?_ ?_ hp ?_).mono ?_; exact JBr; exact oko; exact hsbl; rintro e v1 ⟨rfl, JB2, gB⟩; have JA2 := JAr.far gB ne1 ne2; have belB := bel.grown gB bel.size (fun j hj => by cases hj; exact Nat.le_of_lt zw2); obtain ⟨y0, y1, y2, y3⟩ := hX _ belB; clear hX; have hbx2 := gB.cell hbx (by simp; omega)) | (go_at_call 26; refine (see_x _ ma b p s sa _ _ _ _ _ ?_ ?_ hp ?_).mono ?_; exact JA2; exact hok; exact hsal; rintro e v2 ⟨rfl, JA3, gA⟩; rw [hs] at JA3 ⊢; have JB3 := JB2.far gA ne3 ne4; have belA := belB.grown gA belB.size (fun j hj => by cases hj; exact Nat.le_of_lt zw); have hbx3 := gA.cell hbx2 (by simp; omega)))
          go_roundw
          case rel => exact ⟨k + 1, f, sa2, _, by omega, by go_num, rfl, hst3, hsa2, getD_len hsb, JA3, JB3, belA, hbx3, by omega, by omega⟩
          case measure => simp [intOf]; omega
      · have hsal : sa.length < 100000 := by omega
        clear hX hc ho hb hbd hlb hn hn4 hl hclen hlen hsl hsl2
        cases hs : see p sa ⟨ck, cb, cp, cq⟩ with
        | none =>
          by_cases hneg : f < 0
          · have hst3 : Hid ((k : Int) = chkI (chk p st (cs.take (k + 1))) ∧ ((k : Int) < 0 → runs p st (cs.take (k + 1)) = some sa)) := ⟨(hstep.1 hs hneg).symm, fun h => by omega⟩
            clear hstep hff
            go_wp2_with (first | (go_at_call 26; refine (see_x _ ma b p s sa _ _ _ _ _ ?_ ?_ hp ?_).mono ?_; exact JAr; exact hok; exact hsal; rintro e v2 ⟨rfl, JA3, gA⟩; rw [hs] at JA3 ⊢; have JB3 := JBr.far gA ne3 ne4; have belA := bel.grown gA bel.size (fun j hj => by cases hj; exact Nat.le_of_lt zw); have hbx3 := gA.cell hbx (by simp; omega)))
            go_roundw
            case rel => exact ⟨k + 1, k, sa, _, by omega, by go_num, rfl, hst3, hsa, hsb, JA3, JB3, belA, hbx3, by omega, by omega⟩
            case measure => simp [intOf]; omega
          · have hst3 : Hid (f = chkI (chk p st (cs.take (k + 1))) ∧ (f < 0 → runs p st (cs.take (k + 1)) = some sa)) := ⟨(hstep.2.1 (by omega)).symm, fun h => by omega⟩
            clear hstep hff
            go_wp2_with (first | (go_at_call 26; refine (see_x _ ma b p s sa _ _ _ _ _ ?_ ?_ hp ?_).mono ?_; exact JAr; exact hok; exact hsal; rintro e v2 ⟨rfl, JA3, gA⟩; rw [hs] at JA3 ⊢; have JB3 := JBr.far gA ne3 ne4; have belA := bel.grown gA bel.size (fun j hj => by cases hj; exact Nat.le_of_lt zw); have hbx3 := gA.cell hbx (by simp; omega)))
            go_roundw
            case rel => exact ⟨k + 1, f, sa, _, by omega, by go_num, rfl, hst3, hsa, hsb, JA3, JB3, belA, hbx3, by omega, by omega⟩
            case measure => simp [intOf]; omega
        | some sa2 =>
          have hst3 : Hid (f = chkI (chk p st (cs.take (k + 1))) ∧ (f < 0 → runs p st (cs.take (k + 1)) = some sa2)) := by
            refine ⟨?_, fun h => (hstep.2.2 sa2 hs h).2⟩
            by_cases hneg : f < 0
            · exact (hstep.2.2 sa2 hs hneg).1.symm
            · exact (hstep.2.1 (by omega)).symm
          have hsa2 : sa2.length = len := (see_length hs).trans hsa
          clear hstep hff
          go_wp2_with (first | (go_at_call 26; refine (see_x _ ma b p s sa _ _ _ _ _ ?_ ?_ hp ?_).mono ?_; exact JAr; exact hok; exact hsal; rintro e v2 ⟨rfl, JA3, gA⟩; rw [hs] at JA3 ⊢; have JB3 := JBr.far gA ne3 ne4; have belA := bel.grown gA bel.size (fun j hj => by cases hj; exact Nat.le_of_lt zw); have hbx3 := gA.cell hbx (by simp; omega)))
          go_roundw
          case rel => exact ⟨k + 1, f, sa2, _, by omega, by go_num, rfl, hst3, hsa2, hsb, JA3, JB3, belA, hbx3, by omega, by omega⟩
          case measure => simp [intOf]; omega
    · have hkl : k = n := by omega
      subst hkl
      have hfin := hff.out.1
      rw [List.take_of_length_le (by omega), hR'.out] at hfin
      subst hfin
      have hm0 : (see p sa ⟨3, 0, 0, 0⟩).isSome = true := see_mark0 (by omega)
      obtain ⟨sa2, hs2⟩ : ∃ sa2, see p sa ⟨3, 0, 0, 0⟩ = some sa2 := Option.isSome_iff_exists.1 hm0
      have hl3 : sa2.length = len := (see_length hs2).trans hsa
      have hs3 : see p sa2 ⟨3, b, 0, 0⟩ = none := see_out b (by rw [hl3]; exact hlb)
      have ok3 := mark_ok 0 (by omega)
      have ok4 := mark_ok b (by omega)
      have hsal : sa.length < 100000 := by omega
      have hsal2 : sa2.length < 100000 := by omega
      clear hm0 hl3 hsa hsb hff JBr hbd hlb hc ho hb hsl hsl2 hclen hlen hn hn4 hl
      go_wp2_with (first
        | (go_at_call 26; refine (see_x _ ma b p s sa _ _ _ _ _ ?_ ?_ hp ?_).mono ?_; exact JAr; exact ok3; exact hsal; rintro e v1 ⟨rfl, JA2, gA⟩; rw [hs2] at JA2 ⊢; have hbx2 := gA.cell hbx (by simp; omega); have belA := bel.grown gA bel.size (fun j hj => by cases hj; exact Nat.le_of_lt zw))
        | (go_at_call 26; refine (see_x _ ma b p s sa2 _ _ _ _ _ ?_ ?_ hp ?_).mono ?_; exact JA2; exact ok4; exact hsal2; rintro e v2 ⟨rfl, JA3, gA3⟩; rw [hs3]; have belB := belA.grown gA3 belA.size (fun j hj => by cases hj; exact Nat.le_of_lt zw)))
      go_ret
      exact ⟨rfl, belB⟩

theorem turns_walk (b p s : Int) (a1 : Option Addr) (len cap : Nat) (bs : List Bool) (clean : Bool) (a3 : Option Addr) (n cap3 : Nat) (cs : List Cmd) (a4 : Option Addr) (n4 cap4 : Nat) (os : List Cmd) (w : World) (wb : Wf b) (wp : Wf p) (ws : Wf s) (hb : ReadsB w a1 len bs) (hl : len ≤ 140737488351232) (hc : ReadsC w a3 n cs) (hn : n * 32 ≤ 140737488351232) (ho : ReadsC w a4 n4 os) (hn4 : n4 * 32 ≤ 140737488351232) :
    Calls Try.prog 4 #[.agg #[.int .i64 b, .int .i64 p, .int .i64 s], .slice a1 len cap, .bool clean, .slice a3 n cap3, .slice a4 n4 cap4] w fun e w' => e = .returned (.bool true) ∧ Below w.heap.size w w' := by
  by_cases hE : newE b p s len = 0
  · exact turns_ok b p s a1 a3 a4 len cap n cap3 n4 cap4 bs cs os clean w hb hl hc (by omega) ho (by omega) hE
  · exact turns_bad b p s a1 a3 a4 len cap n cap3 n4 cap4 bs cs clean w hb hl hc (by omega) hE
end Go.Proofs.Ytejonebnmeinhab
