/-
  SEAT YtmbdacdgbmpedaaDoor: path's Walk.
-/
import Derived.Test.YtmbdacdgbmpedaaDoorWf
namespace Go.Proofs.YtmbdacdgbmpedaaDoor
open Go.RowKit
set_option linter.unusedVariables false

set_option maxHeartbeats 4000000 in
set_option maxRecDepth 100000 in
theorem pwalk_any (a0 a1 a2 a3 : Option Addr) (n0 n1 n2 n3 c0 c1 c2 c3 : Nat) (T : Tr) (s : ByteArray) (last : Bool) (B gg gt : Nat) (v : Value) (w : World)
    (hT : ∀ u, Below B w u → TrOn u a0 a1 a2 a3 n0 n1 n2 n3 T) (hG : Got w B gg v []) (hgt : ∀ u, Below B w u → u.heap[gt]? = some (.cells #[.slice a0 n0 c0, .slice a1 n1 c1, .slice a2 n2 c2, .slice a3 n3 c3] 35 (0, 0))) (hBw : B ≤ w.heap.size)
    (hs : s.size ≤ 9223372036854775807) (hlk : ∀ x ∈ T.lnk, x.size ≤ 9223372036854775000) :
    Calls Tryd.prog 13 #[.int .i64 0, .string s, .bool last, .func (.func 14) #[] #[.pointer (some ⟨gg, 0, none⟩), .pointer (some ⟨gt, 0, none⟩)]] w fun e w' => e = .returned (.tuple #[.int .i64 (resW T s last).at', .int .i64 (resW T s last).e]) ∧ (∃ v', Got w' B gg v' (resW T s last).asked) ∧ Below B w w' := by
  have HT : Hid (∀ u, Below B w u → TrOn u a0 a1 a2 a3 n0 n1 n2 n3 T) := hT
  have HGT : Hid (∀ u, Below B w u → u.heap[gt]? = some (.cells #[.slice a0 n0 c0, .slice a1 n1 c1, .slice a2 n2 c2, .slice a3 n3 c3] 35 (0, 0))) := hgt
  have HG0 : Hid (Got w B gg v []) := hG
  have HLK : Hid (∀ p x, (stepF T p x).link.size ≤ 9223372036854775000) := fun p x => step_link hlk p x
  clear hT hgt hG hlk
  obtain ⟨E, hE⟩ : ∃ E, spE s = E := ⟨_, rfl⟩
  by_cases h0 : E = 0
  · subst h0
    have hR : resW T s last = walkR (stepF T) last 1000 (spN s) 0 0 := by simp [resW, hE]
    have hlen : (spN s).length ≤ 64 := by have := sp_facts hE; rw [this.2.2.2.2.2]; exact this.2.2.2.1
    obtain ⟨N, hN⟩ : ∃ N, spN s = N := ⟨_, rfl⟩
    rw [hN] at hR hlen
    obtain ⟨R, hRR⟩ : ∃ R, resW T s last = R := ⟨_, rfl⟩
    rw [hRR] at hR ⊢
    have HW0 : Hid (Wk (stepF T) last R N 0 0 [] 1000) := by rw [hR]; exact Wk.start _ _ _ hlen
    have HRl : Hid (R.asked.length ≤ 1000) := by rw [hR]; exact walk_small _ _ _
    clear hR hRR hlen
    go_enter Tryd.func13, Tryd.ntmps13
    go_wp2_with (go_at_call 9; refine (psplit_any _ _ hs).mono ?_; rintro e u ⟨v1, rfl, ow, bel⟩; rw [hE]; rw [hN] at ow; have F1 : Hid (Fa u v1 N gg v) := Fa.fresh ow HG0.out; have G1 : Hid (Got u B gg v []) := HG0.out.below bel; have B1 : Hid (Below B w u) := bel.mono hBw; obtain ⟨aa, cc, rfl, _⟩ := ow.rd; clear ow bel)
    go_loopw [11, 13, 14] (fun cv av lv wr => ∃ (n : Nat) (to : List ByteArray) (p : Int) (k : Nat) (pre : List (Int × ByteArray)) (va : Value), Hid (Wk (stepF T) last R to p k pre n) ∧ Hid (Fa wr cv to gg va) ∧ Hid (Got wr B gg va pre) ∧ Hid (Below B w wr) ∧ av = .int .i64 p ∧ lv = .int .i64 k) (fun cv _ lv _ => (8 - (intOf lv).toNat) * 65 + lenV cv)
    case atStart => exact ⟨1000, N, 0, 0, [], v, HW0, F1, G1, B1, rfl, rfl⟩
    case round =>
      obtain ⟨n, to, p, k, pre, va, HW, HF, HG, HB, rfl, rfl⟩ := hrel
      clear HW0 F1 G1 B1 HG0 hE hN
      have hk8 : k ≤ 8 := HW.out.k8
      have hBr : B ≤ wr.heap.size := Nat.le_trans hBw HB.out.size
      have hpl : pre.length ≤ 1000000 := by have := HW.out.pre_len HRl.out; omega
      obtain ⟨a, c, hcv, h1, h2, rd, hx⟩ := HF.out.vw
      subst hcv
      cases to with
      | nil =>
        have HR : Hid (R = ⟨p, pre, 0⟩) := HW.out.done
        simp only [List.length_nil] at *
        clear rd hx
        go_wp2
        go_ret2
        exact ⟨by rw [HR.out]; rfl, ⟨_, by rw [HR.out]; exact HG.out⟩, HB.out⟩
      | cons x r =>
        cases a with
        | none => have := rd.nil rfl; simp at this
        | some x0 =>
          obtain ⟨b, o', rfl⟩ := hx x0 rfl
          have hc := rd.cell _ rfl 0 x rfl
          rw [add_zero, Nat.add_zero] at hc
          have HTW : Hid (∀ u, Below B wr u → TrOn u a0 a1 a2 a3 n0 n1 n2 n3 T) := fun u hu => HT.out u (HB.out.trans hu)
          have HGW : Hid (∀ u, Below B wr u → u.heap[gt]? = some (.cells #[.slice a0 n0 c0, .slice a1 n1 c1, .slice a2 n2 c2, .slice a3 n3 c3] 35 (0, 0))) := fun u hu => HGT.out u (HB.out.trans hu)
          obtain ⟨oo, ho⟩ : ∃ oo, stepF T p x = oo := ⟨_, rfl⟩
          have HO : Hid (stepF T p x = oo) := ho
          have hll : oo.link.size ≤ 9223372036854775000 := by rw [← ho]; exact HLK.out p x
          clear ho rd hx HT HGT HLK
          obtain ⟨nx, lk, is, ee⟩ := oo
          simp only [List.length_cons] at *
          have hrl : r.length ≤ 64 := by have := HW.out.len; simp at this; omega
          obtain ⟨q, hq⟩ : ∃ q, (if c = 1 then some ⟨b, o', none⟩ else some ⟨b, o' + 1, none⟩ : Option Addr) = some ⟨b, q, none⟩ := ⟨if c = 1 then o' else o' + 1, by split <;> rfl⟩
          by_cases he : ee = 0
          · subst he
            have HE : Hid ((stepF T p x).e = 0) := by rw [HO.out]; exact rfl
            have hends : (is = false ∨ (is = true ∧ r = [] ∧ last = false)) ∨ (is = true ∧ ((((r.length : Int) == 0) = true ∧ last = true) ∨ ((r.length : Int) == 0) = false)) := by
              cases is <;> cases last <;> cases r <;> simp <;> omega
            rcases hends with hnx | ⟨his, hrest⟩
            · have HN : Hid (Wk (stepF T) last R r nx k (pre ++ [(p, x)]) (n - 1)) := by
                have := HW.out.next HE.out (by rw [HO.out]; exact hnx.imp id (fun h => h.2))
                rw [HO.out] at this
                exact this
              clear HW
              rcases hnx with rfl | ⟨rfl, rfl, rfl⟩
              ·
                go_wp2_with (first
                  | (go_at_call 14; refine (ask_any a0 a1 a2 a3 n0 n1 n2 n3 c0 c1 c2 c3 T p x B gg gt va pre wr HTW.out HG.out HGW.out hpl hBr).mono ?_; rintro e u3 ⟨rfl, v3, got3, kp3, ow3⟩; rw [HO.out]; have G3 : Hid (Got u3 B gg v3 (pre ++ [(p, x)])) := got3; have F3 : Hid (Fa u3 (.slice (some ⟨b, o', none⟩) (r.length + 1) c) (x :: r) gg v3) := HF.out.kp kp3 ow3; have B3 : Hid (Below B w u3) := HB.out.trans (kp3.below HG.out.low (fun k hk => (HG.out.row.at k hk).1) hBr); have hB3 : B ≤ u3.heap.size := Nat.le_trans hBw B3.out.size; have F5 : Hid (Fa u3 (.slice (some ⟨b, q, none⟩) r.length (c - 1)) r gg v3) := (by rw [← hq]; exact Fa.tail (r := r) F3.out); clear got3 kp3 ow3 HG HF HB HTW HGW F3; unfold Out.val))
                exact ⟨⟨n - 1, r, nx, k, _, v3, HN, F5, G3, B3, rfl, rfl⟩, by simp [lenV]⟩
              · simp only [List.length_nil] at *
                go_wp2_with (first
                  | (go_at_call 14; refine (ask_any a0 a1 a2 a3 n0 n1 n2 n3 c0 c1 c2 c3 T p x B gg gt va pre wr HTW.out HG.out HGW.out hpl hBr).mono ?_; rintro e u3 ⟨rfl, v3, got3, kp3, ow3⟩; rw [HO.out]; have G3 : Hid (Got u3 B gg v3 (pre ++ [(p, x)])) := got3; have F3 : Hid (Fa u3 (.slice (some ⟨b, o', none⟩) (0 + 1) c) [x] gg v3) := HF.out.kp kp3 ow3; have B3 : Hid (Below B w u3) := HB.out.trans (kp3.below HG.out.low (fun k hk => (HG.out.row.at k hk).1) hBr); have hB3 : B ≤ u3.heap.size := Nat.le_trans hBw B3.out.size; have F5 : Hid (Fa u3 (.slice (some ⟨b, q, none⟩) 0 (c - 1)) [] gg v3) := (by rw [← hq]; exact Fa.tail (r := []) F3.out); clear got3 kp3 ow3 HG HF HB HTW HGW F3; unfold Out.val))
                exact ⟨⟨n - 1, [], nx, k, _, v3, HN, F5, G3, B3, rfl, rfl⟩, by simp [lenV]⟩
            · subst his
              have hnot : ¬ ((stepF T p x).is = false ∨ (r = [] ∧ last = false)) := by
                rw [HO.out]
                rcases hrest with ⟨_, h⟩ | h
                · simp [h]
                · rintro (h' | ⟨rfl, _⟩)
                  · cases h'
                  · simp at h
              have hp := prefix_slash lk
              by_cases h8 : k = 8
              · subst h8
                have HR : Hid (R = ⟨0, pre ++ [(p, x)], 177⟩) := HW.out.loop HE.out hnot
                clear HW hnot
                rcases hrest with ⟨hz, rfl⟩ | hz
                all_goals
                  go_wp2_with (first
                    | (go_at_call 14; refine (ask_any a0 a1 a2 a3 n0 n1 n2 n3 c0 c1 c2 c3 T p x B gg gt va pre wr HTW.out HG.out HGW.out hpl hBr).mono ?_; rintro e u3 ⟨rfl, v3, got3, kp3, ow3⟩; rw [HO.out]; have G3 : Hid (Got u3 B gg v3 (pre ++ [(p, x)])) := got3; have F3 : Hid (Fa u3 (.slice (some ⟨b, o', none⟩) (r.length + 1) c) (x :: r) gg v3) := HF.out.kp kp3 ow3; have B3 : Hid (Below B w u3) := HB.out.trans (kp3.below HG.out.low (fun k hk => (HG.out.row.at k hk).1) hBr); have hB3 : B ≤ u3.heap.size := Nat.le_trans hBw B3.out.size; have F5 : Hid (Fa u3 (.slice (some ⟨b, q, none⟩) r.length (c - 1)) r gg v3) := (by rw [← hq]; exact Fa.tail (r := r) F3.out); clear got3 kp3 ow3 HG HF HB HTW HGW F3; unfold Out.val))
                  go_ret2
                  exact ⟨by rw [HR.out]; rfl, ⟨_, by rw [HR.out]; exact G3.out⟩, B3.out⟩
              · have h8e : ((k : Int) == 8) = false := by rw [beq_eq_false_iff_ne]; omega
                have hFEx : ∃ fe, foE lk r.length = fe := ⟨_, rfl⟩
                obtain ⟨fe, hfe⟩ := hFEx
                by_cases hf0 : fe = 0
                · subst hf0
                  have HGo : Hid (Wk (stepF T) last R (spN (lkT lk) ++ r) (if begB lk then 0 else p) (k + 1) (pre ++ [(p, x)]) (n - 1)) := by
                    have := HW.out.go HE.out hnot h8 (by rw [HO.out]; exact hfe)
                    rw [HO.out] at this
                    exact this
                  obtain ⟨M, hM⟩ : ∃ M, spN (lkT lk) ++ r = M := ⟨_, rfl⟩
                  have HM : Hid (spN (lkT lk) ++ r = M) := hM
                  have hMl : M.length ≤ 64 := by rw [← hM, List.length_append]; exact (fo_len hfe).2.2
                  have HFE : Hid (foE lk r.length = 0) := hfe
                  rw [hM] at HGo
                  clear HW hnot hM hfe
                  cases hb : begB lk
                  all_goals
                    rw [hb] at hp HGo
                    rcases hrest with ⟨hz, rfl⟩ | hz
                    all_goals
                      go_wp2_with (first
                        | (go_at_call 14; refine (ask_any a0 a1 a2 a3 n0 n1 n2 n3 c0 c1 c2 c3 T p x B gg gt va pre wr HTW.out HG.out HGW.out hpl hBr).mono ?_; rintro e u3 ⟨rfl, v3, got3, kp3, ow3⟩; rw [HO.out]; have G3 : Hid (Got u3 B gg v3 (pre ++ [(p, x)])) := got3; have F3 : Hid (Fa u3 (.slice (some ⟨b, o', none⟩) (r.length + 1) c) (x :: r) gg v3) := HF.out.kp kp3 ow3; have B3 : Hid (Below B w u3) := HB.out.trans (kp3.below HG.out.low (fun k hk => (HG.out.row.at k hk).1) hBr); have hB3 : B ≤ u3.heap.size := Nat.le_trans hBw B3.out.size; have F5 : Hid (Fa u3 (.slice (some ⟨b, q, none⟩) r.length (c - 1)) r gg v3) := (by rw [← hq]; exact Fa.tail (r := r) F3.out); clear got3 kp3 ow3 HG HF HB HTW HGW F3; unfold Out.val)
                        | (go_at_call 31; refine (follow_any lk _ r _ (F5.out).vw hll (by simpa using hrl)).mono ?_; rintro e u4 ⟨v4, rfl, ow4, bel4⟩; rw [HFE.out]; have B4 : Hid (Below B w u4) := B3.out.trans (bel4.mono hB3); have G4 : Hid (Got u4 B gg v3 (pre ++ [(p, x)])) := G3.out.below bel4; have ow5 := ow4 HFE.out; rw [HM.out] at ow5; have F4 : Hid (Fa u4 v4 M gg v3) := Fa.fresh ow5 G3.out; obtain ⟨a4, c4, rfl, _⟩ := ow5.rd; clear ow5; clear ow4 bel4)
                        | (go_at_call 24; refine (Tryd.strings_HasPrefix _ _ _).mono ?_; rintro e u ⟨rfl, hu⟩; rw [hp, hu]; clear hu))
                      exact ⟨⟨n - 1, M, _, k + 1, _, v3, HGo, F4, G4, B4, rfl, by go_num⟩, by simp [lenV, intOf]; omega⟩
                · have HR : Hid (R = ⟨0, pre ++ [(p, x)], fe⟩) := by
                    have := HW.out.bad HE.out hnot h8 (by rw [HO.out]; simp only [hfe]; exact hf0)
                    rw [HO.out] at this
                    simp only [hfe] at this
                    exact this
                  have e1 : (fe == 0) = false := by simpa using hf0
                  have HFE : Hid (foE lk r.length = fe) := hfe
                  clear HW hnot hfe
                  rcases hrest with ⟨hz, rfl⟩ | hz
                  all_goals
                    go_wp2_with (first
                      | (go_at_call 14; refine (ask_any a0 a1 a2 a3 n0 n1 n2 n3 c0 c1 c2 c3 T p x B gg gt va pre wr HTW.out HG.out HGW.out hpl hBr).mono ?_; rintro e u3 ⟨rfl, v3, got3, kp3, ow3⟩; rw [HO.out]; have G3 : Hid (Got u3 B gg v3 (pre ++ [(p, x)])) := got3; have F3 : Hid (Fa u3 (.slice (some ⟨b, o', none⟩) (r.length + 1) c) (x :: r) gg v3) := HF.out.kp kp3 ow3; have B3 : Hid (Below B w u3) := HB.out.trans (kp3.below HG.out.low (fun k hk => (HG.out.row.at k hk).1) hBr); have hB3 : B ≤ u3.heap.size := Nat.le_trans hBw B3.out.size; have F5 : Hid (Fa u3 (.slice (some ⟨b, q, none⟩) r.length (c - 1)) r gg v3) := (by rw [← hq]; exact Fa.tail (r := r) F3.out); clear got3 kp3 ow3 HG HF HB HTW HGW F3; unfold Out.val)
                      | (go_at_call 31; refine (follow_any lk _ r _ (F5.out).vw hll (by simpa using hrl)).mono ?_; rintro e u4 ⟨v4, rfl, ow4, bel4⟩; rw [HFE.out]; have B4 : Hid (Below B w u4) := B3.out.trans (bel4.mono hB3); have G4 : Hid (Got u4 B gg v3 (pre ++ [(p, x)])) := G3.out.below bel4; clear ow4 bel4))
                    go_ret2
                    exact ⟨by rw [HR.out]; rfl, ⟨_, by rw [HR.out]; exact G4.out⟩, B4.out⟩
          · have HR : Hid (R = ⟨0, pre ++ [(p, x)], ee⟩) := by
              have := HW.out.err (by rw [HO.out]; exact he)
              rw [HO.out] at this
              exact this
            have e1 : (ee == 0) = false := by simpa using he
            clear HW
            go_wp2_with (first
              | (go_at_call 14; refine (ask_any a0 a1 a2 a3 n0 n1 n2 n3 c0 c1 c2 c3 T p x B gg gt va pre wr HTW.out HG.out HGW.out hpl hBr).mono ?_; rintro e u3 ⟨rfl, v3, got3, kp3, ow3⟩; rw [HO.out]; have G3 : Hid (Got u3 B gg v3 (pre ++ [(p, x)])) := got3; have F3 : Hid (Fa u3 (.slice (some ⟨b, o', none⟩) (r.length + 1) c) (x :: r) gg v3) := HF.out.kp kp3 ow3; have B3 : Hid (Below B w u3) := HB.out.trans (kp3.below HG.out.low (fun k hk => (HG.out.row.at k hk).1) hBr); have hB3 : B ≤ u3.heap.size := Nat.le_trans hBw B3.out.size; have F5 : Hid (Fa u3 (.slice (some ⟨b, q, none⟩) r.length (c - 1)) r gg v3) := (by rw [← hq]; exact Fa.tail (r := r) F3.out); clear got3 kp3 ow3 HG HF HB HTW HGW F3; unfold Out.val))
            go_ret2
            exact ⟨by rw [HR.out]; rfl, ⟨_, by rw [HR.out]; exact G3.out⟩, B3.out⟩
  · have hR : resW T s last = ⟨0, [], E⟩ := by simp [resW, hE, h0]
    rw [hR]
    have e1 : (E == 0) = false := by simpa using h0
    go_enter Tryd.func13, Tryd.ntmps13
    go_wp2_with (go_at_call 9; refine (psplit_any _ _ hs).mono ?_; rintro e u ⟨v1, rfl, ow, bel⟩; rw [hE]; obtain ⟨aa, cc, rfl, _⟩ := ow.rd; have G1 : Hid (Got u B gg v []) := HG0.out.below bel; have B1 : Hid (Below B w u) := bel.mono hBw; clear ow bel)
    go_ret2
    exact ⟨rfl, ⟨_, G1.out⟩, B1.out⟩
end Go.Proofs.YtmbdacdgbmpedaaDoor
