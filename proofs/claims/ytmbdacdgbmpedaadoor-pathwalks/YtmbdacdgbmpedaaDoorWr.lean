/-
  SEAT YtmbdacdgbmpedaaDoor: the reference's Walk.
-/
import Derived.Test.YtmbdacdgbmpedaaDoorWf
namespace Go.Proofs.YtmbdacdgbmpedaaDoor
open Go.RowKit
set_option linter.unusedVariables false

theorem Fa.freshA {w w' : World} {B : Nat} {cv : Value} {xs : List ByteArray} {gg : Nat} {va : Value} {qs : List (Int × ByteArray)} (h : Ow w' w.heap.size cv xs) (hg : OwA w B va qs) (hl : gg < w.heap.size) : Fa w' cv xs gg va := by
  refine ⟨h.vw, fun k hk => ?_⟩
  obtain ⟨h1, h2⟩ := h.at k hk
  exact ⟨h2, by omega, fun e => by have := (hg.at k e).2; omega⟩
theorem kp_grown {w w2 : World} {o : Obj} {r : Option Nat} (g : (w.alloc o).grownBy w2 r) (gg : Nat) : Kp w w2 gg r :=
  ⟨g.os, g.tape, g.output, by have b := g.size; simp at b; omega, fun i hi h1 h2 => by
    rw [g.block i (by simp; omega) h2, Below.heap_alloc _ _ _ hi]⟩
theorem owA_new {w2 : World} {B : Nat} {v : Value} {qs : List (Int × ByteArray)} {at' : Int} {name : ByteArray} (ho : w2.ownsRow B 42 2 v (qs.length + 1) (flatA qs ++ [.int .i64 at', .string name])) : OwA w2 B v (qs ++ [(at', name)]) := by
  show World.ownsRow _ _ _ _ _ _ _
  rw [flatA_append, List.length_append]
  exact ho

theorem own_wh {w : World} {v : Value} {g2 n c : Nat} (h : v.ownBlock = some g2 ∨ g2 = w.heap.size + 1) : ∀ k, (Value.slice (some ⟨g2, 0, none⟩) n c).ownBlock = some k → v.ownBlock = some k ∨ w.heap.size ≤ k := by
  intro k hk
  injection hk with hk
  change g2 = k at hk
  subst hk
  rcases h with h | h
  · exact Or.inl h
  · exact Or.inr (by omega)
theorem box_kept {W u : World} {g B : Nat} {o : Obj} (h : W.heap[g]? = some o) (hb : Below B W u) (hg : g < B) : u.heap[g]? = some o := by
  rw [hb.block g hg]; exact h
theorem fa_rd {w : World} {a : Option Addr} {n c gg : Nat} {xs : List ByteArray} {va : Value} (h : Fa w (.slice a n c) xs gg va) : RdS w a n xs := by
  obtain ⟨⟨a', c', e, h1, h2, rd, hx⟩, _⟩ := h
  injection e with e1 e2 e3
  subst e1
  rw [e2]; exact rd

theorem owA_low {w : World} {B B' : Nat} {v : Value} {qs : List (Int × ByteArray)} (h : OwA w B v qs) (hb : B' ≤ B) : OwA w B' v qs := by
  refine ⟨h.1, ?_⟩
  rcases h.2 with h1 | ⟨g, cap, cur, hv, hB, hr⟩
  · exact Or.inl h1
  · exact Or.inr ⟨g, cap, cur, hv, by omega, hr⟩
/-- How a link's text is made a path: with its first letter, or behind a slash. -/
theorem lk_way (l : ByteArray) (hl : l.size ≤ 9223372036854775000) (h0 : ¬ l.data.toList = []) : ∃ t, lkT l = t ∧ t.size ≤ 9223372036854775807 ∧
    ((begB l = true ∧ (l.toList == []) = false ∧ l.toList.isEmpty = false ∧ 0 < l.size ∧ (∃ h : 0 < l.size, l[0].toNat = 47) ∧ True ∧ t = l) ∨
     (begB l = false ∧ (l.toList == []) = false ∧ l.toList.isEmpty = false ∧ 0 < l.size ∧ (∃ h : 0 < l.size, ((l[0].toNat : Int) == 47) = false) ∧ ¬ (9223372036854775807 < (⟨#[47]⟩ : ByteArray).size + l.size) ∧ (⟨#[47]⟩ : ByteArray) ++ l = t)) := by
  have h1 : ¬ l.toList = [] := by rw [toList_data]; exact h0
  have f1 : (l.toList == []) = false := by simp [h1]
  have f2 : l.toList.isEmpty = false := by simp [h1]
  have hone : (⟨#[47]⟩ : ByteArray).size = 1 := rfl
  rcases beg_ways l with ⟨_, h⟩ | ⟨hp, hb, _, h47⟩ | ⟨hp, hb, _, h47⟩
  · exact absurd h h1
  · refine ⟨_, rfl, ?_, Or.inr ⟨hb, f1, f2, hp, ⟨hp, by simpa using h47⟩, by omega, by simp [lkT, hb]⟩⟩
    simp only [lkT, hb, Bool.false_eq_true, if_false]
    rw [ByteArray.size_append]; omega
  · exact ⟨_, rfl, by simp only [lkT, hb, if_true]; omega, Or.inl ⟨hb, f1, f2, hp, ⟨hp, h47⟩, trivial, by simp [lkT, hb]⟩⟩

abbrev treeO (a0 a1 a2 a3 : Option Addr) (n0 n1 n2 n3 c0 c1 c2 c3 : Nat) : Obj := .cells #[.slice a0 n0 c0, .slice a1 n1 c1, .slice a2 n2 c2, .slice a3 n3 c3] 35 (0, 0)

set_option maxHeartbeats 4000000 in
set_option maxRecDepth 100000 in
theorem rwalk_any (a0 a1 a2 a3 : Option Addr) (n0 n1 n2 n3 c0 c1 c2 c3 : Nat) (T : Tr) (s : ByteArray) (last : Bool) (w : World)
    (hT : TrOn w a0 a1 a2 a3 n0 n1 n2 n3 T) (hs : s.size ≤ 9223372036854775807) (hlk : ∀ x ∈ T.lnk, x.size ≤ 9223372036854775000) :
    Calls Tryd.prog 12 #[.agg #[.slice a0 n0 c0, .slice a1 n1 c1, .slice a2 n2 c2, .slice a3 n3 c3], .string s, .bool last] w fun e w' => ∃ va, e = .returned (.tuple #[.int .i64 (resW T s last).at', va, .int .i64 (resW T s last).e]) ∧ OwA w' w.heap.size va (resW T s last).asked ∧ Below w.heap.size w w' := by
  have HT : Hid (TrOn w a0 a1 a2 a3 n0 n1 n2 n3 T) := hT
  have HLK : Hid (∀ p x, (stepF T p x).link.size ≤ 9223372036854775000) := fun p x => step_link hlk p x
  clear hT hlk
  obtain ⟨i0, hi, hz0, hz1, hz2⟩ := info_parts info42
  obtain ⟨E, hE⟩ : ∃ E, spE s = E := ⟨_, rfl⟩
  obtain ⟨W, hW⟩ : ∃ W, w.alloc (treeO a0 a1 a2 a3 n0 n1 n2 n3 c0 c1 c2 c3) = W := ⟨_, rfl⟩
  have HBW : Hid (Below w.heap.size w W) := by rw [← hW]; exact (Below.refl _ _).alloc (Nat.le_refl _) _
  have hWs : W.heap.size = w.heap.size + 1 := by rw [← hW]; simp
  obtain ⟨B, hB⟩ : ∃ B, W.heap.size = B := ⟨_, rfl⟩
  have hwB : w.heap.size < B := by omega
  have hBW : B ≤ W.heap.size := by omega
  have HBX : Hid (W.heap[w.heap.size]? = some (treeO a0 a1 a2 a3 n0 n1 n2 n3 c0 c1 c2 c3)) := by rw [← hW]; exact heap_alloc_new w _
  clear hWs
  by_cases h0 : E = 0
  · subst h0
    have hR : resW T s last = walkR (stepF T) last 1000 (spN s) 0 0 := by simp [resW, hE]
    have hlen : (spN s).length ≤ 64 := by have := sp_facts hE; rw [this.2.2.2.2.2]; exact this.2.2.2.1
    obtain ⟨N, hN⟩ : ∃ N, spN s = N := ⟨_, rfl⟩
    rw [hN] at hR hlen
    obtain ⟨R, hRR⟩ : ∃ R, resW T s last = R := ⟨_, rfl⟩
    rw [hRR] at hR ⊢
    have HW0 : Hid (Wk (stepF T) last R N 0 0 [] 1000) := by rw [hR]; exact Wk.start _ _ _ hlen
    have HRl : Hid (R.asked.length ≤ 1000) := by rw [hR]; exact walk_small _ _ _
    clear hR hRR hlen
    go_enter Tryd.func12, Tryd.ntmps12
    go_wp2_with (go_at_call 8; refine (rsplit_any _ _ hs).mono ?_; rintro e u ⟨v1, rfl, ow, bel⟩; rw [hE]; rw [hN] at ow; have F1 : Hid (Fa u v1 N w.heap.size (.slice none 0 0)) := Fa.freshA ow (owA_nil W B) (by omega); have B1 : Hid (Below B W u) := (by rw [← hB]; exact bel); obtain ⟨aa, cc, rfl, _⟩ := ow.rd; clear ow bel)
    clear hB
    go_loopw [9, 11, 12, 13] (fun tv av lv sv wr => ∃ (n : Nat) (to : List ByteArray) (p : Int) (k : Nat) (pre : List (Int × ByteArray)), Hid (Wk (stepF T) last R to p k pre n) ∧ Hid (Fa wr tv to w.heap.size sv) ∧ Hid (OwA wr B sv pre) ∧ Hid (Below B W wr) ∧ av = .int .i64 p ∧ lv = .int .i64 k) (fun tv _ lv _ _ => (8 - (intOf lv).toNat) * 65 + lenV tv)
    case atStart => exact ⟨1000, N, 0, 0, [], HW0, F1, owA_nil _ _, B1, rfl, rfl⟩
    case round =>
      obtain ⟨n, to, p, k, pre, HW, HF, HA, HB, rfl, rfl⟩ := hrel
      clear HW0 F1 B1 hE hN hW
      have hk8 : k ≤ 8 := HW.out.k8
      have hBr : B ≤ wr.heap.size := Nat.le_trans hBW HB.out.size
      have hpl : pre.length ≤ 1000000 := by have := HW.out.pre_len HRl.out; omega
      obtain ⟨a, c, hcv, h1, h2, rd, hx⟩ := HF.out.vw
      subst hcv
      obtain ⟨sa, sc, hsv, hs1, hs2⟩ := HA.out.shape
      subst hsv
      cases to with
      | nil =>
        have HR : Hid (R = ⟨p, pre, 0⟩) := HW.out.done
        simp only [List.length_nil] at *
        clear rd hx
        go_wp2
        refine bodyPost_ret (results_tmp3 rfl _ _ _) rfl ?_
        exact ⟨_, by rw [HR.out]; rfl, by rw [HR.out]; exact owA_low HA.out (Nat.le_of_lt hwB), HBW.out.trans (HB.out.mono (Nat.le_of_lt hwB))⟩
      | cons x r =>
        cases a with
        | none => have := rd.nil rfl; simp at this
        | some x0 =>
          obtain ⟨b, o', rfl⟩ := hx x0 rfl
          have hc := rd.cell _ rfl 0 x rfl
          rw [add_zero, Nat.add_zero] at hc
          obtain ⟨oo, ho⟩ : ∃ oo, stepF T p x = oo := ⟨_, rfl⟩
          have HO : Hid (stepF T p x = oo) := ho
          have hll : oo.link.size ≤ 9223372036854775000 := by rw [← ho]; exact HLK.out p x
          clear ho rd hx HLK
          obtain ⟨nx, lk, is, ee⟩ := oo
          simp only [List.length_cons] at *
          have hrl : r.length ≤ 64 := by have := HW.out.len; simp at this; omega
          have hc' : (wr.alloc (.cells #[.int .i64 p, .string x] 42)).heap.size = wr.heap.size + 1 := by simp
          have hH : (wr.alloc (.cells #[.int .i64 p, .string x] 42)).heap.size = wr.heap.size + 1 := hc'
          have OW : Hid ((wr.alloc (.cells #[.int .i64 p, .string x] 42)).ownsRow B 42 2 (.slice sa pre.length sc) pre.length (flatA pre)) := World.ownsRow.alloc HA.out _
          have NB : Hid (∀ j u, ([.int .i64 p, .string x] : List Value)[j]? = some u → (wr.alloc (.cells #[.int .i64 p, .string x] 42)).cell? ((⟨wr.heap.size, 0, none⟩ : Addr).add j) = some u) := World.news_of_block (heap_alloc_new wr _)
          have b1 : pre.length + 1 ≤ maxLen := by simp [maxLen]; omega
          have b2 : (pre.length + 1) * 24 ≤ 140737488355328 := by omega
          have b3 : B ≤ (wr.alloc (.cells #[.int .i64 p, .string x] 42)).heap.size := by simp; omega
          clear hc'
          obtain ⟨q, hq⟩ : ∃ q, (if c = 1 then some ⟨b, o', none⟩ else some ⟨b, o' + 1, none⟩ : Option Addr) = some ⟨b, q, none⟩ := ⟨if c = 1 then o' else o' + 1, by split <;> rfl⟩
          have HF5 : Hid (Fa wr (.slice (some ⟨b, q, none⟩) r.length (c - 1)) r w.heap.size (.slice sa pre.length sc)) := by
            show Fa wr (.slice (some ⟨b, q, none⟩) r.length (c - 1)) r w.heap.size (.slice sa pre.length sc)
            rw [← hq]; exact Fa.tail (r := r) HF.out
          by_cases he : ee = 0
          · subst he
            have HE : Hid ((stepF T p x).e = 0) := by rw [HO.out]; exact rfl
            have hends : (is = false ∨ (is = true ∧ ((r.length : Int) == 0) = true ∧ r = [] ∧ last = false)) ∨ (is = true ∧ ((((r.length : Int) == 0) = true ∧ last = true) ∨ ((r.length : Int) == 0) = false)) := by
              cases is <;> cases last <;> cases r <;> simp <;> omega
            rcases hends with hnx | ⟨his, hrest⟩
            · have HN : Hid (Wk (stepF T) last R r nx k (pre ++ [(p, x)]) (n - 1)) := by
                have := HW.out.next HE.out (by rw [HO.out]; exact hnx.imp id (fun h => h.2.2))
                rw [HO.out] at this
                exact this
              clear HW
              have hz : is = false ∨ (is = true ∧ ((r.length : Int) == 0) = true ∧ last = false) := hnx.imp id (fun h => ⟨h.1, h.2.1, h.2.2.2⟩)
              clear hnx
              rcases hz with rfl | ⟨rfl, hz, rfl⟩
              all_goals
                go_wp2_with (first
                  | (at_builtin; refine wpList_append_lies _ rfl (.tmp 38) (.tmp 42) 36 rfl B 42 i0 _ 2 24 Tryd.underlying36 hi hz0 hz1 hz2 rfl (by decide) _ _ _ rfl OW.out ⟨wr.heap.size, 0, none⟩ 1 1 [.int .i64 p, .string x] rfl rfl NB.out (by simp [Value.oneCell']) (by decide) b1 b2 b3 (wr.heap.size + 1) hH ?_; intro g2 cap2 w2 own2 grow2 wh2 lt2; have A2 : Hid (OwA w2 B (.slice (some ⟨g2, 0, none⟩) (pre.length + 1) cap2) (pre ++ [(p, x)])) := owA_new own2; have bel2 : Below B W w2 := HB.out.trans ((kp_grown grow2 B).below (Nat.le_refl _) (fun k hk => (HA.out.at k hk).1) hBr); have F2 : Hid (Fa w2 (.slice (some ⟨b, q, none⟩) r.length (c - 1)) r w.heap.size (.slice (some ⟨g2, 0, none⟩) (pre.length + 1) cap2)) := Fa.kp HF5.out (kp_grown grow2 _) (own_wh wh2); have t2 := box_kept HBX.out bel2 hwB; have f0 : w2.cell? ⟨w.heap.size, 0, none⟩ = some (.slice a0 n0 c0) := (by rw [cell_of_row _ _ 0 _ 35 (0, 0) t2]; rfl); have f1 : w2.cell? ⟨w.heap.size, 1, none⟩ = some (.slice a1 n1 c1) := (by rw [cell_of_row _ _ 1 _ 35 (0, 0) t2]; rfl); have f2 : w2.cell? ⟨w.heap.size, 2, none⟩ = some (.slice a2 n2 c2) := (by rw [cell_of_row _ _ 2 _ 35 (0, 0) t2]; rfl); have f3 : w2.cell? ⟨w.heap.size, 3, none⟩ = some (.slice a3 n3 c3) := (by rw [cell_of_row _ _ 3 _ 35 (0, 0) t2]; rfl); have HTR : Hid (TrOn w2 a0 a1 a2 a3 n0 n1 n2 n3 T) := HT.out.below (HBW.out.trans (bel2.mono (Nat.le_of_lt hwB))); have BL2 : Hid (Below B W w2) := bel2; have hB2 : B ≤ w2.heap.size := Nat.le_trans hBr (kp_grown grow2 B).size; clear t2 bel2 own2 grow2 wh2 lt2 OW NB HA HF5 HF HB)
                  | (go_at_call 15; refine (step_any a0 a1 a2 a3 n0 n1 n2 n3 c0 c1 c2 c3 T p x _ HTR.out).mono ?_; rintro e u4 ⟨rfl, bel⟩; rw [HO.out]; have A4 : Hid (OwA u4 B (.slice (some ⟨g2, 0, none⟩) (pre.length + 1) cap2) (pre ++ [(p, x)])) := A2.out.below bel; have F4 : Hid (Fa u4 (.slice (some ⟨b, q, none⟩) r.length (c - 1)) r w.heap.size (.slice (some ⟨g2, 0, none⟩) (pre.length + 1) cap2)) := F2.out.below bel; have B4 : Hid (Below B W u4) := BL2.out.trans (bel.mono hB2); have hB4 : B ≤ u4.heap.size := Nat.le_trans hB2 bel.size; clear bel A2 F2 BL2 HTR f0 f1 f2 f3 hB2; unfold Out.val))
                exact ⟨⟨n - 1, r, nx, k, _, HN, F4, A4, B4, rfl, rfl⟩, by simp [lenV]⟩
            · subst his
              have hnot : ¬ ((stepF T p x).is = false ∨ (r = [] ∧ last = false)) := by
                rw [HO.out]
                rcases hrest with ⟨_, h⟩ | h
                · simp [h]
                · rintro (h' | ⟨rfl, _⟩)
                  · cases h'
                  · simp at h
              by_cases h8 : k = 8
              · subst h8
                have HR : Hid (R = ⟨0, pre ++ [(p, x)], 177⟩) := HW.out.loop HE.out hnot
                clear HW hnot
                rcases hrest with ⟨hz, rfl⟩ | hz
                all_goals
                  go_wp2_with (first
                    | (at_builtin; refine wpList_append_lies _ rfl (.tmp 38) (.tmp 42) 36 rfl B 42 i0 _ 2 24 Tryd.underlying36 hi hz0 hz1 hz2 rfl (by decide) _ _ _ rfl OW.out ⟨wr.heap.size, 0, none⟩ 1 1 [.int .i64 p, .string x] rfl rfl NB.out (by simp [Value.oneCell']) (by decide) b1 b2 b3 (wr.heap.size + 1) hH ?_; intro g2 cap2 w2 own2 grow2 wh2 lt2; have A2 : Hid (OwA w2 B (.slice (some ⟨g2, 0, none⟩) (pre.length + 1) cap2) (pre ++ [(p, x)])) := owA_new own2; have bel2 : Below B W w2 := HB.out.trans ((kp_grown grow2 B).below (Nat.le_refl _) (fun k hk => (HA.out.at k hk).1) hBr); have F2 : Hid (Fa w2 (.slice (some ⟨b, q, none⟩) r.length (c - 1)) r w.heap.size (.slice (some ⟨g2, 0, none⟩) (pre.length + 1) cap2)) := Fa.kp HF5.out (kp_grown grow2 _) (own_wh wh2); have t2 := box_kept HBX.out bel2 hwB; have f0 : w2.cell? ⟨w.heap.size, 0, none⟩ = some (.slice a0 n0 c0) := (by rw [cell_of_row _ _ 0 _ 35 (0, 0) t2]; rfl); have f1 : w2.cell? ⟨w.heap.size, 1, none⟩ = some (.slice a1 n1 c1) := (by rw [cell_of_row _ _ 1 _ 35 (0, 0) t2]; rfl); have f2 : w2.cell? ⟨w.heap.size, 2, none⟩ = some (.slice a2 n2 c2) := (by rw [cell_of_row _ _ 2 _ 35 (0, 0) t2]; rfl); have f3 : w2.cell? ⟨w.heap.size, 3, none⟩ = some (.slice a3 n3 c3) := (by rw [cell_of_row _ _ 3 _ 35 (0, 0) t2]; rfl); have HTR : Hid (TrOn w2 a0 a1 a2 a3 n0 n1 n2 n3 T) := HT.out.below (HBW.out.trans (bel2.mono (Nat.le_of_lt hwB))); have BL2 : Hid (Below B W w2) := bel2; have hB2 : B ≤ w2.heap.size := Nat.le_trans hBr (kp_grown grow2 B).size; clear t2 bel2 own2 grow2 wh2 lt2 OW NB HA HF5 HF HB)
                    | (go_at_call 15; refine (step_any a0 a1 a2 a3 n0 n1 n2 n3 c0 c1 c2 c3 T p x _ HTR.out).mono ?_; rintro e u4 ⟨rfl, bel⟩; rw [HO.out]; have A4 : Hid (OwA u4 B (.slice (some ⟨g2, 0, none⟩) (pre.length + 1) cap2) (pre ++ [(p, x)])) := A2.out.below bel; have F4 : Hid (Fa u4 (.slice (some ⟨b, q, none⟩) r.length (c - 1)) r w.heap.size (.slice (some ⟨g2, 0, none⟩) (pre.length + 1) cap2)) := F2.out.below bel; have B4 : Hid (Below B W u4) := BL2.out.trans (bel.mono hB2); have hB4 : B ≤ u4.heap.size := Nat.le_trans hB2 bel.size; clear bel A2 F2 BL2 HTR f0 f1 f2 f3 hB2; unfold Out.val))
                  refine bodyPost_ret (results_tmp3 rfl _ _ _) rfl ?_
                  exact ⟨_, by rw [HR.out]; rfl, by rw [HR.out]; exact owA_low A4.out (Nat.le_of_lt hwB), HBW.out.trans (B4.out.mono (Nat.le_of_lt hwB))⟩
              · have h8e : ((k : Int) == 8) = false := by rw [beq_eq_false_iff_ne]; omega
                obtain ⟨fe, hfe⟩ : ∃ fe, foE lk r.length = fe := ⟨_, rfl⟩
                by_cases hf0 : fe = 0
                · subst hf0
                  have HGo : Hid (Wk (stepF T) last R (spN (lkT lk) ++ r) (if begB lk then 0 else p) (k + 1) (pre ++ [(p, x)]) (n - 1)) := by
                    have := HW.out.go HE.out hnot h8 (by rw [HO.out]; exact hfe)
                    rw [HO.out] at this
                    exact this
                  obtain ⟨hl0, hE0, hsum⟩ := fo_len hfe
                  obtain ⟨t, ht, hts, hway⟩ := lk_way lk hll hl0
                  obtain ⟨N5, hN5⟩ : ∃ N5, nmN t = N5 := ⟨_, rfl⟩
                  have hE5 : nmE t = 0 := by rw [← ht, ← (lk_sp lk).1]; exact hE0
                  have hNN : spN (lkT lk) = N5 := by rw [(lk_sp lk).2, ht]; exact hN5
                  rw [hNN] at HGo hsum
                  obtain ⟨M, hM⟩ : ∃ M, N5 ++ r = M := ⟨_, rfl⟩
                  have HM : Hid (([] ++ N5) ++ r = M) := by rw [List.nil_append]; exact hM
                  have hMl : M.length ≤ 64 := by rw [← hM, List.length_append]; exact hsum
                  have nb1 : (([] : List ByteArray).length + N5.length) * 16 ≤ 140737488355328 := by simp; omega
                  have nb2 : (([] ++ N5 : List ByteArray).length + r.length) * 16 ≤ 140737488355328 := by simp; omega
                  have d1 : ¬ (64 : Int) < (N5.length : Int) + (r.length : Int) := by omega
                  rw [hM] at HGo
                  clear HW hnot hM hfe hNN hE0 ht hl0
                  rcases hway with ⟨hb, hl1, hl2, hl3, ⟨hl7, hl4⟩, hl5, rfl⟩ | ⟨hb, hl1, hl2, hl3, ⟨hl7, hl4⟩, hl5, hl6⟩
                  all_goals
                    rw [hb] at HGo
                    clear hb
                    rcases hrest with ⟨hz, rfl⟩ | hz
                    all_goals
                      go_wp2_with (first
                        | (at_builtin; refine wpList_append_lies _ rfl (.tmp 38) (.tmp 42) 36 rfl B 42 i0 _ 2 24 Tryd.underlying36 hi hz0 hz1 hz2 rfl (by decide) _ _ _ rfl OW.out ⟨wr.heap.size, 0, none⟩ 1 1 [.int .i64 p, .string x] rfl rfl NB.out (by simp [Value.oneCell']) (by decide) b1 b2 b3 (wr.heap.size + 1) hH ?_; intro g2 cap2 w2 own2 grow2 wh2 lt2; have A2 : Hid (OwA w2 B (.slice (some ⟨g2, 0, none⟩) (pre.length + 1) cap2) (pre ++ [(p, x)])) := owA_new own2; have bel2 : Below B W w2 := HB.out.trans ((kp_grown grow2 B).below (Nat.le_refl _) (fun k hk => (HA.out.at k hk).1) hBr); have F2 : Hid (Fa w2 (.slice (some ⟨b, q, none⟩) r.length (c - 1)) r w.heap.size (.slice (some ⟨g2, 0, none⟩) (pre.length + 1) cap2)) := Fa.kp HF5.out (kp_grown grow2 _) (own_wh wh2); have t2 := box_kept HBX.out bel2 hwB; have f0 : w2.cell? ⟨w.heap.size, 0, none⟩ = some (.slice a0 n0 c0) := (by rw [cell_of_row _ _ 0 _ 35 (0, 0) t2]; rfl); have f1 : w2.cell? ⟨w.heap.size, 1, none⟩ = some (.slice a1 n1 c1) := (by rw [cell_of_row _ _ 1 _ 35 (0, 0) t2]; rfl); have f2 : w2.cell? ⟨w.heap.size, 2, none⟩ = some (.slice a2 n2 c2) := (by rw [cell_of_row _ _ 2 _ 35 (0, 0) t2]; rfl); have f3 : w2.cell? ⟨w.heap.size, 3, none⟩ = some (.slice a3 n3 c3) := (by rw [cell_of_row _ _ 3 _ 35 (0, 0) t2]; rfl); have HTR : Hid (TrOn w2 a0 a1 a2 a3 n0 n1 n2 n3 T) := HT.out.below (HBW.out.trans (bel2.mono (Nat.le_of_lt hwB))); have BL2 : Hid (Below B W w2) := bel2; have hB2 : B ≤ w2.heap.size := Nat.le_trans hBr (kp_grown grow2 B).size; clear t2 bel2 own2 grow2 wh2 lt2 OW NB HA HF5 HF HB)
                        | (go_at_call 15; refine (step_any a0 a1 a2 a3 n0 n1 n2 n3 c0 c1 c2 c3 T p x _ HTR.out).mono ?_; rintro e u4 ⟨rfl, bel⟩; rw [HO.out]; have A4 : Hid (OwA u4 B (.slice (some ⟨g2, 0, none⟩) (pre.length + 1) cap2) (pre ++ [(p, x)])) := A2.out.below bel; have F4 : Hid (Fa u4 (.slice (some ⟨b, q, none⟩) r.length (c - 1)) r w.heap.size (.slice (some ⟨g2, 0, none⟩) (pre.length + 1) cap2)) := F2.out.below bel; have B4 : Hid (Below B W u4) := BL2.out.trans (bel.mono hB2); have hB4 : B ≤ u4.heap.size := Nat.le_trans hB2 bel.size; clear bel A2 F2 BL2 HTR f0 f1 f2 f3 hB2; unfold Out.val)
                        | (go_at_call 23; refine (names_any _ _ hts).mono ?_; rintro e u5 ⟨v5, rfl, ow5, bel5⟩; rw [hE5]; rw [hN5] at ow5; obtain ⟨a5, c5, rfl, _, _, rd5⟩ := ow5.rd; have A5 : Hid (OwA u5 B (.slice (some ⟨g2, 0, none⟩) (pre.length + 1) cap2) (pre ++ [(p, x)])) := A4.out.below bel5; have F5 : Hid (Fa u5 (.slice (some ⟨b, q, none⟩) r.length (c - 1)) r w.heap.size (.slice (some ⟨g2, 0, none⟩) (pre.length + 1) cap2)) := F4.out.below bel5; have B5 : Hid (Below B W u5) := B4.out.trans (bel5.mono hB4); have hB5 : B ≤ u5.heap.size := Nat.le_trans hB4 bel5.size; have RD5 : Hid (RdS u5 a5 N5.length N5) := rd5; clear ow5 bel5 rd5 A4 F4 B4 hB4)
                        | (at_builtin; refine wpList_append_rdq rfl (.tmp 99) (.tmp 100) rfl u5.heap.size _ [] rfl (ow_nil u5 u5.heap.size) _ _ N5.length N5 rfl RD5.out nb1 (Nat.le_refl _) ?_; intro v6 w6 own6 grow6; have O6 : Hid (Ow w6 u5.heap.size v6 ([] ++ N5)) := own6; have B6 : Hid (Below u5.heap.size u5 w6) := (Below.refl _ _).grown grow6 (Nat.le_refl _) (fun k hk => by cases hk); have hB6 : u5.heap.size ≤ w6.heap.size := B6.out.size; have RD6 : Hid (RdS w6 (some ⟨b, q, none⟩) r.length r) := fa_rd (F5.out.below B6.out); clear own6 grow6 RD5)
                        | (at_builtin; refine wpList_append_rdq rfl (.tmp 102) (.tmp 103) rfl u5.heap.size v6 ([] ++ N5) rfl O6.out _ _ r.length r rfl RD6.out nb2 hB6 ?_; intro v7 w7 own7 grow7; have O7 : Hid (Ow w7 u5.heap.size v7 M) := (by rw [← HM.out]; exact own7); have B7 : Hid (Below u5.heap.size u5 w7) := B6.out.grown grow7 hB6 (fun k hk => (O6.out.at k hk).1); obtain ⟨a7, c7, rfl, _⟩ := O7.out.rd; clear own7 grow7 O6 B6 RD6))
                      exact ⟨⟨n - 1, M, _, k + 1, _, HGo, Fa.freshA O7.out A5.out (Nat.lt_of_lt_of_le hwB hB5), A5.out.below B7.out, B5.out.trans (B7.out.mono hB5), rfl, by go_num⟩, by simp [lenV, intOf]; omega⟩
                · have HR : Hid (R = ⟨0, pre ++ [(p, x)], fe⟩) := by
                    have := HW.out.bad HE.out hnot h8 (by rw [HO.out]; simp only [hfe]; exact hf0)
                    rw [HO.out] at this
                    simp only [hfe] at this
                    exact this
                  clear HW hnot
                  by_cases hl0 : lk.data.toList = []
                  · have hfe2 : fe = 160 := by rw [← hfe]; simp [foE, hl0]
                    subst hfe2
                    have hl1 : lk.toList = [] := by rw [toList_data]; exact hl0
                    clear hfe hf0 hl0
                    rcases hrest with ⟨hz, rfl⟩ | hz
                    all_goals
                      go_wp2_with (first
                        | (at_builtin; refine wpList_append_lies _ rfl (.tmp 38) (.tmp 42) 36 rfl B 42 i0 _ 2 24 Tryd.underlying36 hi hz0 hz1 hz2 rfl (by decide) _ _ _ rfl OW.out ⟨wr.heap.size, 0, none⟩ 1 1 [.int .i64 p, .string x] rfl rfl NB.out (by simp [Value.oneCell']) (by decide) b1 b2 b3 (wr.heap.size + 1) hH ?_; intro g2 cap2 w2 own2 grow2 wh2 lt2; have A2 : Hid (OwA w2 B (.slice (some ⟨g2, 0, none⟩) (pre.length + 1) cap2) (pre ++ [(p, x)])) := owA_new own2; have bel2 : Below B W w2 := HB.out.trans ((kp_grown grow2 B).below (Nat.le_refl _) (fun k hk => (HA.out.at k hk).1) hBr); have F2 : Hid (Fa w2 (.slice (some ⟨b, q, none⟩) r.length (c - 1)) r w.heap.size (.slice (some ⟨g2, 0, none⟩) (pre.length + 1) cap2)) := Fa.kp HF5.out (kp_grown grow2 _) (own_wh wh2); have t2 := box_kept HBX.out bel2 hwB; have f0 : w2.cell? ⟨w.heap.size, 0, none⟩ = some (.slice a0 n0 c0) := (by rw [cell_of_row _ _ 0 _ 35 (0, 0) t2]; rfl); have f1 : w2.cell? ⟨w.heap.size, 1, none⟩ = some (.slice a1 n1 c1) := (by rw [cell_of_row _ _ 1 _ 35 (0, 0) t2]; rfl); have f2 : w2.cell? ⟨w.heap.size, 2, none⟩ = some (.slice a2 n2 c2) := (by rw [cell_of_row _ _ 2 _ 35 (0, 0) t2]; rfl); have f3 : w2.cell? ⟨w.heap.size, 3, none⟩ = some (.slice a3 n3 c3) := (by rw [cell_of_row _ _ 3 _ 35 (0, 0) t2]; rfl); have HTR : Hid (TrOn w2 a0 a1 a2 a3 n0 n1 n2 n3 T) := HT.out.below (HBW.out.trans (bel2.mono (Nat.le_of_lt hwB))); have BL2 : Hid (Below B W w2) := bel2; have hB2 : B ≤ w2.heap.size := Nat.le_trans hBr (kp_grown grow2 B).size; clear t2 bel2 own2 grow2 wh2 lt2 OW NB HA HF5 HF HB)
                        | (go_at_call 15; refine (step_any a0 a1 a2 a3 n0 n1 n2 n3 c0 c1 c2 c3 T p x _ HTR.out).mono ?_; rintro e u4 ⟨rfl, bel⟩; rw [HO.out]; have A4 : Hid (OwA u4 B (.slice (some ⟨g2, 0, none⟩) (pre.length + 1) cap2) (pre ++ [(p, x)])) := A2.out.below bel; have F4 : Hid (Fa u4 (.slice (some ⟨b, q, none⟩) r.length (c - 1)) r w.heap.size (.slice (some ⟨g2, 0, none⟩) (pre.length + 1) cap2)) := F2.out.below bel; have B4 : Hid (Below B W u4) := BL2.out.trans (bel.mono hB2); have hB4 : B ≤ u4.heap.size := Nat.le_trans hB2 bel.size; clear bel A2 F2 BL2 HTR f0 f1 f2 f3 hB2; unfold Out.val))
                      refine bodyPost_ret (results_tmp3 rfl _ _ _) rfl ?_
                      exact ⟨_, by rw [HR.out]; rfl, by rw [HR.out]; exact owA_low A4.out (Nat.le_of_lt hwB), HBW.out.trans (B4.out.mono (Nat.le_of_lt hwB))⟩
                  · obtain ⟨t, ht, hts, hway⟩ := lk_way lk hll hl0
                    obtain ⟨N5, hN5⟩ : ∃ N5, nmN t = N5 := ⟨_, rfl⟩
                    have hNN : spN (lkT lk) = N5 := by rw [(lk_sp lk).2, ht]; exact hN5
                    have hEE : spE (lkT lk) = nmE t := by rw [(lk_sp lk).1, ht]
                    rw [foE, if_neg hl0, hNN, hEE] at hfe
                    have hN64 : N5.length ≤ 64 := by
                      by_cases e : spE (lkT lk) = 0
                      · have := (sp_facts e).2.2.2.1; rw [← hNN, (sp_facts e).2.2.2.2.2]; omega
                      · rw [← hNN]; simp [spN, e]
                    clear hNN hEE ht
                    by_cases hE5 : nmE t = 0
                    · rw [if_pos hE5] at hfe
                      have hbig : 64 < N5.length + r.length := by
                        rcases Nat.lt_or_ge 64 (N5.length + r.length) with h | h
                        · exact h
                        · rw [if_neg (by omega)] at hfe; exact absurd hfe.symm hf0
                      rw [if_pos hbig] at hfe
                      subst hfe
                      have d1 : (64 : Int) < (N5.length : Int) + (r.length : Int) := by omega
                      clear hbig hf0 hl0
                      rcases hway with ⟨hb, hl1, hl2, hl3, ⟨hl7, hl4⟩, hl5, rfl⟩ | ⟨hb, hl1, hl2, hl3, ⟨hl7, hl4⟩, hl5, hl6⟩
                      all_goals
                        clear hb
                        rcases hrest with ⟨hz, rfl⟩ | hz
                        all_goals
                          go_wp2_with (first
                            | (at_builtin; refine wpList_append_lies _ rfl (.tmp 38) (.tmp 42) 36 rfl B 42 i0 _ 2 24 Tryd.underlying36 hi hz0 hz1 hz2 rfl (by decide) _ _ _ rfl OW.out ⟨wr.heap.size, 0, none⟩ 1 1 [.int .i64 p, .string x] rfl rfl NB.out (by simp [Value.oneCell']) (by decide) b1 b2 b3 (wr.heap.size + 1) hH ?_; intro g2 cap2 w2 own2 grow2 wh2 lt2; have A2 : Hid (OwA w2 B (.slice (some ⟨g2, 0, none⟩) (pre.length + 1) cap2) (pre ++ [(p, x)])) := owA_new own2; have bel2 : Below B W w2 := HB.out.trans ((kp_grown grow2 B).below (Nat.le_refl _) (fun k hk => (HA.out.at k hk).1) hBr); have F2 : Hid (Fa w2 (.slice (some ⟨b, q, none⟩) r.length (c - 1)) r w.heap.size (.slice (some ⟨g2, 0, none⟩) (pre.length + 1) cap2)) := Fa.kp HF5.out (kp_grown grow2 _) (own_wh wh2); have t2 := box_kept HBX.out bel2 hwB; have f0 : w2.cell? ⟨w.heap.size, 0, none⟩ = some (.slice a0 n0 c0) := (by rw [cell_of_row _ _ 0 _ 35 (0, 0) t2]; rfl); have f1 : w2.cell? ⟨w.heap.size, 1, none⟩ = some (.slice a1 n1 c1) := (by rw [cell_of_row _ _ 1 _ 35 (0, 0) t2]; rfl); have f2 : w2.cell? ⟨w.heap.size, 2, none⟩ = some (.slice a2 n2 c2) := (by rw [cell_of_row _ _ 2 _ 35 (0, 0) t2]; rfl); have f3 : w2.cell? ⟨w.heap.size, 3, none⟩ = some (.slice a3 n3 c3) := (by rw [cell_of_row _ _ 3 _ 35 (0, 0) t2]; rfl); have HTR : Hid (TrOn w2 a0 a1 a2 a3 n0 n1 n2 n3 T) := HT.out.below (HBW.out.trans (bel2.mono (Nat.le_of_lt hwB))); have BL2 : Hid (Below B W w2) := bel2; have hB2 : B ≤ w2.heap.size := Nat.le_trans hBr (kp_grown grow2 B).size; clear t2 bel2 own2 grow2 wh2 lt2 OW NB HA HF5 HF HB)
                            | (go_at_call 15; refine (step_any a0 a1 a2 a3 n0 n1 n2 n3 c0 c1 c2 c3 T p x _ HTR.out).mono ?_; rintro e u4 ⟨rfl, bel⟩; rw [HO.out]; have A4 : Hid (OwA u4 B (.slice (some ⟨g2, 0, none⟩) (pre.length + 1) cap2) (pre ++ [(p, x)])) := A2.out.below bel; have F4 : Hid (Fa u4 (.slice (some ⟨b, q, none⟩) r.length (c - 1)) r w.heap.size (.slice (some ⟨g2, 0, none⟩) (pre.length + 1) cap2)) := F2.out.below bel; have B4 : Hid (Below B W u4) := BL2.out.trans (bel.mono hB2); have hB4 : B ≤ u4.heap.size := Nat.le_trans hB2 bel.size; clear bel A2 F2 BL2 HTR f0 f1 f2 f3 hB2; unfold Out.val)
                            | (go_at_call 23; refine (names_any _ _ hts).mono ?_; rintro e u5 ⟨v5, rfl, ow5, bel5⟩; rw [hE5]; rw [hN5] at ow5; obtain ⟨a5, c5, rfl, _, _, rd5⟩ := ow5.rd; have A5 : Hid (OwA u5 B (.slice (some ⟨g2, 0, none⟩) (pre.length + 1) cap2) (pre ++ [(p, x)])) := A4.out.below bel5; have F5 : Hid (Fa u5 (.slice (some ⟨b, q, none⟩) r.length (c - 1)) r w.heap.size (.slice (some ⟨g2, 0, none⟩) (pre.length + 1) cap2)) := F4.out.below bel5; have B5 : Hid (Below B W u5) := B4.out.trans (bel5.mono hB4); have hB5 : B ≤ u5.heap.size := Nat.le_trans hB4 bel5.size; have RD5 : Hid (RdS u5 a5 N5.length N5) := rd5; clear ow5 bel5 rd5 A4 F4 B4 hB4))
                          refine bodyPost_ret (results_tmp3 rfl _ _ _) rfl ?_
                          exact ⟨_, by rw [HR.out]; rfl, by rw [HR.out]; exact owA_low A5.out (Nat.le_of_lt hwB), HBW.out.trans (B5.out.mono (Nat.le_of_lt hwB))⟩
                    · rw [if_neg hE5] at hfe
                      have e5 : (fe == 0) = false := by simpa using hf0
                      have hE6 := hfe
                      clear hE5 hf0 hl0 hfe
                      have hE5 := hE6
                      clear hE6
                      rcases hway with ⟨hb, hl1, hl2, hl3, ⟨hl7, hl4⟩, hl5, rfl⟩ | ⟨hb, hl1, hl2, hl3, ⟨hl7, hl4⟩, hl5, hl6⟩
                      all_goals
                        clear hb
                        rcases hrest with ⟨hz, rfl⟩ | hz
                        all_goals
                          go_wp2_with (first
                            | (at_builtin; refine wpList_append_lies _ rfl (.tmp 38) (.tmp 42) 36 rfl B 42 i0 _ 2 24 Tryd.underlying36 hi hz0 hz1 hz2 rfl (by decide) _ _ _ rfl OW.out ⟨wr.heap.size, 0, none⟩ 1 1 [.int .i64 p, .string x] rfl rfl NB.out (by simp [Value.oneCell']) (by decide) b1 b2 b3 (wr.heap.size + 1) hH ?_; intro g2 cap2 w2 own2 grow2 wh2 lt2; have A2 : Hid (OwA w2 B (.slice (some ⟨g2, 0, none⟩) (pre.length + 1) cap2) (pre ++ [(p, x)])) := owA_new own2; have bel2 : Below B W w2 := HB.out.trans ((kp_grown grow2 B).below (Nat.le_refl _) (fun k hk => (HA.out.at k hk).1) hBr); have F2 : Hid (Fa w2 (.slice (some ⟨b, q, none⟩) r.length (c - 1)) r w.heap.size (.slice (some ⟨g2, 0, none⟩) (pre.length + 1) cap2)) := Fa.kp HF5.out (kp_grown grow2 _) (own_wh wh2); have t2 := box_kept HBX.out bel2 hwB; have f0 : w2.cell? ⟨w.heap.size, 0, none⟩ = some (.slice a0 n0 c0) := (by rw [cell_of_row _ _ 0 _ 35 (0, 0) t2]; rfl); have f1 : w2.cell? ⟨w.heap.size, 1, none⟩ = some (.slice a1 n1 c1) := (by rw [cell_of_row _ _ 1 _ 35 (0, 0) t2]; rfl); have f2 : w2.cell? ⟨w.heap.size, 2, none⟩ = some (.slice a2 n2 c2) := (by rw [cell_of_row _ _ 2 _ 35 (0, 0) t2]; rfl); have f3 : w2.cell? ⟨w.heap.size, 3, none⟩ = some (.slice a3 n3 c3) := (by rw [cell_of_row _ _ 3 _ 35 (0, 0) t2]; rfl); have HTR : Hid (TrOn w2 a0 a1 a2 a3 n0 n1 n2 n3 T) := HT.out.below (HBW.out.trans (bel2.mono (Nat.le_of_lt hwB))); have BL2 : Hid (Below B W w2) := bel2; have hB2 : B ≤ w2.heap.size := Nat.le_trans hBr (kp_grown grow2 B).size; clear t2 bel2 own2 grow2 wh2 lt2 OW NB HA HF5 HF HB)
                            | (go_at_call 15; refine (step_any a0 a1 a2 a3 n0 n1 n2 n3 c0 c1 c2 c3 T p x _ HTR.out).mono ?_; rintro e u4 ⟨rfl, bel⟩; rw [HO.out]; have A4 : Hid (OwA u4 B (.slice (some ⟨g2, 0, none⟩) (pre.length + 1) cap2) (pre ++ [(p, x)])) := A2.out.below bel; have F4 : Hid (Fa u4 (.slice (some ⟨b, q, none⟩) r.length (c - 1)) r w.heap.size (.slice (some ⟨g2, 0, none⟩) (pre.length + 1) cap2)) := F2.out.below bel; have B4 : Hid (Below B W u4) := BL2.out.trans (bel.mono hB2); have hB4 : B ≤ u4.heap.size := Nat.le_trans hB2 bel.size; clear bel A2 F2 BL2 HTR f0 f1 f2 f3 hB2; unfold Out.val)
                            | (go_at_call 23; refine (names_any _ _ hts).mono ?_; rintro e u5 ⟨v5, rfl, ow5, bel5⟩; rw [hE5]; rw [hN5] at ow5; obtain ⟨a5, c5, rfl, _, _, rd5⟩ := ow5.rd; have A5 : Hid (OwA u5 B (.slice (some ⟨g2, 0, none⟩) (pre.length + 1) cap2) (pre ++ [(p, x)])) := A4.out.below bel5; have F5 : Hid (Fa u5 (.slice (some ⟨b, q, none⟩) r.length (c - 1)) r w.heap.size (.slice (some ⟨g2, 0, none⟩) (pre.length + 1) cap2)) := F4.out.below bel5; have B5 : Hid (Below B W u5) := B4.out.trans (bel5.mono hB4); have hB5 : B ≤ u5.heap.size := Nat.le_trans hB4 bel5.size; have RD5 : Hid (RdS u5 a5 N5.length N5) := rd5; clear ow5 bel5 rd5 A4 F4 B4 hB4))
                          refine bodyPost_ret (results_tmp3 rfl _ _ _) rfl ?_
                          exact ⟨_, by rw [HR.out]; rfl, by rw [HR.out]; exact owA_low A5.out (Nat.le_of_lt hwB), HBW.out.trans (B5.out.mono (Nat.le_of_lt hwB))⟩
          · have HR : Hid (R = ⟨0, pre ++ [(p, x)], ee⟩) := by
              have := HW.out.err (by rw [HO.out]; exact he)
              rw [HO.out] at this
              exact this
            have e1 : (ee == 0) = false := by simpa using he
            clear HW
            go_wp2_with (first
              | (at_builtin; refine wpList_append_lies _ rfl (.tmp 38) (.tmp 42) 36 rfl B 42 i0 _ 2 24 Tryd.underlying36 hi hz0 hz1 hz2 rfl (by decide) _ _ _ rfl OW.out ⟨wr.heap.size, 0, none⟩ 1 1 [.int .i64 p, .string x] rfl rfl NB.out (by simp [Value.oneCell']) (by decide) b1 b2 b3 (wr.heap.size + 1) hH ?_; intro g2 cap2 w2 own2 grow2 wh2 lt2; have A2 : Hid (OwA w2 B (.slice (some ⟨g2, 0, none⟩) (pre.length + 1) cap2) (pre ++ [(p, x)])) := owA_new own2; have bel2 : Below B W w2 := HB.out.trans ((kp_grown grow2 B).below (Nat.le_refl _) (fun k hk => (HA.out.at k hk).1) hBr); have F2 : Hid (Fa w2 (.slice (some ⟨b, q, none⟩) r.length (c - 1)) r w.heap.size (.slice (some ⟨g2, 0, none⟩) (pre.length + 1) cap2)) := Fa.kp HF5.out (kp_grown grow2 _) (own_wh wh2); have t2 := box_kept HBX.out bel2 hwB; have f0 : w2.cell? ⟨w.heap.size, 0, none⟩ = some (.slice a0 n0 c0) := (by rw [cell_of_row _ _ 0 _ 35 (0, 0) t2]; rfl); have f1 : w2.cell? ⟨w.heap.size, 1, none⟩ = some (.slice a1 n1 c1) := (by rw [cell_of_row _ _ 1 _ 35 (0, 0) t2]; rfl); have f2 : w2.cell? ⟨w.heap.size, 2, none⟩ = some (.slice a2 n2 c2) := (by rw [cell_of_row _ _ 2 _ 35 (0, 0) t2]; rfl); have f3 : w2.cell? ⟨w.heap.size, 3, none⟩ = some (.slice a3 n3 c3) := (by rw [cell_of_row _ _ 3 _ 35 (0, 0) t2]; rfl); have HTR : Hid (TrOn w2 a0 a1 a2 a3 n0 n1 n2 n3 T) := HT.out.below (HBW.out.trans (bel2.mono (Nat.le_of_lt hwB))); have BL2 : Hid (Below B W w2) := bel2; have hB2 : B ≤ w2.heap.size := Nat.le_trans hBr (kp_grown grow2 B).size; clear t2 bel2 own2 grow2 wh2 lt2 OW NB HA HF5 HF HB)
              | (go_at_call 15; refine (step_any a0 a1 a2 a3 n0 n1 n2 n3 c0 c1 c2 c3 T p x _ HTR.out).mono ?_; rintro e u4 ⟨rfl, bel⟩; rw [HO.out]; have A4 : Hid (OwA u4 B (.slice (some ⟨g2, 0, none⟩) (pre.length + 1) cap2) (pre ++ [(p, x)])) := A2.out.below bel; have F4 : Hid (Fa u4 (.slice (some ⟨b, q, none⟩) r.length (c - 1)) r w.heap.size (.slice (some ⟨g2, 0, none⟩) (pre.length + 1) cap2)) := F2.out.below bel; have B4 : Hid (Below B W u4) := BL2.out.trans (bel.mono hB2); have hB4 : B ≤ u4.heap.size := Nat.le_trans hB2 bel.size; clear bel A2 F2 BL2 HTR f0 f1 f2 f3 hB2; unfold Out.val))
            refine bodyPost_ret (results_tmp3 rfl _ _ _) rfl ?_
            exact ⟨_, by rw [HR.out]; rfl, by rw [HR.out]; exact owA_low A4.out (Nat.le_of_lt hwB), HBW.out.trans (B4.out.mono (Nat.le_of_lt hwB))⟩
  · have hR : resW T s last = ⟨0, [], E⟩ := by simp [resW, hE, h0]
    rw [hR]
    have e1 : (E == 0) = false := by simpa using h0
    go_enter Tryd.func12, Tryd.ntmps12
    go_wp2_with (go_at_call 8; refine (rsplit_any _ _ hs).mono ?_; rintro e u ⟨v1, rfl, ow, bel⟩; rw [hE]; obtain ⟨aa, cc, rfl, _⟩ := ow.rd; have B1 : Hid (Below w.heap.size w u) := HBW.out.trans (bel.mono (by omega)); clear ow bel)
    refine bodyPost_ret (results_tmp3 rfl _ _ _) rfl ?_
    exact ⟨_, rfl, owA_nil _ _, B1.out⟩
end Go.Proofs.YtmbdacdgbmpedaaDoor
