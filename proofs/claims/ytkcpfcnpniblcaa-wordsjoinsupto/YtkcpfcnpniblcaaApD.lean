/-
  SEAT Ytkcpfcnpniblcaa: apart.
-/
import Derived.Test.YtkcpfcnpniblcaaApC
namespace Go.Proofs.Ytkcpfcnpniblcaa
open Go.RowKit
set_option linter.unusedVariables false

set_option maxHeartbeats 1000000 in
set_option maxRecDepth 100000 in
theorem apart_any (w : World) (B G m cm : Nat) (vs : Nat → Value) (ns : Nat → Nat) (X : Nat → List Int) (hA : Apart w B G m vs ns X) (hm : m ≤ 100) (hB : B ≤ w.heap.size) :
    Calls Try.prog 11 #[.slice (some ⟨G, 0, none⟩) m cm] w fun e w' => e = .returned (.bool true) ∧ Below B w w' := by
  have HA : Hid (Apart w B G m vs ns X) := hA
  clear hA
  go_enter Try.func11, Try.ntmps11
  go_wp2
  go_loopw [4] (fun i wr => ∃ k : Nat, k ≤ m ∧ i = .int .i64 k ∧ Hid (Apart wr B G m vs ns (part1 ns X k)) ∧ Below B w wr)
    (fun i _ => m - (intOf i).toNat)
  case atStart =>
    refine ⟨0, Nat.zero_le _, rfl, ?_, Below.refl _ _⟩
    have e : part1 ns X 0 = X := by funext j; simp [part1]
    rw [e]
    exact HA
  case round =>
    obtain ⟨i, hi, rfl, HA1, bel1⟩ := hrel
    by_cases hlt : i < m
    · have hrow := HA1.out.rows i hlt
      have e0 : part1 ns X i i = X i := by simp [part1]
      rw [e0] at hrow
      obtain ⟨n, hn⟩ : ∃ n, n = ns i := ⟨_, rfl⟩
      obtain ⟨v, hv⟩ : ∃ v, v = vs i := ⟨_, rfl⟩
      rw [← hn, ← hv] at hrow
      have hxl : (X i).length = n := by have := hrow.1; simpa using this
      obtain ⟨a, c, rfl⟩ := own_form hrow
      have hc := HA1.out.outer i hlt
      rw [← hv] at hc
      have hGs := HA1.out.hG
      have hGn : (Value.slice a n c).ownBlock ≠ some G := by rw [hv]; exact HA1.out.neG i hlt
      have hns : n ≤ 140737488355000 := by rw [hn]; exact HA1.out.small i hlt
      have HN : Hid (n = ns i) := hn
      have HV : Hid (Value.slice a n c = vs i) := hv
      have m1 : (i : Int) < (m : Int) := by omega
      have hd1 : decide ((i : Int) < (m : Int)) = true := decide_eq_true m1
      clear hn hv
      go_wp2
      go_loopw [5] (fun kk wq => ∃ k : Nat, k ≤ n ∧ kk = .int .i64 k ∧ wq.ownsRow B 5 1 (.slice a n c) n ((fillT i k (X i)).map (Value.int .u8)) ∧ wr.grownBy wq (Value.slice a n c).ownBlock ∧ Below B w wq)
        (fun kk _ => n - (intOf kk).toNat)
      case atStart => exact ⟨0, Nat.zero_le _, rfl, by simpa [fillT] using hrow, World.grownBy.refl _ _, bel1⟩
      case round =>
        obtain ⟨k, hk, rfl, hrow2, hg2, bel2⟩ := hrel
        clear hrow
        have hc2 := (World.cell?_of_block (a := ⟨G, i, none⟩) (hg2.block G hGs (fun e => hGn e.symm))).trans hc
        by_cases hlt2 : k < n
        · obtain ⟨g, cap, hsh, hcap, _, hBg, hgl⟩ := own_shape hrow2 (by omega)
          cases hsh
          have hcx := Own.cell (xs := fillT i k (X i)) hrow2 k hlt2
          have hfz := World.ownsRow.frozenAt hrow2 k
          have hset := Own.set (xs := fillT i k (X i)) hrow2 k (mt i)
          have hset1 := hset.1
          rw [fillT_step i k (X i) (by omega)] at hset1
          have hgs := grownBy_trans hg2 hset.2
          have HS : Hid (Own _ _ _ _ _ _) := hset1
          have HG : Hid (World.grownBy _ _ _) := hgs
          have m2 : (k : Int) < (n : Int) := by omega
          have hd2 : decide ((k : Int) < (n : Int)) = true := decide_eq_true m2
          have hbs := bel2.setCell (p := ⟨g, k, none⟩) hBg (.int .u8 (mt i))
          have HBS : Hid (Below _ _ _) := hbs
          clear hset hset1 hgs hbs hrow2 hg2
          go_wp2
          go_roundw
          case rel => exact ⟨k + 1, by omega, by go_num, HS.out, HG.out, HBS.out⟩
          case measure => simp [intOf]; omega
        · have hkn : k = n := by omega
          rw [hkn, fillT_all i n (X i) hxl] at hrow2
          have hA2 : Apart wr B G m vs ns (part1 ns X (i + 1)) := by
            refine HA1.out.move i hlt (by rw [← HV.out]; exact hg2) ?_ ?_
            · have e1 : part1 ns X (i + 1) i = markT i n := by simp [part1, HN.out]
              rw [e1, ← HV.out, ← HN.out]
              exact hrow2
            · intro j hj hne
              unfold part1
              by_cases h1 : j < i
              · rw [if_pos h1, if_pos (by omega)]
              · rw [if_neg h1, if_neg (by omega)]
          have HA2 : Hid (Apart _ _ _ _ _ _ _) := hA2
          clear hA2 hrow2
          go_wp2
          go_roundw
          case rel => exact ⟨i + 1, by omega, by go_num, HA2, bel2⟩
          case measure => simp [intOf]; omega
    · have him : m = i := by omega
      subst him
      have h0 : Second wr B wr.heap.size G m vs ns 0 (.slice none 0 0) (fun _ => .slice none 0 0) := by
        obtain ⟨a1, a2, a3, a4, a5, a6⟩ := HA1.out
        refine ⟨⟨a1, a2, fun j hj => ?_, a4, a5, a6⟩, a6, World.ownsRow_nil _ _ _ _, fun j hj => by omega, fun j l hj => by omega⟩
        have := a3 j hj
        rwa [part1, if_pos (by omega)] at this
      obtain ⟨B2, hB2⟩ : ∃ B2, B2 = wr.heap.size := ⟨_, rfl⟩
      rw [← hB2] at h0
      have H0 : Hid (Second wr B B2 G m vs ns 0 (.slice none 0 0) (fun _ => .slice none 0 0)) := h0
      have hBB : B ≤ B2 := by have := bel1.size; omega
      have hB2w : B2 ≤ wr.heap.size := by omega
      obtain ⟨j0, hj, jz0, jz1, jz2⟩ := info_parts info22
      clear h0 hB2 HA1 HA
      go_wp2
      go_loopw [3, 6] (fun gv ii wq => ∃ (k : Nat) (gs : Nat → Value), k ≤ m ∧ ii = .int .i64 k ∧ Hid (Second wq B B2 G m vs ns k gv gs) ∧ Below B w wq ∧ B2 ≤ wq.heap.size)
        (fun _ ii _ => m - (intOf ii).toNat)
      case atStart => exact ⟨0, _, Nat.zero_le _, rfl, H0, bel1, hB2w⟩
      case round =>
        obtain ⟨k, gs, hk, rfl, HS2, bel2, hB2q⟩ := hrel
        clear H0 bel1 hB2w
        obtain ⟨ga, gc, hgv⟩ := own_form22 HS2.out.list
        subst hgv
        by_cases hlt2 : k < m
        · have hrow := HS2.out.ap.rows k hlt2
          obtain ⟨n, hn⟩ : ∃ n, n = ns k := ⟨_, rfl⟩
          obtain ⟨v, hv⟩ : ∃ v, v = vs k := ⟨_, rfl⟩
          rw [← hn, ← hv] at hrow
          obtain ⟨a, c, rfl⟩ := own_form hrow
          have hc := HS2.out.ap.outer k hlt2
          rw [← hv] at hc
          have hns : n ≤ 140737488355000 := by rw [hn]; exact HS2.out.ap.small k hlt2
          have HN : Hid (n = ns k) := hn
          have HV : Hid (Value.slice a n c = vs k) := hv
          have HG0 : Hid (Grown wr wr B (.slice a n c) (.slice a n c) n 0 (markT k n) []) := grown_start hrow
          have hBw : B ≤ wr.heap.size := by omega
          have m1 : (k : Int) < (m : Int) := by omega
          have hd1 : decide ((k : Int) < (m : Int)) = true := decide_eq_true m1
          clear hn hv hrow
          go_wp2
          go_loopw [7, 8] (fun v tt wq => ∃ t : Nat, t ≤ 64 ∧ tt = .int .i64 t ∧ Hid (Grown wr wq B (.slice a n c) v n t (markT k n) (markT k t)) ∧ Below B w wq)
            (fun _ tt _ => 64 - (intOf tt).toNat)
          case atStart => exact ⟨0, by omega, rfl, HG0, bel2⟩
          case round =>
            obtain ⟨t, ht, rfl, HGr, bel3⟩ := hrel
            clear HG0
            by_cases hlt3 : t < 64
            · have HM : Hid (markT k (t + 1) = markT k t ++ [mt k]) := by unfold Hid; rw [markT_succ]
              have hGr := HGr.out
              have m2 : (t : Int) < 64 := by omega
              have hd2 : decide ((t : Int) < 64) = true := decide_eq_true m2
              clear HGr
              go_wp2_with (
                (at_builtin; refine wpList_grow rfl (.tmp 49) (.tmp 53) rfl hGr hBw (mt k) (mt_range k (by omega)) (by omega) rfl rfl ?_; intro v5 w5 hg5 bel5; rw [← HM.out] at hg5))
              have HG5 : Hid (Grown _ _ _ _ _ _ _ _ _) := hg5
              have bel6 := bel3.trans bel5
              clear hGr hg5 bel5
              go_wp2
              go_roundw
              case rel => exact ⟨t + 1, by omega, by go_num, HG5, bel6⟩
              case measure => simp [intOf]; omega
            · have ht9 : t = 64 := by omega
              subst ht9
              have hGr := HGr.out
              obtain ⟨g5, c5, rfl, _, _, _, _⟩ := own_shape hGr.new (by omega)
              have hlist : wr.ownsRow B2 22 1 (.slice ga k gc) k ((List.range k).map gs) := by
                refine HS2.out.list.kept hGr.grow ?_
                have := types_apart HS2.out.list (HS2.out.ap.rows k hlt2)
                rw [← HV.out] at this
                exact this
              have hsz6 : B2 ≤ wr.heap.size := by have := hGr.grow.size; omega
              have hgl : B ≤ B2 := hBB
              go_wp2_with (
                (at_builtin; refine wpList_append_own _ rfl (.tmp 55) (.tmp 57) 28 rfl B2 22 j0 (.slice none 0 0) 1 24 Try.underlying28 hj jz0 jz1 jz2 rfl (by decide) _ _ _ rfl (hlist.alloc _) ⟨_, 0, none⟩ 1 1 [.slice (some ⟨g5, 0, none⟩) (n + 64) c5] rfl rfl ?_ ?_ ?_ ?_ ?_ ?_; (first | (intro j u hj; match j, hj with | 0, hj => simp at hj; subst hj; simp [Addr.add])); (simp [Value.oneCell']); (simp [maxLen]; omega); omega; (simp; omega); intro v6 w6 hown6 hgrow6 _))
              have hS3 : Second w6 B B2 G m vs ns (k + 1) v6 (fun j => if j = k then .slice (some ⟨g5, 0, none⟩) (n + 64) c5 else gs j) := by
                have hgr := hGr
                rw [HV.out, HN.out] at hgr
                have := HS2.out.more hlt2 hgr (grownBy_trans (World.grownBy_alloc wr _ _) hgrow6) (by rw [← HN.out]; exact hown6)
                rw [HN.out]
                exact this
              have HS3 : Hid (Second _ _ _ _ _ _ _ _ _ _) := hS3
              have bel7 : Below B w w6 := (bel3.alloc (by have := bel3.size; omega) _).grown hgrow6 (by have := bel3.size; simp; omega) (fun q hq => by have := (hlist.lt q hq).1; omega)
              have hsz7 : B2 ≤ w6.heap.size := by have := hgrow6.size; simp at this; omega
              clear hS3 hlist hGr hown6 hgrow6 HS2 HGr
              go_wp2
              go_roundw
              case rel => exact ⟨k + 1, _, by omega, by go_num, HS3, bel7, hsz7⟩
              case measure => simp [intOf]; omega
        · have hkm : m = k := by omega
          subst hkm
          have n3 : ∀ i, i < m → ∃ a c g c2 gg, ga = some ⟨gg, 0, none⟩ ∧ wr.cell? ⟨G, i, none⟩ = some (.slice a (ns i) c) ∧ wr.cell? ⟨gg, i, none⟩ = some (.slice (some ⟨g, 0, none⟩) (ns i + 64) c2) ∧ ns i ≤ 140737488355000 ∧
              (∀ t, t < ns i → ∃ q, a = some ⟨q, 0, none⟩ ∧ wr.cell? ⟨q, t, none⟩ = some (.int .u8 (mt i))) ∧ ∀ t, t < ns i + 64 → wr.cell? ⟨g, t, none⟩ = some (.int .u8 (mt i)) := by
            intro i hi
            have hrow := HS2.out.ap.rows i hi
            have hrow2 := HS2.out.rows i hi
            rw [markT_add] at hrow2
            obtain ⟨a, c, hv⟩ := own_form hrow
            obtain ⟨g, c2, hg, _, _, _, _⟩ := own_shape hrow2 (by omega)
            have hlist := HS2.out.list
            obtain ⟨gg, hgg⟩ : ∃ gg, ga = some ⟨gg, 0, none⟩ := by
              rcases hlist.2 with ⟨h, h0⟩ | ⟨g', cap', cur, h, _⟩
              · omega
              · cases h; exact ⟨_, rfl⟩
            subst hgg
            refine ⟨a, c, g, c2, gg, rfl, ?_, ?_, HS2.out.ap.small i hi, ?_, ?_⟩
            · rw [HS2.out.ap.outer i hi, hv]
            · have := World.ownsRow.cellAt hlist i (by omega)
              rw [this, List.getElem?_map, List.getElem?_range hi, Option.map_some, hg]
            · intro t ht
              obtain ⟨q, cq, hq, _, _, _, _⟩ := own_shape hrow (by omega)
              rw [hv] at hq
              cases hq
              rw [hv] at hrow
              refine ⟨q, rfl, ?_⟩
              rw [Own.cell (xs := markT i (ns i)) hrow t ht, markT_getD i (ns i) t ht]
            · intro t ht
              rw [hg] at hrow2
              rw [Own.cell (xs := markT i (ns i + 64)) hrow2 t ht, markT_getD i (ns i + 64) t ht]
          have H3 : Hid _ := n3
          clear n3 HS2
          go_wp2
          go_loopw [9] (fun ii wq => ∃ (i j : Nat), i ≤ m ∧ ii = .int .i64 i ∧ wq = wr.drewN j)
            (fun ii _ => m - (intOf ii).toNat)
          case atStart => exact ⟨0, 0, Nat.zero_le _, rfl, rfl⟩
          case round =>
            obtain ⟨i, j, hi, rfl, rfl⟩ := hrel
            by_cases hlt3 : i < m
            · obtain ⟨a, c, g, c2, gg, rfl, hcG, hcg, hns, hrow, hrow2⟩ := H3.out i hlt3
              obtain ⟨n, hn⟩ : ∃ n, n = ns i := ⟨_, rfl⟩
              rw [← hn] at hcG hcg hns hrow hrow2
              have HROW : Hid (∀ t, t < n → ∃ q, a = some ⟨q, 0, none⟩ ∧ wr.cell? ⟨q, t, none⟩ = some (.int .u8 (mt i))) := hrow
              have HROW2 : Hid (∀ t, t < n + 64 → wr.cell? ⟨g, t, none⟩ = some (.int .u8 (mt i))) := hrow2
              have m1 : (i : Int) < (m : Int) := by omega
              have hd1 : decide ((i : Int) < (m : Int)) = true := decide_eq_true m1
              clear hn hrow hrow2
              go_wp2
              go_loopw [10] (fun tt wq => ∃ (t j2 : Nat), t ≤ n + 64 ∧ tt = .int .i64 t ∧ wq = wr.drewN j2)
                (fun tt _ => n + 64 - (intOf tt).toNat)
              case atStart => exact ⟨0, j, Nat.zero_le _, rfl, rfl⟩
              case round =>
                obtain ⟨t, j2, ht, rfl, rfl⟩ := hrel
                by_cases hlt4 : t < n + 64
                · have hcq2 := HROW2.out t hlt4
                  have hz0 : mt i = 17 + (i : Int) := rfl
                  rw [hz0] at hcq2
                  have m2 : (t : Int) < (n : Int) + 64 := by omega
                  have hd2 : decide ((t : Int) < (n : Int) + 64) = true := decide_eq_true m2
                  by_cases hlt5 : t < n
                  · obtain ⟨q, rfl, hcq⟩ := HROW.out t hlt5
                    rw [hz0] at hcq
                    clear hz0
                    have m3 : (t : Int) < (n : Int) := by omega
                    have hd3 : decide ((t : Int) < (n : Int)) = true := decide_eq_true m3
                    go_wp2
                    go_roundw
                    case rel => exact ⟨t + 1, _, by omega, by go_num, rfl⟩
                    case measure => simp [intOf]; omega
                  · clear hz0
                    have m3 : ¬ (t : Int) < (n : Int) := by omega
                    have hd3 : decide ((t : Int) < (n : Int)) = false := decide_eq_false m3
                    go_wp2
                    go_roundw
                    case rel => exact ⟨t + 1, _, by omega, by go_num, rfl⟩
                    case measure => simp [intOf]; omega
                · have htn : t = n + 64 := by omega
                  subst htn
                  go_wp2
                  go_roundw
                  case rel => exact ⟨i + 1, j2, by omega, by go_num, rfl⟩
                  case measure => simp [intOf]; omega
            · have him2 : m = i := by omega
              subst him2
              go_wp2
              go_ret
              exact ⟨rfl, below_drewN bel2 _⟩
end Go.Proofs.Ytkcpfcnpniblcaa
