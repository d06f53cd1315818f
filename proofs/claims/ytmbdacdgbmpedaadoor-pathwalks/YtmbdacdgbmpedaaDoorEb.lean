/-
  SEAT YtmbdacdgbmpedaaDoor: own.
-/
import Derived.Test.YtmbdacdgbmpedaaDoorEa
namespace Go.Proofs.YtmbdacdgbmpedaaDoor
open Go.RowKit
set_option linter.unusedVariables false

def grownS : ByteArray := ⟨#[103, 114, 111, 119, 110]⟩
set_option maxHeartbeats 4000000 in
set_option maxRecDepth 100000 in
theorem owns_any (w : World) (B G m cm : Nat) (vs : Nat → Value) (ns : Nat → Nat) (X : Nat → List ByteArray) (hA : Apart (w.alloc (.cells #[.string ⟨#[109, 48]⟩, .string ⟨#[109, 49]⟩, .string ⟨#[109, 50]⟩, .string ⟨#[109, 51]⟩, .string ⟨#[109, 52]⟩, .string ⟨#[109, 53]⟩, .string ⟨#[109, 54]⟩, .string ⟨#[109, 55]⟩] 9)) B G w.heap.size m vs ns X) (hm : m ≤ 8) (hB : B ≤ w.heap.size) :
    Calls Tryd.prog 11 #[.slice (some ⟨G, 0, none⟩) m cm] w fun e w' => e = .returned (.bool true) ∧ Below B w w' := by
  obtain ⟨K, hK⟩ : ∃ K, w.heap.size = K := ⟨_, rfl⟩
  obtain ⟨wm, hwm⟩ : ∃ wm, w.alloc (.cells #[.string ⟨#[109, 48]⟩, .string ⟨#[109, 49]⟩, .string ⟨#[109, 50]⟩, .string ⟨#[109, 51]⟩, .string ⟨#[109, 52]⟩, .string ⟨#[109, 53]⟩, .string ⟨#[109, 54]⟩, .string ⟨#[109, 55]⟩] 9) = wm := ⟨_, rfl⟩
  rw [hK, hwm] at hA
  have bel0 : Below B w wm := by rw [← hwm]; exact (Below.refl _ _).alloc hB _
  have HK : Hid (w.heap.size = K) := hK
  have HA : Hid (Apart wm B G K m vs ns X) := hA
  clear hA
  go_enter Tryd.func11, Tryd.ntmps11
  go_wp2
  clear hK hwm
  go_loopw [4] (fun i wr => ∃ k : Nat, k ≤ m ∧ i = .int .i64 k ∧ Hid (Apart wr B G K m vs ns (part1 ns X k)) ∧ Below B w wr)
    (fun i _ => m - (intOf i).toNat)
  case atStart =>
    refine ⟨0, Nat.zero_le _, rfl, ?_, bel0⟩
    have e : part1 ns X 0 = X := by funext j; simp [part1]
    rw [e]
    exact HA
  case round =>
    obtain ⟨i, hi, rfl, HA1, bel1⟩ := hrel
    by_cases hlt : i < m
    · have hrow := HA1.out.rows i hlt
      have e0 : part1 ns X i i = X i := by simp [part1]
      rw [e0] at hrow
      obtain ⟨n, hn⟩ : ∃ n, n = ns i := ⟨_, rfl⟩
      obtain ⟨v, hv⟩ : ∃ v, v = vs i := ⟨_, rfl⟩
      rw [← hn, ← hv] at hrow
      have hxl : (X i).length = n := by have := hrow.1; simpa using this
      obtain ⟨a, c, rfl⟩ := own_form hrow
      have hc := HA1.out.outer i hlt
      rw [← hv] at hc
      have hGs := HA1.out.hG
      have hKs := HA1.out.hK
      have hKn : (Value.slice a n c).ownBlock ≠ some K := by rw [hv]; exact HA1.out.neK i hlt
      have hmk := HA1.out.mark i (by omega)
      have htm : (i : Int).tmod 8 = (i : Int) := Int.tmod_eq_of_lt (by omega) (by omega)
      have hGn : (Value.slice a n c).ownBlock ≠ some G := by rw [hv]; exact HA1.out.neG i hlt
      have hns : n ≤ 8796093010000 := by rw [hn]; exact HA1.out.small i hlt
      have HN : Hid (n = ns i) := hn
      have HV : Hid (Value.slice a n c = vs i) := hv
      have m1 : (i : Int) < (m : Int) := by omega
      have hd1 : decide ((i : Int) < (m : Int)) = true := decide_eq_true m1
      clear hn hv
      go_wp2
      go_loopw [5] (fun kk wq => ∃ k : Nat, k ≤ n ∧ kk = .int .i64 k ∧ wq.ownsRow B 9 1 (.slice a n c) n ((fillT i k (X i)).map Value.string) ∧ wr.grownBy wq (Value.slice a n c).ownBlock ∧ Below B w wq)
        (fun kk _ => n - (intOf kk).toNat)
      case atStart => exact ⟨0, Nat.zero_le _, rfl, by simpa [fillT] using hrow, World.grownBy.refl _ _, bel1⟩
      case round =>
        obtain ⟨k, hk, rfl, hrow2, hg2, bel2⟩ := hrel
        clear hrow
        have hc2 := (World.cell?_of_block (a := ⟨G, i, none⟩) (hg2.block G hGs (fun e => hGn e.symm))).trans hc
        have hmk2 := (World.cell?_of_block (a := ⟨K, i, none⟩) (hg2.block K hKs (fun e => hKn e.symm))).trans hmk
        by_cases hlt2 : k < n
        · obtain ⟨g, cap, hsh, hcap, _, hBg, hgl⟩ := own_shape hrow2 (by omega)
          cases hsh
          have hcx := Own.cell (xs := fillT i k (X i)) hrow2 k hlt2
          have hfz := World.ownsRow.frozenAt hrow2 k
          have hset := Own.set (xs := fillT i k (X i)) hrow2 k (mt i)
          have hset1 := hset.1
          rw [fillT_step i k (X i) (by omega)] at hset1
          have hgs := grownBy_trans hg2 hset.2
          have HS : Hid (Own _ _ _ _ _ _) := hset1
          have HG : Hid (World.grownBy _ _ _) := hgs
          have m2 : (k : Int) < (n : Int) := by omega
          have hd2 : decide ((k : Int) < (n : Int)) = true := decide_eq_true m2
          have hbs := bel2.setCell (p := ⟨g, k, none⟩) hBg (.string (mt i))
          have HBS : Hid (Below _ _ _) := hbs
          clear hset hset1 hgs hbs hrow2 hg2
          have mi1 : (i : Int) < 8 := by omega
          go_wp2
          go_region
          go_wp2
          go_roundw
          case rel => exact ⟨k + 1, by omega, by go_num, HS.out, grownBy_trans HG.out (drew_grown _ _), HBS.out.drew⟩
          case measure => simp [intOf]; omega
        · have hkn : k = n := by omega
          rw [hkn, fillT_all i n (X i) hxl] at hrow2
          have hA2 : Apart wr B G K m vs ns (part1 ns X (i + 1)) := by
            refine HA1.out.move i hlt (by rw [← HV.out]; exact hg2) ?_ ?_
            · have e1 : part1 ns X (i + 1) i = markT i n := by simp [part1, HN.out]
              rw [e1, ← HV.out, ← HN.out]
              exact hrow2
            · intro j hj hne
              unfold part1
              by_cases h1 : j < i
              · rw [if_pos h1, if_pos (by omega)]
              · rw [if_neg h1, if_neg (by omega)]
          have HA2 : Hid (Apart _ _ _ _ _ _ _ _) := hA2
          clear hA2 hrow2
          go_wp2
          go_roundw
          case rel => exact ⟨i + 1, by omega, by go_num, HA2, bel2⟩
          case measure => simp [intOf]; omega
    · have him : m = i := by omega
      subst him
      have h0 : Apart wr B G K m vs ns (fun j => markT j (ns j)) := by
        obtain ⟨a1, a2, a3, a4, a5, a6, a7, a8, a9⟩ := HA1.out
        refine ⟨a1, a2, fun j hj => ?_, a4, a5, a6, a7, a8, a9⟩
        have := a3 j hj
        rwa [part1, if_pos (by omega)] at this
      have H0 : Hid (Apart wr B G K m vs ns (fun j => markT j (ns j))) := h0
      clear h0 HA1 HA
      go_wp2
      go_loopw [6] (fun ii wq => ∃ k : Nat, k ≤ m ∧ ii = .int .i64 k ∧ Hid (Apart wq B G K m vs ns (fun j => markT j (ns j))) ∧ Below B w wq)
        (fun ii _ => m - (intOf ii).toNat)
      case atStart => exact ⟨0, Nat.zero_le _, rfl, H0, bel1⟩
      case round =>
        obtain ⟨k, hk, rfl, HS2, bel2⟩ := hrel
        clear H0 bel1
        by_cases hlt2 : k < m
        · have hrow := HS2.out.rows k hlt2
          obtain ⟨n, hn⟩ : ∃ n, n = ns k := ⟨_, rfl⟩
          obtain ⟨v, hv⟩ : ∃ v, v = vs k := ⟨_, rfl⟩
          rw [← hn, ← hv] at hrow
          obtain ⟨a, c, rfl⟩ := own_form hrow
          have hc := HS2.out.outer k hlt2
          rw [← hv] at hc
          have hns : n ≤ 8796093010000 := by rw [hn]; exact HS2.out.small k hlt2
          have HN : Hid (n = ns k) := hn
          have HV : Hid (Value.slice a n c = vs k) := hv
          have HG0 : Hid (Grown wr wr B (.slice a n c) (.slice a n c) n 0 (markT k n) (List.replicate 0 grownS)) := grown_start hrow
          have hBw : B ≤ wr.heap.size := by have := bel2.size; omega
          have m1 : (k : Int) < (m : Int) := by omega
          have hd1 : decide ((k : Int) < (m : Int)) = true := decide_eq_true m1
          clear hn hv hrow
          go_wp2
          go_loopw [7, 8] (fun v tt wq => ∃ t : Nat, t ≤ 64 ∧ tt = .int .i64 t ∧ Hid (Grown wr wq B (.slice a n c) v n t (markT k n) (List.replicate t grownS)) ∧ Below B w wq)
            (fun _ tt _ => 64 - (intOf tt).toNat)
          case atStart => exact ⟨0, by omega, rfl, HG0, bel2⟩
          case round =>
            obtain ⟨t, ht, rfl, HGr, bel3⟩ := hrel
            clear HG0
            by_cases hlt3 : t < 64
            · have HM : Hid (List.replicate (t + 1) grownS = List.replicate t grownS ++ [grownS]) := by unfold Hid; rw [List.replicate_succ']
              have hGr := HGr.out
              have m2 : (t : Int) < 64 := by omega
              have hd2 : decide ((t : Int) < 64) = true := decide_eq_true m2
              clear HGr
              go_wp2_with (
                (at_builtin; refine wpList_grow rfl (.tmp 52) (.tmp 53) rfl hGr hBw grownS (by omega) rfl rfl ?_; intro v5 w5 hg5 bel5; rw [← HM.out] at hg5))
              have HG5 : Hid (Grown _ _ _ _ _ _ _ _ _) := hg5
              have bel6 := bel3.trans bel5
              clear hGr hg5 bel5
              go_wp2
              go_roundw
              case rel => exact ⟨t + 1, by omega, by go_num, HG5, bel6⟩
              case measure => simp [intOf]; omega
            · have ht9 : t = 64 := by omega
              subst ht9
              have hA3 : Apart wr B G K m vs ns (fun j => markT j (ns j)) := by
                have hGr := HGr.out
                refine HS2.out.move k hlt2 (by rw [← HV.out]; exact hGr.grow) ?_ (fun _ _ _ => rfl)
                rw [← HV.out, ← HN.out]
                exact hGr.old
              have HA3 : Hid (Apart _ _ _ _ _ _ _ _) := hA3
              clear hA3 HS2 HGr
              go_wp2
              go_roundw
              case rel => exact ⟨k + 1, by omega, by go_num, HA3, bel3⟩
              case measure => simp [intOf]; omega
        · have hkm : m = k := by omega
          subst hkm
          have hmk3 : ∀ i, i < 8 → wr.cell? ⟨K, i, none⟩ = some (.string (mt i)) := fun i hi => HS2.out.mark i hi
          have HM3 : Hid (∀ i, i < 8 → wr.cell? ⟨K, i, none⟩ = some (.string (mt i))) := hmk3
          clear hmk3
          have n3 : ∀ i, i < m → ∃ a c, wr.cell? ⟨G, i, none⟩ = some (.slice a (ns i) c) ∧ ns i ≤ 8796093010000 ∧
              (∀ t, t < ns i → ∃ q, a = some ⟨q, 0, none⟩ ∧ wr.cell? ⟨q, t, none⟩ = some (.string (mt i))) := by
            intro i hi
            have hrow := HS2.out.rows i hi
            obtain ⟨a, c, hv⟩ := own_form hrow
            refine ⟨a, c, ?_, HS2.out.small i hi, ?_⟩
            · rw [HS2.out.outer i hi, hv]
            · intro t ht
              obtain ⟨q, cq, hq, _, _, _, _⟩ := own_shape hrow (by omega)
              rw [hv] at hq
              cases hq
              rw [hv] at hrow
              refine ⟨q, rfl, ?_⟩
              rw [Own.cell (xs := markT i (ns i)) hrow t ht, markT_getD i (ns i) t ht]
          have H3 : Hid _ := n3
          clear n3 HS2
          go_wp2
          go_loopw [9] (fun ii wq => ∃ (i j : Nat), i ≤ m ∧ ii = .int .i64 i ∧ wq = wr.drewN j)
            (fun ii _ => m - (intOf ii).toNat)
          case atStart => exact ⟨0, 0, Nat.zero_le _, rfl, rfl⟩
          case round =>
            obtain ⟨i, j, hi, rfl, rfl⟩ := hrel
            by_cases hlt3 : i < m
            · obtain ⟨a, c, hcG, hns, hrow⟩ := H3.out i hlt3
              obtain ⟨n, hn⟩ : ∃ n, n = ns i := ⟨_, rfl⟩
              rw [← hn] at hcG hns hrow
              have HROW : Hid (∀ t, t < n → ∃ q, a = some ⟨q, 0, none⟩ ∧ wr.cell? ⟨q, t, none⟩ = some (.string (mt i))) := hrow
              have m1 : (i : Int) < (m : Int) := by omega
              have hd1 : decide ((i : Int) < (m : Int)) = true := decide_eq_true m1
              clear hn hrow
              go_wp2
              go_loopw [10] (fun tt wq => ∃ (t j2 : Nat), t ≤ n ∧ tt = .int .i64 t ∧ wq = wr.drewN j2)
                (fun tt _ => n - (intOf tt).toNat)
              case atStart => exact ⟨0, j, Nat.zero_le _, rfl, rfl⟩
              case round =>
                obtain ⟨t, j2, ht, rfl, rfl⟩ := hrel
                by_cases hlt4 : t < n
                · obtain ⟨q, rfl, hcq⟩ := HROW.out t hlt4
                  have hmk := HM3.out i (by omega)
                  have htm : (i : Int).tmod 8 = (i : Int) := Int.tmod_eq_of_lt (by omega) (by omega)
                  have mi1 : (i : Int) < 8 := by omega
                  obtain ⟨x, hx⟩ : ∃ x, mt i = x := ⟨_, rfl⟩
                  rw [hx] at hcq hmk
                  clear hx
                  have m2 : (t : Int) < (n : Int) := by omega
                  have hd2 : decide ((t : Int) < (n : Int)) = true := decide_eq_true m2
                  go_wp2
                  go_quiet (fail)
                  go_wp2
                  go_roundw
                  case rel => exact ⟨t + 1, j2 + nq, by omega, by go_num, rfl⟩
                  case measure => simp [intOf]; omega
                · have htn : t = n := by omega
                  subst htn
                  go_wp2
                  go_roundw
                  case rel => exact ⟨i + 1, j2, by omega, by go_num, rfl⟩
                  case measure => simp [intOf]; omega
            · have him2 : m = i := by omega
              subst him2
              go_wp2
              go_ret
              exact ⟨rfl, below_drewN bel2 _⟩

end Go.Proofs.YtmbdacdgbmpedaaDoor
