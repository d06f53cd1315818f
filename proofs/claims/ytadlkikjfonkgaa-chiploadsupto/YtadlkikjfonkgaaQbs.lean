/-
  SEAT Ytadlkikjfonkgaa: Ar, As, At, Vh.
-/
import Derived.Test.YtadlkikjfonkgaaQbr
import Derived.Test.YtadlkikjfonkgaaQa
import Derived.Test.YtadlkikjfonkgaaQe
import Derived.Test.YtadlkikjfonkgaaQbm
import Derived.Test.YtadlkikjfonkgaaQbq
import Derived.Test.YtadlkikjfonkgaaQbp
namespace Go.Proofs.Ytadlkikjfonkgaa
open Go.RowKit Go.Conc
set_option linter.unusedVariables false
set_option maxRecDepth 100000
set_option maxHeartbeats 4000000
variable {L : List Rw} {w w' : World}
theorem info45c : (Try.prog.info? 45).map (fun i => (i.zero, i.size, i.bytes)) = some (some (.slice none 0 0), 1, 24) := by kernel_rfl
def mkT (i : Nat) : List Value := [.int .i64 (-1 - (i : Int)), .int .i64 0, .int .i64 0, .int .i64 0]
theorem mkT_len (i : Nat) : (mkT i).length = 4 := rfl
theorem traceApart_any (w : World) (B G m cm : Nat) (ao : Option Addr) (hao : ∀ i, i < m → ao = some ⟨G, 0, none⟩) (vs : Nat → Value) (ns : Nat → Nat) (X : Nat → List Value) (FF : Nat → Prop) (hA : ApS 120 4 w B G m vs ns X) (hF : ∀ i, i < m → ∀ k, (vs i).ownBlock = some k → FF k) (hm : m ≤ 1000000000) (hB : B ≤ w.heap.size) :
  Calls Try.prog 76 #[.slice ao m cm] w fun e w' => e = .returned (.bool true) ∧ Only FF w w' := by
 have HA := J hA
 have HAO := J hao
 have HFF := J hF
 have HBW := J hB
 clear hA hao hF hB
 go_enter Try.func76, Try.ntmps76
 go_wp2
 go_loopw [4] (fun s4 wr => ∃ k : Nat, k ≤ m ∧ s4 = .int .i64 k ∧ Hid (ApS 120 4 wr B G m vs ns (partM mkT ns X k)) ∧ Hid (Only FF w wr)) (fun s4 _ => m - (intOf s4).toNat)
 case atStart =>
  refine ⟨0, Nat.zero_le _, rfl, ?_, Only.refl _ _⟩
  have e : partM mkT ns X 0 = X := by funext j; simp [partM]
  rw [e]
  exact HA
 case round =>
  obtain ⟨i, hi, rfl, HA1, HON⟩ := hrel
  by_cases hlt : i < m
  ·have hao := HAO.out i hlt
   subst hao
   obtain ⟨wo, hwo⟩ : ∃ x, x = wr := ⟨_, rfl⟩
   subst hwo
   have hrow := HA1.out.rows i hlt
   have e0 : partM mkT ns X i i = X i := by simp [partM]
   rw [e0] at hrow
   obtain ⟨n, hn⟩ : ∃ n, n = ns i := ⟨_, rfl⟩
   obtain ⟨v, hv⟩ : ∃ v, v = vs i := ⟨_, rfl⟩
   rw [← hn, ← hv] at hrow
   have hxl : (X i).length = n * (mkT i).length := hrow.1
   obtain ⟨a, c, rfl⟩ := own_formG hrow
   have HROW := J hrow
   have hc := HA1.out.outer i hlt
   rw [← hv] at hc
   have HC := J hc
   have HGs := J (HA1.out.hG (by omega))
   have HGn : Hid ((Value.slice a n c).ownBlock ≠ some G) := by rw [hv]; exact HA1.out.neG i hlt
   have hns : n ≤ 2000000000 := by rw [hn]; exact HA1.out.small i hlt
   have HN : Hid (n = ns i) := hn
   have HV : Hid (Value.slice a n c = vs i) := hv
   have m1 : (i : Int) < (m : Int) := by omega
   have hd1 : decide ((i : Int) < (m : Int)) = true := decide_eq_true m1
   clear hn hv hrow e0
   go_wp2
   go_loopw [5] (fun s5 wq => ∃ k : Nat, k ≤ n ∧ s5 = .int .i64 k ∧ Hid (wq.ownsRow B 120 4 (.slice a n c) n (fillM k (mkT i) (X i))) ∧ Hid (wo.grownBy wq (Value.slice a n c).ownBlock)) (fun s5 _ => n - (intOf s5).toNat)
   case atStart => exact ⟨0, Nat.zero_le _, rfl, by rw [fillM_zero]; exact HROW, World.grownBy.refl _ _⟩
   case round =>
    obtain ⟨k, hk, rfl, HROW2, HG2⟩ := hrel
    have hc2 := (World.cell?_of_block (a := ⟨G, i, none⟩) (HG2.out.block G HGs.out (fun e => HGn.out e.symm))).trans HC.out
    by_cases hlt2 : k < n
    ·obtain ⟨g, cap, hsh, hcap, _, hBg, hgl⟩ := own_shapeG HROW2.out (by omega)
     cases hsh
     obtain ⟨y0, hy0⟩ : ∃ y, (fillM k (mkT i) (X i))[k * 4 + 0]? = some y := ⟨_, List.getElem?_eq_getElem (by have h1 := fillM_len k n (mkT i) (X i) hxl hk; have h2 : (mkT i).length = 4 := rfl; rw [h2] at h1; omega)⟩
     have hcx0 := World.ownsRow.cellAt HROW2.out (k * 4 + 0) (by omega)
     rw [hy0] at hcx0
     have hfz0 := World.ownsRow.frozenAt HROW2.out (k * 4 + 0)
     obtain ⟨y1, hy1⟩ : ∃ y, (fillM k (mkT i) (X i))[k * 4 + 1]? = some y := ⟨_, List.getElem?_eq_getElem (by have h1 := fillM_len k n (mkT i) (X i) hxl hk; have h2 : (mkT i).length = 4 := rfl; rw [h2] at h1; omega)⟩
     have hcx1 := World.ownsRow.cellAt HROW2.out (k * 4 + 1) (by omega)
     rw [hy1] at hcx1
     have hfz1 := World.ownsRow.frozenAt HROW2.out (k * 4 + 1)
     obtain ⟨y2, hy2⟩ : ∃ y, (fillM k (mkT i) (X i))[k * 4 + 2]? = some y := ⟨_, List.getElem?_eq_getElem (by have h1 := fillM_len k n (mkT i) (X i) hxl hk; have h2 : (mkT i).length = 4 := rfl; rw [h2] at h1; omega)⟩
     have hcx2 := World.ownsRow.cellAt HROW2.out (k * 4 + 2) (by omega)
     rw [hy2] at hcx2
     have hfz2 := World.ownsRow.frozenAt HROW2.out (k * 4 + 2)
     obtain ⟨y3, hy3⟩ : ∃ y, (fillM k (mkT i) (X i))[k * 4 + 3]? = some y := ⟨_, List.getElem?_eq_getElem (by have h1 := fillM_len k n (mkT i) (X i) hxl hk; have h2 : (mkT i).length = 4 := rfl; rw [h2] at h1; omega)⟩
     have hcx3 := World.ownsRow.cellAt HROW2.out (k * 4 + 3) (by omega)
     rw [hy3] at hcx3
     have hfz3 := World.ownsRow.frozenAt HROW2.out (k * 4 + 3)
     rw [Nat.add_zero] at hcx0 hfz0
     have HS : Hid (((((wr.setCell ⟨g, k * 4, none⟩ (.int .i64 (-1 - ((i : Nat) : Int)))).setCell ⟨g, k * 4 + 1, none⟩ (.int .i64 0)).setCell ⟨g, k * 4 + 2, none⟩ (.int .i64 0)).setCell ⟨g, k * 4 + 3, none⟩ (.int .i64 0)).ownsRow B 120 4 (.slice (some ⟨g, 0, none⟩) n c) n (fillM (k + 1) (mkT i) (X i)) ∧ wo.grownBy ((((wr.setCell ⟨g, k * 4, none⟩ (.int .i64 (-1 - ((i : Nat) : Int)))).setCell ⟨g, k * 4 + 1, none⟩ (.int .i64 0)).setCell ⟨g, k * 4 + 2, none⟩ (.int .i64 0)).setCell ⟨g, k * 4 + 3, none⟩ (.int .i64 0)) (some g)) := by
      have h1 := World.ownsRow.stored HROW2.out (k * 4) (.int .i64 (-1 - ((i : Nat) : Int)))
      have h2 := World.ownsRow.stored h1.1 (k * 4 + 1) (.int .i64 0)
      have h3 := World.ownsRow.stored h2.1 (k * 4 + 2) (.int .i64 0)
      have h4 := World.ownsRow.stored h3.1 (k * 4 + 3) (.int .i64 0)
      have h5 := h4.1
      rw [show ((((fillM k (mkT i) (X i)).set (k * 4) (.int .i64 (-1 - ((i : Nat) : Int)))).set (k * 4 + 1) (.int .i64 0)).set (k * 4 + 2) (.int .i64 0)).set (k * 4 + 3) (.int .i64 0) = fillM (k + 1) (mkT i) (X i) from fillM_step4 k n _ _ _ _ (X i) hxl hlt2] at h5
      exact ⟨h5, grownBy_trans (grownBy_trans (grownBy_trans (grownBy_trans HG2.out h1.2) h2.2) h3.2) h4.2⟩
     have m2 : (k : Int) < (n : Int) := by omega
     have hd2 : decide ((k : Int) < (n : Int)) = true := decide_eq_true m2
     clear hxl hk hlt
     go_wp2
     go_roundw
     case rel => exact ⟨k + 1, by omega, by go_num, HS.out.1, HS.out.2⟩
     case measure => simp [intOf]; omega
    ·have hkn : k = n := by omega
     have HF2 : Hid (wr.ownsRow B 120 4 (.slice a n c) n (mks n (mkT i))) := by
      have h1 := HROW2.out
      rw [hkn, fillM_all n (mkT i) (X i) hxl] at h1
      exact h1
     have HA2 : Hid (ApS 120 4 wr B G m vs ns (partM mkT ns X (i + 1))) := by
      refine HA1.out.move i hlt (by rw [← HV.out]; exact HG2.out) ?_ ?_
      ·have e1 : partM mkT ns X (i + 1) i = mks n (mkT i) := by simp [partM, HN.out]
       rw [e1, ← HV.out, ← HN.out]
       exact HF2.out
      ·intro j hj hne
       unfold partM
       by_cases h1 : j < i
       ·rw [if_pos h1, if_pos (by omega)]
       ·rw [if_neg h1, if_neg (by omega)]
     have HON2 : Hid (Only FF w wr) := HON.out.trans' (Only.ofG HG2.out (fun j hj => HFF.out i hlt j (by rw [← HV.out]; exact hj)))
     have hd2 : decide ((k : Int) < (n : Int)) = false := decide_eq_false (by omega)
     clear HROW2 hkn
     go_wp2
     go_roundw
     case rel => exact ⟨i + 1, by omega, by go_num, HA2, HON2⟩
     case measure => simp [intOf]; omega
  ·have him : m = i := by omega
   subst him
   obtain ⟨B2, hB2⟩ : ∃ B2, B2 = wr.heap.size := ⟨_, rfl⟩
   have H0 : Hid (Sec 120 4 45 mkT wr B B2 G m vs ns 0 (.slice none 0 0) (fun _ => .slice none 0 0)) := by
    obtain ⟨a1, a2, a3, a4, a5, a6⟩ := HA1.out
    refine ⟨⟨a1, a2, fun j hj => ?_, a4, a5, a6⟩, fun h0 => by rw [hB2]; exact a6 h0, World.ownsRow_nil _ _ _ _, fun j hj => by omega, fun j l hj => by omega⟩
    have h9 := a3 j hj
    unfold partM at h9
    rwa [if_pos (by omega)] at h9
   have HBB : Hid (B ≤ B2 ∧ w.heap.size ≤ B2) := by have h1 := HON.out.size; have h2 := HBW.out; exact ⟨by omega, by omega⟩
   have hB2w : B2 ≤ wr.heap.size := by omega
   obtain ⟨j0, hj, jz0, jz1, jz2⟩ := info_parts info45c
   obtain ⟨i0, hi5, iz0, iz1, iz2⟩ := info_parts info120
   have hd0 : decide ((m : Int) < (m : Int)) = false := decide_eq_false (by omega)
   clear hB2 HA1 HA hlt hi
   go_wp2
   go_loopw [3, 6] (fun gv s6 wq => ∃ (k : Nat) (gs : Nat → Value), k ≤ m ∧ s6 = .int .i64 k ∧ Hid (Sec 120 4 45 mkT wq B B2 G m vs ns k gv gs) ∧ Hid (Only FF w wq) ∧ B2 ≤ wq.heap.size) (fun _ s6 _ => m - (intOf s6).toNat)
   case atStart => exact ⟨0, _, Nat.zero_le _, rfl, H0, HON, hB2w⟩
   case round =>
    clear H0 HON hB2w
    obtain ⟨k, gs, hk, rfl, HS2, HON, hB2q⟩ := hrel
    obtain ⟨ga, gc, hgv⟩ := own_formG HS2.out.list
    subst hgv
    by_cases hlt2 : k < m
    ·have hao := HAO.out k hlt2
     subst hao
     have hrow := HS2.out.ap.rows k hlt2
     obtain ⟨n, hn⟩ : ∃ n, n = ns k := ⟨_, rfl⟩
     obtain ⟨v, hv⟩ : ∃ v, v = vs k := ⟨_, rfl⟩
     rw [← hn, ← hv] at hrow
     obtain ⟨a, c, rfl⟩ := own_formG hrow
     have hc := HS2.out.ap.outer k hlt2
     rw [← hv] at hc
     have hns : n ≤ 2000000000 := by rw [hn]; exact HS2.out.ap.small k hlt2
     have HN : Hid (n = ns k) := hn
     have HV : Hid (Value.slice a n c = vs k) := hv
     obtain ⟨M0, hM0⟩ : ∃ M, M = mks n (mkT k) := ⟨_, rfl⟩
     have HG0 : Hid (Gr 120 4 wr wr B (.slice a n c) (.slice a n c) n 0 M0 (mks 0 (mkT k))) := by rw [hM0, hn]; rw [hn] at hrow; exact gr_start hrow
     have HM0 := J hM0
     have hBw : B ≤ wr.heap.size := Nat.le_trans HBB.out.1 hB2q
     have m1 : (k : Int) < (m : Int) := by omega
     have hd1 : decide ((k : Int) < (m : Int)) = true := decide_eq_true m1
     clear hn hv hrow hM0
     go_wp2
     go_loopw [7, 8] (fun v s8 wq => ∃ t : Nat, t ≤ 20 ∧ s8 = .int .i64 t ∧ Hid (Gr 120 4 wr wq B (.slice a n c) v n t M0 (mks t (mkT k)))) (fun _ s8 _ => 20 - (intOf s8).toNat)
     case atStart => exact ⟨0, by omega, rfl, HG0⟩
     case round =>
      clear HG0
      obtain ⟨t, ht, rfl, HGr⟩ := hrel
      by_cases hlt3 : t < 20
      ·have HM : Hid (mks (t + 1) (mkT k) = mks t (mkT k) ++ (#[.int .i64 (-1 - ((k : Nat) : Int)), .int .i64 0, .int .i64 0, .int .i64 0] : Array Value).toList) := mks_succ t (mkT k)
       have hGr := HGr.out
       have m2 : (t : Int) < 20 := by omega
       have hd2 : decide ((t : Int) < 20) = true := decide_eq_true m2
       clear HGr
       go_wp2_with (at_builtin; refine wpList_gr Try.underlying45 hi5 iz0 iz1 iz2 rfl (by decide) (by decide) rfl (.tmp 49) (.tmp 53) rfl hGr hBw (#[.int .i64 (-1 - ((k : Nat) : Int)), .int .i64 0, .int .i64 0, .int .i64 0]) rfl ?_ (by omega) rfl rfl ?_; (first | (intro x hx; simp at hx; (first | (subst hx; rfl) | (rcases hx with rfl | rfl <;> rfl) | (rcases hx with rfl | rfl | rfl <;> rfl) | (rcases hx with rfl | rfl | rfl | rfl <;> rfl)))); intro v5 w5 hg5; rw [← HM.out] at hg5; have HG5 := J hg5; clear hGr hg5)
       go_roundw
       case rel => exact ⟨t + 1, by omega, by go_num, HG5⟩
       case measure => simp [intOf]; omega
      ·have ht9 : t = 20 := by omega
       subst ht9
       obtain ⟨g5, c5, rfl, _, _, _, _⟩ := own_shapeG HGr.out.new (by omega)
       have hlist : Hid (wr.ownsRow B2 45 1 (.slice ga k gc) k ((List.range k).map gs)) := by
        refine HS2.out.list.kept HGr.out.grow ?_
        have h9 := types_apart (by decide) HS2.out.list (HS2.out.ap.rows k hlt2)
        rw [← HV.out] at h9
        exact h9
       have hsz6 := Nat.le_trans hB2q HGr.out.grow.size
       have hd2 : decide ((20 : Int) < 20) = false := by decide
       go_wp2_with (
        (at_builtin; refine wpList_append_own _ rfl (.tmp 55) (.tmp 57) 74 rfl B2 45 j0 (.slice none 0 0) 1 24 Try.underlying74 hj jz0 jz1 jz2 rfl (by decide) _ _ _ rfl (hlist.out.alloc _) ⟨_, 0, none⟩ 1 1 [.slice (some ⟨g5, 0, none⟩) (n + 20) c5] rfl rfl ?_ ?_ ?_ ?_ ?_ ?_; (first | (intro j u hj; match j, hj with | 0, hj => simp at hj; subst hj; simp [Addr.add])); (simp [Value.oneCell']); (simp [maxLen]; omega); omega; (simp; omega); intro v6 w6 hown6 hgrow6 _; have HOW6 := J hown6; have HGW6 := J hgrow6; clear hown6 hgrow6))
       have HS3 : Hid (Sec 120 4 45 mkT w6 B B2 G m vs ns (k + 1) v6 (fun j => if j = k then .slice (some ⟨g5, 0, none⟩) (n + 20) c5 else gs j)) := by
        have hgr := HGr.out
        rw [HM0.out, HV.out, HN.out] at hgr
        have h9 := HS2.out.more (by decide) hlt2 hgr (grownBy_trans (World.grownBy_alloc _ _ _) HGW6.out) (by rw [← HN.out]; exact HOW6.out)
        rw [HN.out]
        exact h9
       have HON2 : Hid (Only FF w w6) := by
        have o1 := HON.out.trans' (Only.ofG HGr.out.grow (fun j hj => HFF.out k hlt2 j (by rw [← HV.out]; exact hj)))
        have o2 : Only (fun j => (Value.slice ga k gc).ownBlock = some j) wr w6 := Only.ofG (grownBy_trans (World.grownBy_alloc _ _ _) HGW6.out) (fun j hj => hj)
        exact o1.trans o2 (fun j hj e => by have h1 := (HS2.out.list.lt j e).1; have h2 := HBB.out.2; omega)
       have hsz7 : B2 ≤ w6.heap.size := by have h1 := HGW6.out.size; simp at h1; omega
       clear hlist HOW6 HGW6 HS2 HGr HON
       go_wp2
       go_roundw
       case rel => exact ⟨k + 1, _, by omega, by go_num, HS3, HON2, hsz7⟩
       case measure => simp [intOf]; omega
    ·have hkm : m = k := by omega
     subst hkm
     have H3 : Hid (∀ i, i < m → ∃ a c g c2 gg, vs i = .slice a (ns i) c ∧ gs i = .slice (some ⟨g, 0, none⟩) (ns i + 20) c2 ∧ ga = some ⟨gg, 0, none⟩ ∧ wr.cell? ⟨G, i, none⟩ = some (.slice a (ns i) c) ∧ wr.cell? ⟨gg, i, none⟩ = some (.slice (some ⟨g, 0, none⟩) (ns i + 20) c2) ∧ ns i ≤ 2000000000 ∧
       (∀ t, t < ns i → ∃ q, a = some ⟨q, 0, none⟩ ∧ wr.cell? ⟨q, t * 4, none⟩ = some (.int .i64 (-1 - ((i : Nat) : Int)))) ∧ ∀ t, t < ns i + 20 → wr.cell? ⟨g, t * 4, none⟩ = some (.int .i64 (-1 - ((i : Nat) : Int)))) := by
      intro i hi
      have hrow := HS2.out.ap.rows i hi
      have hrow2 := HS2.out.rows i hi
      obtain ⟨a, c, hv⟩ := own_formG hrow
      obtain ⟨g, c2, hg, _, _, _, _⟩ := own_shapeG hrow2 (by omega)
      have hlist := HS2.out.list
      obtain ⟨gg, cg, hgg, _⟩ := own_shapeG hlist (by omega)
      cases hgg
      refine ⟨a, c, g, c2, gg, hv, hg, rfl, ?_, ?_, HS2.out.ap.small i hi, ?_, ?_⟩
      ·rw [HS2.out.ap.outer i hi, hv]
      ·have h9 := World.ownsRow.cellAt hlist i (by omega)
       rw [h9, List.getElem?_map, List.getElem?_range hi, Option.map_some, hg]
      ·intro t ht
       obtain ⟨q, cq, hq, _, _, _, _⟩ := own_shapeG hrow (by omega)
       rw [hv] at hq
       cases hq
       rw [hv] at hrow
       refine ⟨q, rfl, ?_⟩
       rw [World.ownsRow.cellAt hrow (t * 4) (by omega)]
       have h9 := mks_get (ns i) (mkT i) t 0 ht (by rw [mkT_len]; omega)
       rw [mkT_len, Nat.add_zero] at h9
       exact h9
      ·intro t ht
       rw [hg, mks_add] at hrow2
       rw [World.ownsRow.cellAt hrow2 (t * 4) (by omega)]
       have h9 := mks_get (ns i + 20) (mkT i) t 0 ht (by rw [mkT_len]; omega)
       rw [mkT_len, Nat.add_zero] at h9
       exact h9
     have hd0 : decide ((m : Int) < (m : Int)) = false := decide_eq_false (by omega)
     clear HS2 hlt2
     go_wp2
     go_loopw [9] (fun s9 wq => ∃ i : Nat, i ≤ m ∧ s9 = .int .i64 i ∧ wq = wr) (fun s9 _ => m - (intOf s9).toNat)
     case atStart => exact ⟨0, Nat.zero_le _, rfl, rfl⟩
     case round =>
      obtain ⟨i, hi, rfl, rfl⟩ := hrel
      by_cases hlt3 : i < m
      ·have hao := HAO.out i hlt3
       subst hao
       obtain ⟨a, c, g, c2, gg, hv, hg, rfl, hcG, hcg, hns, hrow, hrow2⟩ := H3.out i hlt3
       obtain ⟨n, hn⟩ : ∃ n, n = ns i := ⟨_, rfl⟩
       rw [← hn] at hcG hcg hns hrow hrow2
       have HROW := J hrow
       have HROW2 := J hrow2
       have m1 : (i : Int) < (m : Int) := by omega
       have hd1 : decide ((i : Int) < (m : Int)) = true := decide_eq_true m1
       clear hv hg hn hrow hrow2
       go_wp2
       go_loopw [10] (fun s10 wq => ∃ t : Nat, t ≤ n + 20 ∧ s10 = .int .i64 t ∧ wq = wr) (fun s10 _ => n + 20 - (intOf s10).toNat)
       case atStart => exact ⟨0, Nat.zero_le _, rfl, rfl⟩
       case round =>
        obtain ⟨t, ht, rfl, rfl⟩ := hrel
        by_cases hlt4 : t < n + 20
        ·have hcq := HROW2.out t hlt4
         have m2 : (t : Int) < (n : Int) + 20 := by omega
         have hd2 : decide ((t : Int) < (n : Int) + 20) = true := decide_eq_true m2
         by_cases hlt5 : t < n
         ·obtain ⟨q, rfl, hcp⟩ := HROW.out t hlt5
          have m3 : (t : Int) < (n : Int) := by omega
          have hd3 : decide ((t : Int) < (n : Int)) = true := decide_eq_true m3
          go_wp2
          go_roundw
          case rel => exact ⟨t + 1, by omega, by go_num, by first | rfl | trivial⟩
          case measure => simp [intOf]; omega
         ·have m3 : ¬ (t : Int) < (n : Int) := by omega
          have hd3 : decide ((t : Int) < (n : Int)) = false := decide_eq_false m3
          go_wp2
          go_roundw
          case rel => exact ⟨t + 1, by omega, by go_num, by first | rfl | trivial⟩
          case measure => simp [intOf]; omega
        ·have htn : t = n + 20 := by omega
         subst htn
         have hd2 : decide (((n + 20 : Nat) : Int) < (n : Int) + 20) = false := decide_eq_false (by omega)
         go_wp2
         go_roundw
         case rel => exact ⟨i + 1, by omega, by go_num, by first | rfl | trivial⟩
         case measure => simp [intOf]; omega
      ·have him2 : m = i := by omega
       subst him2
       have hd1 : decide ((m : Int) < (m : Int)) = false := decide_eq_false (by omega)
       go_wp2
       go_ret
       exact ⟨rfl, HON.out⟩
theorem info4b : (Try.prog.info? 4).map (fun i => (i.zero, i.size, i.bytes)) = some (some (.bool false), 1, 1) := by kernel_rfl
theorem info25c : (Try.prog.info? 25).map (fun i => (i.zero, i.size, i.bytes)) = some (some (.slice none 0 0), 1, 24) := by kernel_rfl
def mkM (i : Nat) : List Value := [.bool ((i : Int) % 2 == 0)]
theorem mkM_len (i : Nat) : (mkM i).length = 1 := rfl
theorem marksApart_any (w : World) (B G m cm : Nat) (ao : Option Addr) (hao : ∀ i, i < m → ao = some ⟨G, 0, none⟩) (vs : Nat → Value) (ns : Nat → Nat) (X : Nat → List Value) (FF : Nat → Prop) (hA : ApS 4 1 w B G m vs ns X) (hF : ∀ i, i < m → ∀ k, (vs i).ownBlock = some k → FF k) (hm : m ≤ 1000000000) (hB : B ≤ w.heap.size) :
  Calls Try.prog 77 #[.slice ao m cm] w fun e w' => e = .returned (.bool true) ∧ Only FF w w' := by
 have HA := J hA
 have HAO := J hao
 have HFF := J hF
 have HBW := J hB
 clear hA hao hF hB
 go_enter Try.func77, Try.ntmps77
 go_wp2
 go_loopw [4] (fun s4 wr => ∃ k : Nat, k ≤ m ∧ s4 = .int .i64 k ∧ Hid (ApS 4 1 wr B G m vs ns (partM mkM ns X k)) ∧ Hid (Only FF w wr)) (fun s4 _ => m - (intOf s4).toNat)
 case atStart =>
  refine ⟨0, Nat.zero_le _, rfl, ?_, Only.refl _ _⟩
  have e : partM mkM ns X 0 = X := by funext j; simp [partM]
  rw [e]
  exact HA
 case round =>
  obtain ⟨i, hi, rfl, HA1, HON⟩ := hrel
  by_cases hlt : i < m
  ·have hao := HAO.out i hlt
   subst hao
   obtain ⟨wo, hwo⟩ : ∃ x, x = wr := ⟨_, rfl⟩
   subst hwo
   have hrow := HA1.out.rows i hlt
   have e0 : partM mkM ns X i i = X i := by simp [partM]
   rw [e0] at hrow
   obtain ⟨n, hn⟩ : ∃ n, n = ns i := ⟨_, rfl⟩
   obtain ⟨v, hv⟩ : ∃ v, v = vs i := ⟨_, rfl⟩
   rw [← hn, ← hv] at hrow
   have hxl : (X i).length = n * (mkM i).length := hrow.1
   obtain ⟨a, c, rfl⟩ := own_formG hrow
   have HROW := J hrow
   have hc := HA1.out.outer i hlt
   rw [← hv] at hc
   have HC := J hc
   have HGs := J (HA1.out.hG (by omega))
   have HGn : Hid ((Value.slice a n c).ownBlock ≠ some G) := by rw [hv]; exact HA1.out.neG i hlt
   have hns : n ≤ 2000000000 := by rw [hn]; exact HA1.out.small i hlt
   have HN : Hid (n = ns i) := hn
   have HV : Hid (Value.slice a n c = vs i) := hv
   have m1 : (i : Int) < (m : Int) := by omega
   have hd1 : decide ((i : Int) < (m : Int)) = true := decide_eq_true m1
   clear hn hv hrow e0
   go_wp2
   go_loopw [5] (fun s5 wq => ∃ k : Nat, k ≤ n ∧ s5 = .int .i64 k ∧ Hid (wq.ownsRow B 4 1 (.slice a n c) n (fillM k (mkM i) (X i))) ∧ Hid (wo.grownBy wq (Value.slice a n c).ownBlock)) (fun s5 _ => n - (intOf s5).toNat)
   case atStart => exact ⟨0, Nat.zero_le _, rfl, by rw [fillM_zero]; exact HROW, World.grownBy.refl _ _⟩
   case round =>
    obtain ⟨k, hk, rfl, HROW2, HG2⟩ := hrel
    have hc2 := (World.cell?_of_block (a := ⟨G, i, none⟩) (HG2.out.block G HGs.out (fun e => HGn.out e.symm))).trans HC.out
    by_cases hlt2 : k < n
    ·obtain ⟨g, cap, hsh, hcap, _, hBg, hgl⟩ := own_shapeG HROW2.out (by omega)
     cases hsh
     obtain ⟨y0, hy0⟩ : ∃ y, (fillM k (mkM i) (X i))[k]? = some y := ⟨_, List.getElem?_eq_getElem (by have h1 := fillM_len k n (mkM i) (X i) hxl hk; have h2 : (mkM i).length = 1 := rfl; rw [h2] at h1; omega)⟩
     have hcx := World.ownsRow.cellAt HROW2.out k (by omega)
     rw [hy0] at hcx
     have hfz := World.ownsRow.frozenAt HROW2.out k
     have HS : Hid ((wr.setCell ⟨g, k, none⟩ (.bool (((i : Nat) : Int) % 2 == 0))).ownsRow B 4 1 (.slice (some ⟨g, 0, none⟩) n c) n (fillM (k + 1) (mkM i) (X i)) ∧ wo.grownBy (wr.setCell ⟨g, k, none⟩ (.bool (((i : Nat) : Int) % 2 == 0))) (some g)) := by
      have h1 := World.ownsRow.stored HROW2.out k (.bool (((i : Nat) : Int) % 2 == 0))
      rw [show (fillM k (mkM i) (X i)).set k (.bool (((i : Nat) : Int) % 2 == 0)) = fillM (k + 1) (mkM i) (X i) from fillM_step1 k n _ (X i) hxl hlt2] at h1
      exact ⟨h1.1, grownBy_trans HG2.out h1.2⟩
     have m2 : (k : Int) < (n : Int) := by omega
     have hd2 : decide ((k : Int) < (n : Int)) = true := decide_eq_true m2
     clear hxl hk hlt
     go_wp2
     go_roundw
     case rel => exact ⟨k + 1, by omega, by go_num, HS.out.1, HS.out.2⟩
     case measure => simp [intOf]; omega
    ·have hkn : k = n := by omega
     have HF2 : Hid (wr.ownsRow B 4 1 (.slice a n c) n (mks n (mkM i))) := by
      have h1 := HROW2.out
      rw [hkn, fillM_all n (mkM i) (X i) hxl] at h1
      exact h1
     have HA2 : Hid (ApS 4 1 wr B G m vs ns (partM mkM ns X (i + 1))) := by
      refine HA1.out.move i hlt (by rw [← HV.out]; exact HG2.out) ?_ ?_
      ·have e1 : partM mkM ns X (i + 1) i = mks n (mkM i) := by simp [partM, HN.out]
       rw [e1, ← HV.out, ← HN.out]
       exact HF2.out
      ·intro j hj hne
       unfold partM
       by_cases h1 : j < i
       ·rw [if_pos h1, if_pos (by omega)]
       ·rw [if_neg h1, if_neg (by omega)]
     have HON2 : Hid (Only FF w wr) := HON.out.trans' (Only.ofG HG2.out (fun j hj => HFF.out i hlt j (by rw [← HV.out]; exact hj)))
     have hd2 : decide ((k : Int) < (n : Int)) = false := decide_eq_false (by omega)
     clear HROW2 hkn
     go_wp2
     go_roundw
     case rel => exact ⟨i + 1, by omega, by go_num, HA2, HON2⟩
     case measure => simp [intOf]; omega
  ·have him : m = i := by omega
   subst him
   obtain ⟨B2, hB2⟩ : ∃ B2, B2 = wr.heap.size := ⟨_, rfl⟩
   have H0 : Hid (Sec 4 1 25 mkM wr B B2 G m vs ns 0 (.slice none 0 0) (fun _ => .slice none 0 0)) := by
    obtain ⟨a1, a2, a3, a4, a5, a6⟩ := HA1.out
    refine ⟨⟨a1, a2, fun j hj => ?_, a4, a5, a6⟩, fun h0 => by rw [hB2]; exact a6 h0, World.ownsRow_nil _ _ _ _, fun j hj => by omega, fun j l hj => by omega⟩
    have h9 := a3 j hj
    unfold partM at h9
    rwa [if_pos (by omega)] at h9
   have HBB : Hid (B ≤ B2 ∧ w.heap.size ≤ B2) := by have h1 := HON.out.size; have h2 := HBW.out; exact ⟨by omega, by omega⟩
   have hB2w : B2 ≤ wr.heap.size := by omega
   obtain ⟨j0, hj, jz0, jz1, jz2⟩ := info_parts info25c
   obtain ⟨i0, hi5, iz0, iz1, iz2⟩ := info_parts info4b
   have hd0 : decide ((m : Int) < (m : Int)) = false := decide_eq_false (by omega)
   clear hB2 HA1 HA hlt hi
   go_wp2
   go_loopw [3, 6] (fun gv s6 wq => ∃ (k : Nat) (gs : Nat → Value), k ≤ m ∧ s6 = .int .i64 k ∧ Hid (Sec 4 1 25 mkM wq B B2 G m vs ns k gv gs) ∧ Hid (Only FF w wq) ∧ B2 ≤ wq.heap.size) (fun _ s6 _ => m - (intOf s6).toNat)
   case atStart => exact ⟨0, _, Nat.zero_le _, rfl, H0, HON, hB2w⟩
   case round =>
    clear H0 HON hB2w
    obtain ⟨k, gs, hk, rfl, HS2, HON, hB2q⟩ := hrel
    obtain ⟨ga, gc, hgv⟩ := own_formG HS2.out.list
    subst hgv
    by_cases hlt2 : k < m
    ·have hao := HAO.out k hlt2
     subst hao
     have hrow := HS2.out.ap.rows k hlt2
     obtain ⟨n, hn⟩ : ∃ n, n = ns k := ⟨_, rfl⟩
     obtain ⟨v, hv⟩ : ∃ v, v = vs k := ⟨_, rfl⟩
     rw [← hn, ← hv] at hrow
     obtain ⟨a, c, rfl⟩ := own_formG hrow
     have hc := HS2.out.ap.outer k hlt2
     rw [← hv] at hc
     have hns : n ≤ 2000000000 := by rw [hn]; exact HS2.out.ap.small k hlt2
     have HN : Hid (n = ns k) := hn
     have HV : Hid (Value.slice a n c = vs k) := hv
     obtain ⟨M0, hM0⟩ : ∃ M, M = mks n (mkM k) := ⟨_, rfl⟩
     have HG0 : Hid (Gr 4 1 wr wr B (.slice a n c) (.slice a n c) n 0 M0 (mks 0 (mkM k))) := by rw [hM0, hn]; rw [hn] at hrow; exact gr_start hrow
     have HM0 := J hM0
     have hBw : B ≤ wr.heap.size := Nat.le_trans HBB.out.1 hB2q
     have m1 : (k : Int) < (m : Int) := by omega
     have hd1 : decide ((k : Int) < (m : Int)) = true := decide_eq_true m1
     clear hn hv hrow hM0
     go_wp2
     go_loopw [7, 8] (fun v s8 wq => ∃ t : Nat, t ≤ 20 ∧ s8 = .int .i64 t ∧ Hid (Gr 4 1 wr wq B (.slice a n c) v n t M0 (mks t (mkM k)))) (fun _ s8 _ => 20 - (intOf s8).toNat)
     case atStart => exact ⟨0, by omega, rfl, HG0⟩
     case round =>
      clear HG0
      obtain ⟨t, ht, rfl, HGr⟩ := hrel
      by_cases hlt3 : t < 20
      ·have HM : Hid (mks (t + 1) (mkM k) = mks t (mkM k) ++ (#[.bool (((k : Nat) : Int) % 2 == 0)] : Array Value).toList) := mks_succ t (mkM k)
       have hGr := HGr.out
       have m2 : (t : Int) < 20 := by omega
       have hd2 : decide ((t : Int) < 20) = true := decide_eq_true m2
       clear HGr
       go_wp2_with (at_builtin; refine wpList_gr Try.underlying25 hi5 iz0 iz1 iz2 rfl (by decide) (by decide) rfl (.tmp 49) (.tmp 53) rfl hGr hBw (#[.bool (((k : Nat) : Int) % 2 == 0)]) rfl ?_ (by omega) rfl rfl ?_; (first | (intro x hx; simp at hx; (first | (subst hx; rfl) | (rcases hx with rfl | rfl <;> rfl) | (rcases hx with rfl | rfl | rfl <;> rfl) | (rcases hx with rfl | rfl | rfl | rfl <;> rfl)))); intro v5 w5 hg5; rw [← HM.out] at hg5; have HG5 := J hg5; clear hGr hg5)
       go_roundw
       case rel => exact ⟨t + 1, by omega, by go_num, HG5⟩
       case measure => simp [intOf]; omega
      ·have ht9 : t = 20 := by omega
       subst ht9
       obtain ⟨g5, c5, rfl, _, _, _, _⟩ := own_shapeG HGr.out.new (by omega)
       have hlist : Hid (wr.ownsRow B2 25 1 (.slice ga k gc) k ((List.range k).map gs)) := by
        refine HS2.out.list.kept HGr.out.grow ?_
        have h9 := types_apart (by decide) HS2.out.list (HS2.out.ap.rows k hlt2)
        rw [← HV.out] at h9
        exact h9
       have hsz6 := Nat.le_trans hB2q HGr.out.grow.size
       have hd2 : decide ((20 : Int) < 20) = false := by decide
       go_wp2_with (
        (at_builtin; refine wpList_append_own _ rfl (.tmp 55) (.tmp 57) 73 rfl B2 25 j0 (.slice none 0 0) 1 24 Try.underlying73 hj jz0 jz1 jz2 rfl (by decide) _ _ _ rfl (hlist.out.alloc _) ⟨_, 0, none⟩ 1 1 [.slice (some ⟨g5, 0, none⟩) (n + 20) c5] rfl rfl ?_ ?_ ?_ ?_ ?_ ?_; (first | (intro j u hj; match j, hj with | 0, hj => simp at hj; subst hj; simp [Addr.add])); (simp [Value.oneCell']); (simp [maxLen]; omega); omega; (simp; omega); intro v6 w6 hown6 hgrow6 _; have HOW6 := J hown6; have HGW6 := J hgrow6; clear hown6 hgrow6))
       have HS3 : Hid (Sec 4 1 25 mkM w6 B B2 G m vs ns (k + 1) v6 (fun j => if j = k then .slice (some ⟨g5, 0, none⟩) (n + 20) c5 else gs j)) := by
        have hgr := HGr.out
        rw [HM0.out, HV.out, HN.out] at hgr
        have h9 := HS2.out.more (by decide) hlt2 hgr (grownBy_trans (World.grownBy_alloc _ _ _) HGW6.out) (by rw [← HN.out]; exact HOW6.out)
        rw [HN.out]
        exact h9
       have HON2 : Hid (Only FF w w6) := by
        have o1 := HON.out.trans' (Only.ofG HGr.out.grow (fun j hj => HFF.out k hlt2 j (by rw [← HV.out]; exact hj)))
        have o2 : Only (fun j => (Value.slice ga k gc).ownBlock = some j) wr w6 := Only.ofG (grownBy_trans (World.grownBy_alloc _ _ _) HGW6.out) (fun j hj => hj)
        exact o1.trans o2 (fun j hj e => by have h1 := (HS2.out.list.lt j e).1; have h2 := HBB.out.2; omega)
       have hsz7 : B2 ≤ w6.heap.size := by have h1 := HGW6.out.size; simp at h1; omega
       clear hlist HOW6 HGW6 HS2 HGr HON
       go_wp2
       go_roundw
       case rel => exact ⟨k + 1, _, by omega, by go_num, HS3, HON2, hsz7⟩
       case measure => simp [intOf]; omega
    ·have hkm : m = k := by omega
     subst hkm
     have H3 : Hid (∀ i, i < m → ∃ a c g c2 gg, vs i = .slice a (ns i) c ∧ gs i = .slice (some ⟨g, 0, none⟩) (ns i + 20) c2 ∧ ga = some ⟨gg, 0, none⟩ ∧ wr.cell? ⟨G, i, none⟩ = some (.slice a (ns i) c) ∧ wr.cell? ⟨gg, i, none⟩ = some (.slice (some ⟨g, 0, none⟩) (ns i + 20) c2) ∧ ns i ≤ 2000000000 ∧
       (∀ t, t < ns i → ∃ q, a = some ⟨q, 0, none⟩ ∧ wr.cell? ⟨q, t, none⟩ = some (.bool (((i : Nat) : Int) % 2 == 0))) ∧ ∀ t, t < ns i + 20 → wr.cell? ⟨g, t, none⟩ = some (.bool (((i : Nat) : Int) % 2 == 0))) := by
      intro i hi
      have hrow := HS2.out.ap.rows i hi
      have hrow2 := HS2.out.rows i hi
      obtain ⟨a, c, hv⟩ := own_formG hrow
      obtain ⟨g, c2, hg, _, _, _, _⟩ := own_shapeG hrow2 (by omega)
      have hlist := HS2.out.list
      obtain ⟨gg, cg, hgg, _⟩ := own_shapeG hlist (by omega)
      cases hgg
      refine ⟨a, c, g, c2, gg, hv, hg, rfl, ?_, ?_, HS2.out.ap.small i hi, ?_, ?_⟩
      ·rw [HS2.out.ap.outer i hi, hv]
      ·have h9 := World.ownsRow.cellAt hlist i (by omega)
       rw [h9, List.getElem?_map, List.getElem?_range hi, Option.map_some, hg]
      ·intro t ht
       obtain ⟨q, cq, hq, _, _, _, _⟩ := own_shapeG hrow (by omega)
       rw [hv] at hq
       cases hq
       rw [hv] at hrow
       refine ⟨q, rfl, ?_⟩
       rw [World.ownsRow.cellAt hrow t (by omega)]
       have h9 := mks_get (ns i) (mkM i) t 0 ht (by rw [mkM_len]; omega)
       rw [mkM_len, Nat.add_zero, Nat.mul_one] at h9
       exact h9
      ·intro t ht
       rw [hg, mks_add] at hrow2
       rw [World.ownsRow.cellAt hrow2 t (by omega)]
       have h9 := mks_get (ns i + 20) (mkM i) t 0 ht (by rw [mkM_len]; omega)
       rw [mkM_len, Nat.add_zero, Nat.mul_one] at h9
       exact h9
     have hd0 : decide ((m : Int) < (m : Int)) = false := decide_eq_false (by omega)
     clear HS2 hlt2
     go_wp2
     go_loopw [9] (fun s9 wq => ∃ i : Nat, i ≤ m ∧ s9 = .int .i64 i ∧ wq = wr) (fun s9 _ => m - (intOf s9).toNat)
     case atStart => exact ⟨0, Nat.zero_le _, rfl, rfl⟩
     case round =>
      obtain ⟨i, hi, rfl, rfl⟩ := hrel
      by_cases hlt3 : i < m
      ·have hao := HAO.out i hlt3
       subst hao
       obtain ⟨a, c, g, c2, gg, hv, hg, rfl, hcG, hcg, hns, hrow, hrow2⟩ := H3.out i hlt3
       obtain ⟨n, hn⟩ : ∃ n, n = ns i := ⟨_, rfl⟩
       rw [← hn] at hcG hcg hns hrow hrow2
       have HROW := J hrow
       have HROW2 := J hrow2
       have m1 : (i : Int) < (m : Int) := by omega
       have hd1 : decide ((i : Int) < (m : Int)) = true := decide_eq_true m1
       clear hv hg hn hrow hrow2
       go_wp2
       go_loopw [10] (fun s10 wq => ∃ t : Nat, t ≤ n + 20 ∧ s10 = .int .i64 t ∧ wq = wr) (fun s10 _ => n + 20 - (intOf s10).toNat)
       case atStart => exact ⟨0, Nat.zero_le _, rfl, rfl⟩
       case round =>
        obtain ⟨t, ht, rfl, rfl⟩ := hrel
        by_cases hlt4 : t < n + 20
        ·have hcq := HROW2.out t hlt4
         have m2 : (t : Int) < (n : Int) + 20 := by omega
         have hd2 : decide ((t : Int) < (n : Int) + 20) = true := decide_eq_true m2
         by_cases hlt5 : t < n
         ·obtain ⟨q, rfl, hcp⟩ := HROW.out t hlt5
          have m3 : (t : Int) < (n : Int) := by omega
          have hd3 : decide ((t : Int) < (n : Int)) = true := decide_eq_true m3
          go_wp2
          go_roundw
          case rel => exact ⟨t + 1, by omega, by go_num, by first | rfl | trivial⟩
          case measure => simp [intOf]; omega
         ·have m3 : ¬ (t : Int) < (n : Int) := by omega
          have hd3 : decide ((t : Int) < (n : Int)) = false := decide_eq_false m3
          go_wp2
          go_roundw
          case rel => exact ⟨t + 1, by omega, by go_num, by first | rfl | trivial⟩
          case measure => simp [intOf]; omega
        ·have htn : t = n + 20 := by omega
         subst htn
         have hd2 : decide (((n + 20 : Nat) : Int) < (n : Int) + 20) = false := decide_eq_false (by omega)
         go_wp2
         go_roundw
         case rel => exact ⟨i + 1, by omega, by go_num, by first | rfl | trivial⟩
         case measure => simp [intOf]; omega
      ·have him2 : m = i := by omega
       subst him2
       have hd1 : decide ((m : Int) < (m : Int)) = false := decide_eq_false (by omega)
       go_wp2
       go_ret
       exact ⟨rfl, HON.out⟩
def InL (L : List Rw) : Nat → Prop := fun j => ∃ r ∈ L, r.v.ownBlock = some j
theorem inL_of {i k : Nat} (hi : i < L.length) (h : (L.getD i ⟨none, 0, 0, []⟩).v.ownBlock = some k) : InL L k := by
 rw [List.getD_eq_getElem?_getD, List.getElem?_eq_getElem hi] at h
 exact ⟨L[i], List.getElem_mem hi, h⟩
theorem RowsAt.other {B : Nat} {G : Nat → Prop} {E e sz E2 e2 sz2 : Nat} {v v2 : Value} {L2 : List Rw} (h : RowsAt w B G E e sz v L) (h2 : RowsAt w B G E2 e2 sz2 v2 L2) (n1 : E2 ≠ e) (n2 : e2 ≠ e) (ho : Only (InL L) w w') : RowsAt w' B G E2 e2 sz2 v2 L2 :=
 h2.keep (fun k cs t hg hc ht => ho.block k (lt_of_block hc) (fun ⟨r, hr, hk⟩ => by
  obtain ⟨cs', hc'⟩ := own_tag (h.own r hr) hk
  rw [hc] at hc'
  cases hc'
  rcases ht with ht | ht
  ·exact n1 ht.symm
  ·exact n2 ht.symm)) (fun _ e => e)
theorem apart_any (w : World) (B k : Nat) (G : Nat → Prop) (P M T : List Rw) (h : BookAt w B k G P M T) (hP : P.length ≤ 1000000000) (hM : M.length ≤ 1000000000) (hT : T.length ≤ 1000000000) (sP : ∀ r ∈ P, r.n ≤ 2000000000) (sM : ∀ r ∈ M, r.n ≤ 2000000000) (sT : ∀ r ∈ T, r.n ≤ 2000000000) :
  Calls Try.prog 36 #[.pointer (some ⟨k, 0, none⟩)] w fun e w' => e = .returned (.bool true) ∧ Only G w w' := by
 obtain ⟨vp, vm, vt, hk0, hrp, hrm, hrt⟩ := h.ex
 have HGK := J h.gk
 have HBw : Hid (B ≤ w.heap.size) := by have := h.lim k h.gk; unfold Hid; omega
 obtain ⟨ap, cp, rfl⟩ := own_formG hrp.row
 obtain ⟨am, cm, rfl⟩ := own_formG hrm.row
 obtain ⟨at1, ct, rfl⟩ := own_formG hrt.row
 have HRP := J hrp
 have HRM := J hrm
 have HRT := J hrt
 have HK0 := J hk0
 obtain ⟨c0, c1, c2⟩ := cells3 hk0
 have HKN : Hid (∀ (L : List Rw) (E e sz : Nat) (v : Value) (u : World), RowsAt u B G E e sz v L → e ≠ 76 → u.heap[k]? = some (.cells #[.slice ap P.length cp, .slice am M.length cm, .slice at1 T.length ct] 76 (0, 0)) → ¬ InL L k) := fun L E e sz v u hr hne hk ⟨r, hr9, hk9⟩ => by
  obtain ⟨cs', hc'⟩ := own_tag (hr.own r hr9) hk9
  rw [hk] at hc'
  cases hc'
  exact hne rfl
 obtain ⟨_, gp, hap, hAP, hFP⟩ := rowsAt_ap (by decide) hrp sP
 have HAP := J hAP
 have HFP := J hFP
 have HAPo := J hap
 clear h hk0 hrp hrm hrt hAP hFP hap
 go_enter Try.func36, Try.ntmps36
 go_wp2_with (first
  | (go_at_call 77; have hmm := HT2; clear hmm; obtain ⟨_, gm, ham, hAM, hFM⟩ := rowsAt_ap (by decide) HRM2.out sM; refine (marksApart_any _ B gm M.length cm am ham _ _ _ (InL M) hAM (fun i hi k hk => inL_of hi hk) hM (Nat.le_trans HBw.out (Nat.le_trans HO1.out.size HO2.out.size))).mono ?_; rintro e u3 ⟨rfl, ho3⟩; have HO3 := J ho3; clear ho3)
  | (go_at_call 76; obtain ⟨_, gt, hat, hAT, hFT⟩ := rowsAt_ap (by decide) HRT1.out sT; refine (traceApart_any _ B gt T.length ct at1 hat _ _ _ (InL T) hAT (fun i hi k hk => inL_of hi hk) hT (Nat.le_trans HBw.out HO1.out.size)).mono ?_; rintro e u2 ⟨rfl, ho2⟩; have HO2 := J ho2; have HRM2 := J (HRT1.out.other HRM1.out (by decide) (by decide) ho2); have HK2 := J ((ho2.block k (lt_of_block HK1.out) (HKN.out _ _ _ _ _ _ HRT1.out (by decide) HK1.out)).trans HK1.out); obtain ⟨e0, e1, e2⟩ := cells3 HK2.out; have HT2 := J True.intro; clear ho2 d0 d1 d2)
  | (go_at_call 75; refine (bytesApart_any w B gp P.length cp ap HAPo.out _ _ _ (InL P) HAP.out (fun i hi k hk => inL_of hi hk) hP HBw.out).mono ?_; rintro e u1 ⟨rfl, ho1⟩; have HO1 := J ho1; have HRM1 := J (HRP.out.other HRM.out (by decide) (by decide) ho1); have HRT1 := J (HRP.out.other HRT.out (by decide) (by decide) ho1); have HK1 := J ((ho1.block k (lt_of_block HK0.out) (HKN.out _ _ _ _ _ _ HRP.out (by decide) HK0.out)).trans HK0.out); obtain ⟨d0, d1, d2⟩ := cells3 HK1.out; clear ho1 c0 c1 c2))
 go_ret
 refine ⟨rfl, ?_⟩
 have g1 : ∀ {E e sz : Nat} {v : Value} {u : World} {L : List Rw}, RowsAt u B G E e sz v L → ∀ j, InL L j → G j := fun hr j ⟨r, hr9, hk9⟩ => hr.gl r hr9 j hk9
 have o1 : Only G w u1 := HO1.out.mono (fun j _ e => g1 HRP.out j e)
 have o2 : Only G w u2 := o1.trans HO2.out (fun j _ e => g1 HRT1.out j e)
 exact o2.trans HO3.out (fun j _ e => g1 HRM2.out j e)
theorem rdO_below {a : Option Addr} {len : Nat} {xs : List Ox} (h : ReadsO w a len xs) (hb : Below w.heap.size w w') : ReadsO w' a len xs :=
 ⟨h.1, fun x hx => (h.2.1 x hx).below hb, h.2.2.1, fun y hy i hi j hj => (hb.cell (block_lt_of_cell (h.2.2.2 y hy i hi j hj))).trans (h.2.2.2 y hy i hi j hj)⟩
end Go.Proofs.Ytadlkikjfonkgaa
