/-
  SEAT YtnmnhgagnfodhaaDoor: Vb, Vc, Zh.
-/
import Derived.Test.YtnmnhgagnfodhaaDoorMw
import Derived.Test.YtnmnhgagnfodhaaDoorMbp
import Derived.Test.YtnmnhgagnfodhaaDoorMa
import Derived.Deep.RegionHeld3
import Derived.Test.YtnmnhgagnfodhaaDoorMbm
import Derived.Test.YtnmnhgagnfodhaaDoorMx
namespace Go.Proofs.YtnmnhgagnfodhaaDoor.Cp
open Go.RowKit Go.Conc
set_option linter.unusedVariables false
theorem diff_touched {C : Ch} {n m : Nat} (h : CI C n) (s : Sp) (h' : CI (doneC C s) m) (hP : POk C) (hP' : POk (doneC C s)) {q : Pl} (hq : q ∈ dfL (imgL C) (imgL (doneC C s)) (mks C) (mks (doneC C s)) 313 4 32) : touB s q.x q.y = true := by
 obtain ⟨k, hk, hq⟩ := dfL_mem.1 hq
 have pg : pgB C.S = 313 := by rw [h.S]; rfl
 have pg' : pgB (doneC C s).S = 313 := by rw [h'.S]; rfl
 rcases dfN_mem.1 hq with ⟨h1, h2, rfl⟩ | ⟨h1, rfl⟩
 ·cases ht : touB s ((k / 4 : Nat) : Int) (-1) with
  | true => rfl
  | false => exact absurd (done_mark C s (k / 4) ht).symm h2
 ·cases ht : touB s ((k / 4 : Nat) : Int) ((k % 4 : Nat) : Int) with
  | true => rfl
  | false =>
   have e1 := img_page hP h.ok (t := k) (by rw [h.B, h.P]; omega)
   have e2 := img_page hP' h'.ok (t := k) (by rw [h'.B, h'.P]; omega)
   rw [pg, h.P] at e1
   rw [pg', h'.P, done_page C s _ _ ht] at e2
   exact absurd (e1.trans e2.symm) h1
end Go.Proofs.YtnmnhgagnfodhaaDoor.Cp
namespace Go.Proofs.YtnmnhgagnfodhaaDoor.Cp
open Go.RowKit Go.Conc
set_option linter.unusedVariables false
theorem laidL_succ (d : List Int) (fr k : Nat) (f : Int) : laidL d fr (k + 1) f = laidL d fr k f ++ [if fr + k < d.length then d.getD (fr + k) 0 else f] := by
 unfold laidL
 rw [List.range_succ, List.map_append]
 rfl
theorem laidL_byt {d : List Int} (h : Bts d) (fr n : Nat) {f : Int} (hf : 0 ≤ f ∧ f ≤ 255) : Bts (laidL d fr n f) := by
 intro z hz
 unfold laidL at hz
 obtain ⟨i, _, rfl⟩ := List.mem_map.1 hz
 split
 ·exact byteAt h _
 ·exact hf
set_option maxRecDepth 100000 in
theorem laid_any (a : Option Addr) (len cap : Nat) (d : List Int) (w : World) (h : Reads w a len d) (hl : len ≤ 9223372036854775807) (fI nI : Int) (fr n : Nat) (h1 : fI = fr) (h2 : nI = n) (hfr : fr ≤ 1000) (hn : n ≤ 1000) (f : Int) :
  Calls Tryd.prog 25 #[.slice a len cap, .int .i64 fI, .int .i64 nI, .int .u8 f] w fun e w' => ∃ v, e = .returned v ∧ w'.ownsRow w.heap.size 5 1 v n ((laidL d fr n f).map (Value.int .u8)) ∧ Below w.heap.size w w' := by
 subst h1 h2
 obtain ⟨i0, hi, hz0, hz1, hz2⟩ := info_parts info5
 have hlen := h.1
 go_enter Tryd.func25, Tryd.ntmps25
 go_wp2
 go_loopw [9, 10] (fun v i wr => ∃ k : Nat, k ≤ n ∧ i = .int .i64 k ∧ wr.ownsRow w.heap.size 5 1 v k ((laidL d fr k f).map (Value.int .u8)) ∧ Below w.heap.size w wr)
  (fun _ i _ => n - (intOf i).toNat)
 case atStart => exact ⟨0, Nat.zero_le _, rfl, World.ownsRow_nil _ _ _ _, Below.refl _ _⟩
 case round =>
  obtain ⟨k, hk, rfl, hown, hbel⟩ := hrel
  by_cases hlt : k < n
  ·have dk : decide ((k : Int) < (n : Int)) = true := decide_eq_true (by omega)
   obtain ⟨r, hr⟩ : ∃ r, r = fr + k := ⟨_, rfl⟩
   have hw : wrap64 ((fr : Int) + (k : Int)) = (r : Int) := by unfold wrap64; omega
   have hs : (fr : Int) + (k : Int) = (r : Int) := by omega
   by_cases hin : r < len
   ·have d0 : decide ((r : Int) < (len : Int)) = true := decide_eq_true (by omega)
    have d1 : (r : Int) < (len : Int) := by omega
    obtain ⟨g, off, rfl, hb, hcell⟩ := h.pos (by omega)
    obtain ⟨z, hz⟩ : ∃ z, z = d.getD r 0 := ⟨_, rfl⟩
    have hcx : wr.cell? ⟨g, off + r, none⟩ = some (.int .u8 z) := by rw [hz]; exact (hbel.cell (by exact hb)).trans (hcell r hin)
    have HZ : Hid (laidL d fr (k + 1) f = laidL d fr k f ++ [z]) := by
     unfold Hid
     rw [laidL_succ, ← hr, hlen, if_pos hin, hz]
    clear hz hr
    go_wp2_with ((at_builtin; refine wpList_append_own _ rfl _ _ 32 rfl w.heap.size 5 i0 (.int .u8 0) 1 1 Tryd.underlying32 hi hz0 hz1 hz2 rfl (by decide) _ _ _ rfl (hown.alloc _) ⟨wr.heap.size, 0, none⟩ 1 1 [.int .u8 z] rfl rfl (news_one _ _) (by simp [Value.oneCell']) (by simp [maxLen]; omega) (by omega) (by have := hbel.size; simp; omega) ?_; intro v1 w1 hown1 hgrow1 _))
    have hown2 : w1.ownsRow w.heap.size 5 1 v1 (k + 1) ((laidL d fr (k + 1) f).map (Value.int .u8)) := by
     rw [HZ.out, List.map_append]
     exact hown1
    have hbel2 : Below w.heap.size w w1 := (hbel.alloc hbel.size _).grown hgrow1 (by have := hbel.size; simp; omega) (fun k hk => (hown.lt k hk).1)
    clear hown1 hgrow1 hown
    go_wp2
    go_roundw
    case rel => exact ⟨k + 1, by omega, by go_num, hown2, hbel2⟩
    case measure => simp [intOf]; omega
   have d0 : decide ((r : Int) < (len : Int)) = false := decide_eq_false (by omega)
   have HZ : Hid (laidL d fr (k + 1) f = laidL d fr k f ++ [f]) := by
    unfold Hid
    rw [laidL_succ, ← hr, hlen, if_neg hin]
   clear hr
   go_wp2_with ((at_builtin; refine wpList_append_own _ rfl _ _ 32 rfl w.heap.size 5 i0 (.int .u8 0) 1 1 Tryd.underlying32 hi hz0 hz1 hz2 rfl (by decide) _ _ _ rfl (hown.alloc _) ⟨wr.heap.size, 0, none⟩ 1 1 [.int .u8 f] rfl rfl (news_one _ _) (by simp [Value.oneCell']) (by simp [maxLen]; omega) (by omega) (by have := hbel.size; simp; omega) ?_; intro v1 w1 hown1 hgrow1 _))
   have hown2 : w1.ownsRow w.heap.size 5 1 v1 (k + 1) ((laidL d fr (k + 1) f).map (Value.int .u8)) := by
    rw [HZ.out, List.map_append]
    exact hown1
   have hbel2 : Below w.heap.size w w1 := (hbel.alloc hbel.size _).grown hgrow1 (by have := hbel.size; simp; omega) (fun k hk => (hown.lt k hk).1)
   clear hown1 hgrow1 hown
   go_wp2
   go_roundw
   case rel => exact ⟨k + 1, by omega, by go_num, hown2, hbel2⟩
   case measure => simp [intOf]; omega
  ·have dk : decide ((k : Int) < (n : Int)) = false := decide_eq_false (by omega)
   obtain rfl : k = n := by omega
   go_wp2
   go_ret
   exact ⟨_, rfl, hown, hbel⟩
set_option maxRecDepth 100000 in
theorem touched_any (s : Sp) (x y : Int) (w : World) : Calls Tryd.prog 10 #[(.agg #[.int .i64 s.k, .int .i64 s.b, .int .i64 s.p, .int .i64 s.t, .slice s.da s.dn s.dc, .int .u8 s.f]), .agg #[.int .i64 x, .int .i64 y]] w fun e w' => e = .returned (.bool (touB s x y)) ∧ Below w.heap.size w w' := by
 have HB : Hid (Below w.heap.size w ((w.alloc (.cells #[.int .i64 s.k, .int .i64 s.b, .int .i64 s.p, .int .i64 s.t, .slice s.da s.dn s.dc, .int .u8 s.f] 39)).alloc (.cells #[.int .i64 x, .int .i64 y] 45))) := below_trans (below_alloc _ _) (below_alloc _ _)
 have HT : Hid (∀ q, touB s x y = q → Ending.returned (.bool q) = .returned (.bool (touB s x y))) := fun q h => by rw [h]
 by_cases hx : x = s.b
 ·have d0 : (x != s.b) = false := by simp [hx]
  by_cases k1 : s.k = 1
  ·have d1 : (s.k == 1) = true := by rw [k1]; rfl
   have HE : Hid (touB s x y = (y == s.p)) := by unfold Hid touB; rw [if_pos hx, if_pos (Or.inl k1)]
   clear hx k1
   go_enter Tryd.func10, Tryd.ntmps10
   go_wp2
   go_ret
   exact ⟨HT.out _ HE.out, HB.out⟩
  have d1 : (s.k == 1) = false := by simp [k1]
  by_cases k4 : s.k = 4
  ·have d4 : (s.k == 4) = true := by rw [k4]; rfl
   have HE : Hid (touB s x y = (y == s.p)) := by unfold Hid touB; rw [if_pos hx, if_pos (Or.inr k4)]
   clear hx k1 k4
   go_enter Tryd.func10, Tryd.ntmps10
   go_wp2
   go_ret
   exact ⟨HT.out _ HE.out, HB.out⟩
  have d4 : (s.k == 4) = false := by simp [k4]
  by_cases k2 : s.k = 2
  ·have d2 : (s.k == 2) = true := by rw [k2]; rfl
   have HE : Hid (touB s x y = decide (y ≥ 0)) := by unfold Hid touB; rw [if_pos hx, if_neg (by omega), if_pos k2]
   clear hx k1 k4 k2
   go_enter Tryd.func10, Tryd.ntmps10
   go_wp2
   go_ret
   exact ⟨HT.out _ HE.out, HB.out⟩
  have d2 : (s.k == 2) = false := by simp [k2]
  by_cases k3 : s.k = 3
  ·have d3 : (s.k == 3) = true := by rw [k3]; rfl
   have HE : Hid (touB s x y = (y == -1)) := by unfold Hid touB; rw [if_pos hx, if_neg (by omega), if_neg k2, if_pos k3]
   clear hx k1 k4 k2 k3
   go_enter Tryd.func10, Tryd.ntmps10
   go_wp2
   go_ret
   exact ⟨HT.out _ HE.out, HB.out⟩
  have d3 : (s.k == 3) = false := by simp [k3]
  have HE : Hid (touB s x y = false) := by unfold Hid touB; rw [if_pos hx, if_neg (by omega), if_neg k2, if_neg k3]
  clear hx k1 k4 k2 k3
  go_enter Tryd.func10, Tryd.ntmps10
  go_wp2
  go_ret
  exact ⟨HT.out _ HE.out, HB.out⟩
 ·have d0 : (x != s.b) = true := by simp [hx]
  have HE : Hid (touB s x y = false) := by unfold Hid touB; rw [if_neg hx]
  clear hx
  go_enter Tryd.func10, Tryd.ntmps10
  go_wp2
  go_ret
  exact ⟨HT.out _ HE.out, HB.out⟩
theorem drew_size (w : World) : w.drew.heap.size = w.heap.size := rfl
theorem own_rd {w : World} {B g n c : Nat} {X : List Int} (h : w.ownsRow B 5 1 (.slice (some ⟨g, 0, none⟩) n c) n (X.map (Value.int .u8))) (hr : Bts X) : Reads w (some ⟨g, 0, none⟩) n X := by
 have h9 : Own w B g n c X := h
 have h8 := h9.reads hr n (Nat.le_refl _)
 rw [List.take_of_length_le (by rw [h9.len]; exact Nat.le_refl _)] at h8
 exact h8
theorem owns_below {u v' : World} {B n c g : Nat} {xs : List Value} (h : u.ownsRow B 5 1 (.slice (some ⟨g, 0, none⟩) n c) n xs) (hb : Below u.heap.size u v') : v'.ownsRow B 5 1 (.slice (some ⟨g, 0, none⟩) n c) n xs := by
 refine ⟨h.1, ?_⟩
 rcases h.2 with hn | ⟨gg, cap, cu, hv, hb2, hh, rest⟩
 ·exact Or.inl hn
 ·exact Or.inr ⟨gg, cap, cu, hv, hb2, (hb.block gg (lt_of_block hh)).trans hh, rest⟩
theorem own_out {w u : World} {p : Nat} {F : Nat → Prop} {K : List (Nat × Obj)} {C : Ch} (h : HD w u p F K C) {x : World} {B n c g : Nat} {xs : List Value} (hB : u.heap.size ≤ B) (ho : x.ownsRow B 5 1 (.slice (some ⟨g, 0, none⟩) n c) n xs) : ¬ F g := fun hf => by
 have h1 := h.ch.fin g hf
 rcases ho.2 with ⟨hv, _⟩ | ⟨gg, cap, cu, hv, hb2, hh, rest⟩
 ·cases hv
 ·injection hv with hv1
  injection hv1 with hv1
  injection hv1 with hv1
  subst hv1
  omega
theorem dcells {w u : World} {p q3 q4 : Nat} {F : Nat → Prop} {K : List (Nat × Obj)} {C : Ch} {s : Sp} (h : HD w u p F ((q4, .cells #[.int .i64 s.b, .int .i64 s.p] 45 (0, 0)) :: (q3, .cells #[.int .i64 s.k, .int .i64 s.b, .int .i64 s.p, .int .i64 s.t, .slice s.da s.dn s.dc, .int .u8 s.f] 39 (0, 0)) :: K) C) : u.cell? ⟨q3, 4, none⟩ = some (.slice s.da s.dn s.dc) ∧ u.cell? ⟨q3, 5, none⟩ = some (.int .u8 s.f) ∧ u.cell? ⟨q4, 0, none⟩ = some (.int .i64 s.b) ∧ u.cell? ⟨q4, 1, none⟩ = some (.int .i64 s.p) := by
 have h1 := h.blk (g := q3) (o := .cells #[.int .i64 s.k, .int .i64 s.b, .int .i64 s.p, .int .i64 s.t, .slice s.da s.dn s.dc, .int .u8 s.f] 39 (0, 0)) (by simp)
 have h2 := h.blk (g := q4) (o := .cells #[.int .i64 s.b, .int .i64 s.p] 45 (0, 0)) (by simp)
 exact ⟨by simp only [World.cell?, h1]; rfl, by simp only [World.cell?, h1]; rfl, by simp only [World.cell?, h2]; rfl, by simp only [World.cell?, h2]; rfl⟩
theorem dcells2 {w u : World} {p q3 : Nat} {F : Nat → Prop} {K : List (Nat × Obj)} {C : Ch} {s : Sp} (h : HD w u p F K C) (hm : (q3, Obj.cells #[.int .i64 s.k, .int .i64 s.b, .int .i64 s.p, .int .i64 s.t, .slice s.da s.dn s.dc, .int .u8 s.f] 39 (0, 0)) ∈ K) : u.cell? ⟨q3, 0, none⟩ = some (.int .i64 s.k) ∧ u.cell? ⟨q3, 1, none⟩ = some (.int .i64 s.b) ∧ u.cell? ⟨q3, 2, none⟩ = some (.int .i64 s.p) ∧ u.cell? ⟨q3, 3, none⟩ = some (.int .i64 s.t) := by
 have h1 := h.blk hm
 exact ⟨by simp only [World.cell?, h1]; rfl, by simp only [World.cell?, h1]; rfl, by simp only [World.cell?, h1]; rfl, by simp only [World.cell?, h1]; rfl⟩
set_option maxHeartbeats 2000000 in
set_option maxRecDepth 100000 in
theorem done_any {w u : World} {p : Nat} {F : Nat → Prop} {K : List (Nat × Obj)} {C : Ch} {n : Nat} (h : HD w u p F K C) (hci : CI C n) (hn : n ≤ 100) (s : Sp) (hr : Reads u s.da s.dn s.d) (hdl : s.dn ≤ 9223372036854775807) (hf : 0 ≤ s.f ∧ s.f ≤ 255) (ht : s.t ≤ 9223372036854775807) :
  Calls Tryd.prog 8 #[.pointer (some ⟨p, 0, none⟩), (.agg #[.int .i64 s.k, .int .i64 s.b, .int .i64 s.p, .int .i64 s.t, .slice s.da s.dn s.dc, .int .u8 s.f])] u fun e u' => e = .returned (.tuple #[]) ∧ ∃ F', HD w u' p F' K (doneC C s) := by
 have HBY : Hid (Bts s.d ∧ 0 ≤ s.f ∧ s.f ≤ 255) := ⟨hr.2.1, hf⟩
 have HM1 := hide ((h.below (below_alloc u (.cells #[.int .i64 s.k, .int .i64 s.b, .int .i64 s.p, .int .i64 s.t, .slice s.da s.dn s.dc, .int .u8 s.f] 39))).hold (alloc_new u (.cells #[.int .i64 s.k, .int .i64 s.b, .int .i64 s.p, .int .i64 s.t, .slice s.da s.dn s.dc, .int .u8 s.f] 39)) (fun hz => by have := h.ch.fin _ hz; omega) h.bel.size)
 have HM2 := hide ((HM1.out.below (below_alloc _ (.cells #[.int .i64 s.b, .int .i64 s.p] 45))).hold (alloc_new _ (.cells #[.int .i64 s.b, .int .i64 s.p] 45)) (fun hz => by have := HM1.out.ch.fin _ hz; omega) HM1.out.bel.size)
 have HR2 := hide ((hr.below (below_alloc u (.cells #[.int .i64 s.k, .int .i64 s.b, .int .i64 s.p, .int .i64 s.t, .slice s.da s.dn s.dc, .int .u8 s.f] 39))).below (below_alloc _ (.cells #[.int .i64 s.b, .int .i64 s.p] 45)))
 obtain ⟨b0, b1, b2, b3⟩ := dcells2 (q3 := u.heap.size) (s := s) HM1.out (List.mem_cons_self ..)
 clear hr hf h
 go_enter Tryd.func8, Tryd.ntmps8
 go_upto_region 2 with fail
 clear b0 b1 b2 b3 HM1
 obtain ⟨U, hU⟩ : ∃ U, U = ((u.alloc (.cells #[.int .i64 s.k, .int .i64 s.b, .int .i64 s.p, .int .i64 s.t, .slice s.da s.dn s.dc, .int .u8 s.f] 39)).alloc (.cells #[.int .i64 s.b, .int .i64 s.p] 45)) := ⟨_, rfl⟩
 obtain ⟨q3, hq3⟩ : ∃ q, q = u.heap.size := ⟨_, rfl⟩
 obtain ⟨q4, hq4⟩ : ∃ q, q = u.heap.size + 1 := ⟨_, rfl⟩
 simp only [alloc_size] at HM2
 rw [← hU, ← hq4, ← hq3] at HM2
 rw [← hU] at HR2
 simp only [← hU]
 simp only [← hq4]
 simp only [← hq3]
 clear hU hq3 hq4
 obtain ⟨b0, b1, b2, b3⟩ := dcells2 (q3 := q3) (s := s) HM2.out (List.mem_cons_of_mem _ (List.mem_cons_self ..))
 obtain ⟨_, _, p0, p1⟩ := dcells HM2.out
 by_cases k1 : s.k = 1
 ·have d1 : (s.k == 1) = true := by rw [k1]; rfl
  have HD9 : Hid (doneC C s = (ProgramC C s.b s.p 256 57 (laidL s.d 0 256 s.f ++ laidL s.d 256 57 s.f)).2) := by unfold Hid doneC; rw [if_pos k1]
  clear k1
  go_upto_region 4 with fail
  refine wp_region_held_drew (S := (fun x => x.cell? ⟨q3, 4, none⟩ = some (.slice s.da s.dn s.dc) ∧ x.cell? ⟨q3, 5, none⟩ = some (.int .u8 s.f) ∧ x.cell? ⟨q4, 0, none⟩ = some (.int .i64 s.b) ∧ x.cell? ⟨q4, 1, none⟩ = some (.int .i64 s.p))) (by kernel_rfl) (dcells (HM2.out.below (drew_below _))) (fun hHeld => ?_)
  refine tk 0 ?_
  refine tk 1 ?_
  refine tk 2 ?_
  refine tk 3 ?_
  refine tk 4 ?_
  refine tk 5 ?_
  refine tk 7 ?_
  refine tk 8 ?_
  refine tk 9 ?_
  refine tk 10 ?_
  refine rd 6 (fun K hK => ?_)
  go_simp
  go_at_call 25
  refine (laid_any s.da s.dn s.dc s.d _ (HR2.out.below (drew_below _)) hdl 0 256 0 256 rfl rfl (by omega) (by omega) s.f).mono ?_
  rintro e5 u5 ⟨v5, rfl, ho5, hb5⟩
  obtain ⟨g5, c5, rfl, _⟩ := own_shape ho5 (by omega)
  have HM5 := hide ((HM2.out.below (drew_below _)).below hb5)
  have HR5 := hide ((HR2.out.below (drew_below _)).below hb5)
  have HO5 := hide (And.intro ho5 hb5)
  have hSnew : (fun x => x.cell? ⟨q3, 4, none⟩ = some (.slice s.da s.dn s.dc) ∧ x.cell? ⟨q3, 5, none⟩ = some (.int .u8 s.f) ∧ x.cell? ⟨q4, 0, none⟩ = some (.int .i64 s.b) ∧ x.cell? ⟨q4, 1, none⟩ = some (.int .i64 s.p)) u5 := dcells HM5.out
  clear ho5 hb5
  go_wp2_with fail
  clear hHeld
  refine hK.out _ _ hSnew (fun hHeld => ?_)
  clear hK K hSnew
  try simp only [Act.put, zSt, zS0, zS1]
  refine rd 11 (fun K hK => ?_)
  go_simp
  go_at_call 25
  refine (laid_any s.da s.dn s.dc s.d _ HR5.out hdl 256 57 256 57 rfl rfl (by omega) (by omega) s.f).mono ?_
  rintro e6 u6 ⟨v6, rfl, ho6, hb6⟩
  obtain ⟨g6, c6, rfl, _⟩ := own_shape ho6 (by omega)
  have HM6 := hide (HM5.out.below hb6)
  have HO6 := hide (And.intro ho6 hb6)
  have hSnew : (fun x => x.cell? ⟨q3, 4, none⟩ = some (.slice s.da s.dn s.dc) ∧ x.cell? ⟨q3, 5, none⟩ = some (.int .u8 s.f) ∧ x.cell? ⟨q4, 0, none⟩ = some (.int .i64 s.b) ∧ x.cell? ⟨q4, 1, none⟩ = some (.int .i64 s.p)) u6 := dcells HM6.out
  clear ho6 hb6
  go_wp2_with fail
  clear hHeld
  refine hK.out _ _ hSnew (fun hHeld => ?_)
  clear hK K hSnew
  try simp only [Act.put, zSt, zS0, zS1]
  refine tk 12 ?_
  refine rd 13 (fun K hK => ?_)
  go_simp
  go_at_call 24
  refine (hd_prog HM6.out hci.ok s.b s.p (some ⟨g5, 0, none⟩) (some ⟨g6, 0, none⟩) 256 c5 57 c6 (by omega) (by omega) (by have := hci.tr; omega) (laidL s.d 0 256 s.f) (laidL s.d 256 57 s.f) (own_rd (owns_below HO5.out.1 HO6.out.2) (laidL_byt HBY.out.1 0 256 HBY.out.2)) (own_rd HO6.out.1 (laidL_byt HBY.out.1 256 57 HBY.out.2)) (fun y hy => by cases hy; exact own_out HM2.out (by rw [drew_size]; exact Nat.le_refl _) HO5.out.1) (fun y hy => by cases hy; exact own_out HM2.out (by have := HO5.out.2.size; rw [drew_size] at this; exact this) HO6.out.1)).mono ?_
  rintro e7 u7 ⟨rfl, hm7⟩
  obtain ⟨F7, hm7⟩ := hm7
  have HM7 := hide hm7
  have hSnew : (fun x => x.cell? ⟨q3, 4, none⟩ = some (.slice s.da s.dn s.dc) ∧ x.cell? ⟨q3, 5, none⟩ = some (.int .u8 s.f) ∧ x.cell? ⟨q4, 0, none⟩ = some (.int .i64 s.b) ∧ x.cell? ⟨q4, 1, none⟩ = some (.int .i64 s.p)) u7 := dcells HM7.out
  clear hm7
  go_wp2_with fail
  clear hHeld
  refine hK.out _ _ hSnew (fun hHeld => ?_)
  clear hK K hSnew
  try simp only [Act.put, zSt, zS0, zS1]
  refine wpAnyH_done (by kernel_rfl) ?_ _
  go_wp2
  go_end0
  exact ⟨rfl, F7, by rw [HD9.out]; exact HM7.out.less (fun z hz => List.mem_cons_of_mem _ (List.mem_cons_of_mem _ hz))⟩
 have d1 : (s.k == 1) = false := by simp [k1]
 by_cases k2 : s.k = 2
 ·have d2 : (s.k == 2) = true := by rw [k2]; rfl
  have HD9 : Hid (doneC C s = (EraseC C s.b).2) := by unfold Hid doneC; rw [if_neg k1, if_pos k2]
  clear k1 k2
  go_wp2_with (first | (go_at_call 26; refine (hd_erase HM2.out hci.ok (by have := hci.tr; omega) s.b).mono ?_; rintro e7 u7 ⟨rfl, hm7⟩; obtain ⟨F7, hm7⟩ := hm7; have HM7 := hide hm7; clear hm7))
  go_end0
  exact ⟨rfl, F7, by rw [HD9.out]; exact HM7.out.less (fun z hz => List.mem_cons_of_mem _ (List.mem_cons_of_mem _ hz))⟩
 have d2 : (s.k == 2) = false := by simp [k2]
 by_cases k3 : s.k = 3
 ·have d3 : (s.k == 3) = true := by rw [k3]; rfl
  have HD9 : Hid (doneC C s = (MarkC C s.b).2) := by unfold Hid doneC; rw [if_neg k1, if_neg k2, if_pos k3]
  clear k1 k2 k3
  go_wp2_with (first | (go_at_call 27; refine (hd_mark HM2.out hci.ok (by have := hci.tr; omega) s.b).mono ?_; rintro e7 u7 ⟨rfl, hm7⟩; obtain ⟨F7, hm7⟩ := hm7; have HM7 := hide hm7; clear hm7))
  go_end0
  exact ⟨rfl, F7, by rw [HD9.out]; exact HM7.out.less (fun z hz => List.mem_cons_of_mem _ (List.mem_cons_of_mem _ hz))⟩
 have d3 : (s.k == 3) = false := by simp [k3]
 by_cases k4 : s.k = 4
 ·have d4 : (s.k == 4) = true := by rw [k4]; rfl
  have HD9 : Hid (doneC C s = (FlipC C s.b s.p s.t).2) := by unfold Hid doneC; rw [if_neg k1, if_neg k2, if_neg k3, if_pos k4]
  clear k1 k2 k3 k4
  go_wp2_with (first | (go_at_call 28; refine (hd_flip HM2.out hci.ok (hci.fl.mono (by omega)) s.b s.p s.t ht).mono ?_; rintro e7 u7 ⟨rfl, hm7⟩; obtain ⟨F7, hm7⟩ := hm7; have HM7 := hide hm7; clear hm7))
  go_end0
  exact ⟨rfl, F7, by rw [HD9.out]; exact HM7.out.less (fun z hz => List.mem_cons_of_mem _ (List.mem_cons_of_mem _ hz))⟩
 have d4 : (s.k == 4) = false := by simp [k4]
 have HD9 : Hid (doneC C s = C) := by unfold Hid doneC; rw [if_neg k1, if_neg k2, if_neg k3, if_neg k4]
 clear k1 k2 k3 k4
 go_wp2
 go_end0
 exact ⟨rfl, F, by rw [HD9.out]; exact HM2.out.less (fun z hz => List.mem_cons_of_mem _ (List.mem_cons_of_mem _ hz))⟩
end Go.Proofs.YtnmnhgagnfodhaaDoor.Cp
namespace Go.Proofs.YtnmnhgagnfodhaaDoor
open Go.RowKit
set_option linter.unusedVariables false
theorem box572 {w u : World} {b q s x y : Int} {vc vm : Value} (h : (((w.alloc (.cells #[.int .i64 b, .int .i64 q, .int .i64 s, vc, vm] 35)).alloc (.cells #[.int .i64 x, .int .i64 y] 45)).alloc (.cells #[.slice none 0 0, .slice none 0 0] 53)).grownBy u none) :
  (u.cell? ⟨w.heap.size, 0, none⟩ = some (.int .i64 b) ∧ u.cell? ⟨w.heap.size, 1, none⟩ = some (.int .i64 q) ∧ u.cell? ⟨w.heap.size, 2, none⟩ = some (.int .i64 s) ∧ u.cell? ⟨w.heap.size, 3, none⟩ = some vc ∧ u.cell? ⟨w.heap.size, 4, none⟩ = some vm) ∧
  (u.cell? ⟨w.heap.size + 1, 0, none⟩ = some (.int .i64 x) ∧ u.cell? ⟨w.heap.size + 1, 1, none⟩ = some (.int .i64 y)) ∧
  (u.cell? ⟨w.heap.size + 2, 0, none⟩ = some (.slice none 0 0) ∧ u.cell? ⟨w.heap.size + 2, 1, none⟩ = some (.slice none 0 0)) ∧ ∀ j, u.frozen? ⟨w.heap.size + 2, j, none⟩ = false := by
 have e1 : (w.alloc (.cells #[.int .i64 b, .int .i64 q, .int .i64 s, vc, vm] 35)).heap.size = w.heap.size + 1 := by simp
 have e2 : ((w.alloc (.cells #[.int .i64 b, .int .i64 q, .int .i64 s, vc, vm] 35)).alloc (.cells #[.int .i64 x, .int .i64 y] 45)).heap.size = w.heap.size + 2 := by simp
 have a0 : (((w.alloc (.cells #[.int .i64 b, .int .i64 q, .int .i64 s, vc, vm] 35)).alloc (.cells #[.int .i64 x, .int .i64 y] 45)).alloc (.cells #[.slice none 0 0, .slice none 0 0] 53)).heap[w.heap.size]? = some (.cells #[.int .i64 b, .int .i64 q, .int .i64 s, vc, vm] 35) := by
  rw [Below.heap_alloc _ _ _ (by simp; omega), Below.heap_alloc _ _ _ (by simp)]; exact heap_alloc_new _ _
 have a1 : (((w.alloc (.cells #[.int .i64 b, .int .i64 q, .int .i64 s, vc, vm] 35)).alloc (.cells #[.int .i64 x, .int .i64 y] 45)).alloc (.cells #[.slice none 0 0, .slice none 0 0] 53)).heap[w.heap.size + 1]? = some (.cells #[.int .i64 x, .int .i64 y] 45) := by
  rw [Below.heap_alloc _ _ _ (by simp), ← e1]; exact heap_alloc_new _ _
 have a2 : (((w.alloc (.cells #[.int .i64 b, .int .i64 q, .int .i64 s, vc, vm] 35)).alloc (.cells #[.int .i64 x, .int .i64 y] 45)).alloc (.cells #[.slice none 0 0, .slice none 0 0] 53)).heap[w.heap.size + 2]? = some (.cells #[.slice none 0 0, .slice none 0 0] 53) := by
  rw [← e2]; exact heap_alloc_new _ _
 have c0 := (h.block w.heap.size (by simp; omega) (by simp)).trans a0
 have c1 := (h.block (w.heap.size + 1) (by simp) (by simp)).trans a1
 have c2 := (h.block (w.heap.size + 2) (by simp) (by simp)).trans a2
 clear h a0 a1 a2 e1 e2
 refine ⟨⟨?_, ?_, ?_, ?_, ?_⟩, ⟨?_, ?_⟩, ⟨?_, ?_⟩, fun j => ?_⟩
 all_goals first | (simp [World.cell?, c0]; done) | (simp [World.cell?, c1]; done) | (simp [World.cell?, c2]; done) | (simp [World.frozen?, c2]; done)
theorem below_via {u x y : World} (h : Below x.heap.size x y) (k : Below u.heap.size u x) : Below u.heap.size u y := below_trans k h
theorem below_cell {x y : World} (h : Below x.heap.size x y) : ∀ (z : Nat) (v : Value), x.cell? ⟨z, 0, none⟩ = some v → y.cell? ⟨z, 0, none⟩ = some v := fun z v hz => by
 rw [h.cell (block_lt_of_cell hz)]; exact hz
set_option maxHeartbeats 2000000 in
set_option maxRecDepth 100000 in
theorem pPage_ok (b q s : Int) (bk off : Nat) (a' : Option Addr) (n c m c' : Nat) (x y : Int) (zs : List Int) (w : World) (k Ln K0 K1 C : Nat) (X : Int) (hnc : n ≤ c) (hc : c ≤ 9223372036854775807) (hn : n ≤ 140737488355000) (hm : m ≤ 140737488355000) (hE : chkE b q s n m = 0) (hf : Fits b q s = true) (hr : Reads w (some ⟨bk, off, none⟩) n zs)
  (hLn : (Ln : Int) = 256 * s + (54 + 3 * s)) (hC : 256 * s = (C : Int)) (hK0 : k * Ln = K0) (hK1' : (k + 1) * Ln = K1) (hK1 : K1 ≤ n) (hk : k ≤ 65536) (hX : x * q = X) (hXk : X + y = (k : Int)) (hx0 : 0 ≤ x) (hx1 : x < b) (hy0 : 0 ≤ y) (hy1 : y < q) :
  Calls Tryd.prog 15 #[.agg #[.int .i64 b, .int .i64 q, .int .i64 s, .slice (some ⟨bk, off, none⟩) n c, .slice a' m c'], .agg #[.int .i64 x, .int .i64 y]] w fun e w' => ∃ g1 k1 g2 k2, e = .returned (.tuple #[.agg #[.slice (some ⟨g1, 0, none⟩) C k1, .slice (some ⟨g2, 0, none⟩) (Ln - C) k2], .int .i64 0]) ∧ Own w' w.heap.size g1 C k1 (((zs.drop K0).take Ln).take C) ∧ Own w' w.heap.size g2 (Ln - C) k2 (((zs.drop K0).take Ln).drop C) ∧ g1 < g2 ∧ Below w.heap.size w w' := by
 have hKL : K0 + Ln = K1 := by rw [← hK0, ← hK1', Nat.add_mul]; omega
 obtain ⟨D, hD⟩ : ∃ D, c - K0 = D := ⟨_, rfl⟩
 have hD1 : Ln ≤ D := by omega
 have hD2 : D ≤ 9223372036854775807 := by omega
 obtain ⟨a, ha⟩ : ∃ a : Option Addr, a = some ⟨bk, off, none⟩ := ⟨_, rfl⟩
 have HE : Hid (chkE b q s n m = 0) := hE
 obtain ⟨q1, q2, q3, q4, q5, q6, q7, q8⟩ := fits_all hf
 have hX0 : 0 ≤ X := by rw [← hX]; exact Int.mul_nonneg hx0 (by omega)
 have hX1 : X ≤ 65536 := by omega
 have HLn : Hid ((Ln : Int) = 256 * s + (54 + 3 * s)) := hLn
 have HK0 : Hid (k * Ln = K0) := hK0
 have HK1 : Hid ((k + 1) * Ln = K1) := hK1'
 have hCL : C < Ln := by omega
 have hCp : 0 < C := by omega
 have hLn2 : Ln ≤ 2200 := by omega
 have hrp : ∀ z ∈ (zs.drop K0).take Ln, 0 ≤ z ∧ z ≤ 255 := fun z hz => hr.2.1 z (List.mem_of_mem_drop (List.mem_of_mem_take hz))
 have hpl : ((zs.drop K0).take Ln).length = Ln := by
  have h1 : K0 + Ln = K1 := by rw [← hK0, ← hK1', Nat.add_mul]; omega
  have h2 := hr.1
  simp; omega
 have HRP : Hid _ := hrp
 have HPL : Hid _ := hpl
 have HA : Hid (a = some ⟨bk, off, none⟩) := ha
 have HB : Hid (n ≤ 140737488355000 ∧ m ≤ 140737488355000 ∧ C < Ln ∧ 0 < C ∧ Ln ≤ 2200 ∧ K1 ≤ n ∧ C ≤ Ln ∧ 0 < Ln - C ∧ 0 < Ln ∧ Ln ≤ 140737488355000 ∧ C ≤ Ln ∧ n ≤ c ∧ c ≤ 9223372036854775807) := ⟨hn, hm, hCL, hCp, hLn2, hK1, by omega, by omega, by omega, by omega, by omega, hnc, hc⟩
 have HF : Hid (Fits b q s = true) := hf
 clear hE hLn hK0 hK1' hrp hpl hCL hCp hLn2 hK1 q1 q2 q3 q4 q7 q8 hf hn hm
 have d1 : C ≤ D := by have := HB.out; omega
 have d2 : C < D := by have := HB.out; omega
 have d3 : ¬ D ≤ C := by omega
 have d4 : ¬ D - C = 0 := by omega
 have d5 : ¬ D = C := by omega
 have d6 : C ≤ Ln := HB.out.2.2.2.2.2.2.1
 have HD : Hid (c - K0 = D) := hD
 have hrw : Reads w (some ⟨bk, off + K0, none⟩) Ln ((zs.drop K0).take Ln) := by
  obtain ⟨b1, o1, he, hh⟩ := hr.part K0 K1 (by omega) HB.out.2.2.2.2.2.1 (by have := HB.out; omega)
  cases he
  rwa [show K1 - K0 = Ln by omega] at hh
 have hr1 : Reads w (some ⟨bk, off + K0, none⟩) C (((zs.drop K0).take Ln).take C) := by
  obtain ⟨b1, o1, he, hh⟩ := hrw.part 0 C (by omega) d6 HB.out.2.2.2.1
  cases he
  simpa using hh
 have hr2 : Reads w (some ⟨bk, off + K0 + C, none⟩) (Ln - C) (((zs.drop K0).take Ln).drop C) := by
  obtain ⟨b1, o1, he, hh⟩ := hrw.part C Ln d6 (Nat.le_refl _) HB.out.2.2.1
  cases he
  rwa [List.take_of_length_le (by rw [List.length_drop, HPL.out]; exact Nat.le_refl _)] at hh
 have HR1 : Hid (Reads w (some ⟨bk, off + K0, none⟩) C (((zs.drop K0).take Ln).take C)) := hr1
 have HR2 : Hid (Reads w (some ⟨bk, off + K0 + C, none⟩) (Ln - C) (((zs.drop K0).take Ln).drop C)) := hr2
 clear hr ha hrw hr1 hr2 hKL hD hnc hc HA a
 go_enter Tryd.func15, Tryd.ntmps15
 go_upto_region 8 with (first
  | (go_at_call 18; refine (check_any b q s (some ⟨bk, off, none⟩) a' n c m c' _ HB.out.1 HB.out.2.1).mono ?_; rintro e u1 ⟨rfl, b1⟩; rw [HE.out]; have bw1 := below_trans (((below_alloc w (.cells #[.int .i64 b, .int .i64 q, .int .i64 s, .slice (some ⟨bk, off, none⟩) n c, .slice a' m c'] 35)).alloc (below_alloc w _).size _).alloc (((below_alloc w _).alloc (below_alloc w _).size _)).size _) b1; have g1 := grown_of b1 none; obtain ⟨⟨c0, c1, c2, c3, c4⟩, ⟨d0, d1'⟩, ⟨z0, z1⟩, f0⟩ := box572 g1)
  | (go_at_call 31; refine (window_any b q s bk off a' n c m c' _ k Ln K0 K1 HB.out.2.2.2.2.2.2.2.2.2.2.2.2 HB.out.2.2.2.2.2.2.2.2.2.2.2.1 HF.out HLn.out HK0.out HK1.out HB.out.2.2.2.2.2.1 HB.out.1 hk).mono ?_; rintro e u2 ⟨rfl, b2⟩; rw [HD.out]
     have bw2 := below_trans bw1 b2
     have g2 := grownBy_trans g1 (grown_of b2 none)
     clear c0 c1 c2 c3 c4 d0 d1' z0 z1 f0
     obtain ⟨⟨c0, c1, c2, c3, c4⟩, ⟨d0, d1'⟩, ⟨z0, z1⟩, f0⟩ := box572 g2)
  | (go_at_call 35; refine (dataBytes_any b q s _ q5 q6).mono ?_; rintro e u3 ⟨rfl, b3⟩; rw [hC]
     have bw3 := below_trans bw2 b3
     have g3 := grownBy_trans g2 (grown_of b3 none)
     clear c0 c1 c2 c3 c4 d0 d1' z0 z1 f0
     obtain ⟨⟨c0, c1, c2, c3, c4⟩, ⟨d0, d1'⟩, ⟨z0, z1⟩, f0⟩ := box572 g3))
 clear c0 c1 c2 c3 c4 d0 d1' b1 b2 b3 bw1 bw2 g1 g2
 have HJ1 : Hid (∀ (W : World) (q0 : Nat), Below u3.heap.size u3 W → W.cell? ⟨q0, 0, none⟩ = some (.slice (some ⟨bk, off + K0, none⟩) C D) → Calls Tryd.prog 42 #[.slice (some ⟨q0, 0, none⟩) 1 1] W fun e w' => ∃ g cc, e = .returned (.slice (some ⟨g, 0, none⟩) C cc) ∧ Own w' W.heap.size g C cc (((zs.drop K0).take Ln).take C) ∧ Below W.heap.size W w') :=
  fun W q0 hb hq => join_one q0 _ C D _ W (by have := HB.out; omega) HB.out.2.2.2.1 (HR1.out.below (below_trans bw3 hb)) hq
 have HJ2 : Hid (∀ (W : World) (q0 : Nat), Below u3.heap.size u3 W → W.cell? ⟨q0, 0, none⟩ = some (.slice (some ⟨bk, off + K0 + C, none⟩) (Ln - C) (D - C)) → Calls Tryd.prog 42 #[.slice (some ⟨q0, 0, none⟩) 1 1] W fun e w' => ∃ g cc, e = .returned (.slice (some ⟨g, 0, none⟩) (Ln - C) cc) ∧ Own w' W.heap.size g (Ln - C) cc (((zs.drop K0).take Ln).drop C) ∧ Below W.heap.size W w') :=
  fun W q0 hb hq => join_one q0 _ (Ln - C) (D - C) _ W (by have := HB.out; omega) HB.out.2.2.2.2.2.2.2.1 (HR2.out.below (below_trans bw3 hb)) hq
 go_region_with (first
  | (go_at_call 42; have bwx := bw4; refine (HJ2.out _ _ (by go_grown; all_goals (first | omega | (simp; omega))) (by first | (simp; done) | exact HC4.out _ _ (by simp))).mono ?_; rintro e u5 ⟨g2, k2, rfl, own2, b5⟩; have hne : g1 < g2 := (by have h8 := (Own.lt own2).1; have h7 := (Own.lt HO1.out).2; (try simp at h8); omega); have HO2 : Hid (Own u5 u3.heap.size g2 (Ln - C) k2 (((zs.drop K0).take Ln).drop C)) := Own.base own2 (by have := bw4.size; simp; omega); clear own2; have bw45 := below_via (u := u4) b5 (by go_grown; all_goals (first | omega | (simp; omega))); have bw5 := below_trans bw4 bw45; clear b5; have g5 := grownBy_trans g3 (grown_of bw5 none); obtain ⟨_, _, ⟨y0, y1⟩, fy⟩ := box572 g5)
  | (go_at_call 42; refine (HJ1.out _ _ (by go_grown; all_goals (first | omega | (simp; omega))) (by simp)).mono ?_; rintro e u4 ⟨g1, k1, rfl, own1, b4⟩; have HO1 : Hid (Own u4 u3.heap.size g1 C k1 (((zs.drop K0).take Ln).take C)) := Own.base own1 (by simp <;> omega); clear own1; have bw4 := below_via (u := u3) b4 (by go_grown; all_goals (first | omega | (simp; omega))); have HC4 : Hid _ := below_cell b4; clear b4; have s4 := bw4.size))
 all_goals
  go_wp2
  refine bodyPost_ret (v := .tuple #[.agg #[.slice (some ⟨g1, 0, none⟩) C k1, .slice (some ⟨g2, 0, none⟩) (Ln - C) k2], .int .i64 0]) (by simp [results, Tryd.results15, go_sem, y0, y1]) rfl ?_
  have gs : ∀ (v1 v2 : Value), u5.grownBy ((u5.setCell ⟨w.heap.size + 1 + 1, 0, none⟩ v1).setCell ⟨w.heap.size + 1 + 1, 1, none⟩ v2) (some (w.heap.size + 1 + 1)) := fun v1 v2 => grownBy_trans (set_grown u5 _ 0 v1) (set_grown _ _ 1 v2)
  have s1 : w.heap.size + 3 ≤ u3.heap.size := by have := g3.size; simp at this; omega
  have p3 := (Own.below HO1.out bw45).apart (gs (.slice (some ⟨g1, 0, none⟩) C k1) (.slice (some ⟨g2, 0, none⟩) (Ln - C) k2)) (by have := Own.lt HO1.out; omega)
  have p4 := Own.apart HO2.out (gs (.slice (some ⟨g1, 0, none⟩) C k1) (.slice (some ⟨g2, 0, none⟩) (Ln - C) k2)) (by have := Own.lt HO2.out; omega)
  have bw6 := below_trans bw3 bw5
  refine ⟨g1, k1, g2, k2, rfl, Own.base p3 (by omega), Own.base p4 (by omega), hne, ?_⟩
  ·exact bw6.grown (gs _ _) bw6.size (fun k hk => by simp at hk; omega)
end Go.Proofs.YtnmnhgagnfodhaaDoor
