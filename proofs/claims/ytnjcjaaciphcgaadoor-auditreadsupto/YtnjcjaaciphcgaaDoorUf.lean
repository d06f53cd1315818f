/-
  SEAT YtnjcjaaciphcgaaDoor: AuditShows, walked.
-/
import Derived.Test.YtnjcjaaciphcgaaDoorUe
import Derived.Laws.AppendOwn
namespace Go.Proofs.YtnjcjaaciphcgaaDoor
open Go.RowKit Go.Sort Go.Lib
set_option linter.unusedVariables false

theorem ReadsF.news {w : World} {x : Addr} {len : Nat} {bs : List Fd} (h : ReadsF w (some x) len bs) : ∀ j u, (flatF bs)[j]? = some u → w.cell? (x.add j) = some u := by
  intro j u hj
  have hlt : j < (flatF bs).length := (List.getElem?_eq_some_iff.1 hj).1
  rw [flatF_length, h.1] at hlt
  have h1 := flatF_cell bs (j / 4) (j % 4) (by rw [h.1]; omega) (by omega)
  rw [show j / 4 * 4 + j % 4 = j by omega, hj] at h1
  rw [h1]
  have h2 := h.2.2 x rfl (j / 4) (by omega) (j % 4) (by omega)
  rw [show j / 4 * 4 + j % 4 = j by omega] at h2
  exact h2

theorem wpList_append_F {w : World} {ops : Array Oper} {rest : List Oper} {o : Oper} {a : Act} {Q : Exit → Act → World → Prop} (hgd : o.guard = none) (s x : Operand)
    (ho : o.op = .call { callee := .builtin .append, args := #[s, x], argTypes := #[23, 23] })
    (base : Nat) (v : Value) (n : Nat) (xs : List Fd) (hs : a.eval s = v) (hown : w.ownsRow base 29 4 v n (flatF xs))
    (ad : Option Addr) (m c : Nat) (zs : List Fd) (hx : a.eval x = .slice ad m c) (hrd : ReadsF w ad m zs)
    (hb : n + m ≤ 4000000000000) (hbase : base ≤ w.heap.size)
    (h : ∀ v' w', w'.ownsRow base 29 4 v' (n + m) (flatF (xs ++ zs)) → w.grownBy w' v.ownBlock → wpList Tryd.prog ops Q rest (a.put o.dst v') w') : wpList Tryd.prog ops Q (o :: rest) a w := by
  obtain ⟨i0, hi, hz0, hz1, hz2⟩ := info_parts info29
  cases ad with
  | some ad =>
    refine wpList_append_own w hgd s x 23 ho base 29 i0 (.agg #[.int .i64 0, .int .i64 0, .int .i64 0, .int .i64 0]) 4 32 Tryd.underlying23 hi hz0 hz1 hz2 rfl (by decide) v n _ hs hown ad m c (flatF zs) hx (by rw [flatF_length, hrd.1]) hrd.news (flatF_one _) (by simp [maxLen]; omega) (by omega) hbase ?_
    intro v' w' h1 h2 _
    exact h v' w' (by rw [flatF_append]; exact h1) h2
  | none =>
    have h0 := hrd.2.1 rfl
    have hz : zs = [] := List.eq_nil_of_length_eq_zero (by have := hrd.1; omega)
    subst h0
    subst hz
    have hrun : (Builtin.append_ #[23, 23] o.type #[v, .slice none 0 c]).run Tryd.prog w = .ok v w := by
      rcases hown.2 with ⟨rfl, rfl⟩ | ⟨g, cap, cur, rfl, _, _, hnc, _⟩
      · simp [Builtin.append_, run_underlying Tryd.underlying23, sizeOf, typeInfo, hi, Builtin.lenOf, Builtin.firstCells]
      · simp [Builtin.append_, run_underlying Tryd.underlying23, sizeOf, typeInfo, hi, Builtin.lenOf, Builtin.firstCells, hnc, storeCells]
    refine wpList_plain hgd fun K hK => ?_
    unfold Oper.wp
    simp [execOp, ho, resolve, invoke, builtin, hs, hx, hrun, Result.andThen]
    exact hK _ _ (h v w (by simpa using hown) (World.grownBy.refl _ _))

theorem made0 (w : World) : (w.alloc (.cells #[] 29)).ownsRow w.heap.size 29 4 (.slice (some ⟨w.heap.size, 0, none⟩) 0 0) 0 (flatF []) := World.ownsRow_made w #[] 0 (Nat.le_refl _) (by simp [maxLen]) rfl
theorem marksF (u : World) : ReadsF (u.alloc (.cells #[.int .i64 71, .int .i64 0, .int .i64 0, .int .i64 0, .int .i64 72, .int .i64 0, .int .i64 0, .int .i64 0] 29)) (some ⟨u.heap.size, 0, none⟩) 2 [⟨71, 0, 0, 0⟩, ⟨72, 0, 0, 0⟩] := by
  refine ⟨rfl, by simp, fun x hx i hi j hj => ?_⟩
  cases hx
  rw [plain_add, Nat.zero_add]
  have h9 := heap_alloc_new u (.cells #[.int .i64 71, .int .i64 0, .int .i64 0, .int .i64 0, .int .i64 72, .int .i64 0, .int .i64 0, .int .i64 0] 29)
  simp only [World.cell?, h9]
  match i, hi, j, hj with
  | 0, _, 0, _ => rfl
  | 0, _, 1, _ => rfl
  | 0, _, 2, _ => rfl
  | 0, _, 3, _ => rfl
  | 1, _, 0, _ => rfl
  | 1, _, 1, _ => rfl
  | 1, _, 2, _ => rfl
  | 1, _, 3, _ => rfl
theorem own_shapeF {w : World} {B n : Nat} {v : Value} {xs : List Value} (h : w.ownsRow B 29 4 v n xs) (hn : 0 < n) : ∃ g cap, v = .slice (some ⟨g, 0, none⟩) n cap ∧ n ≤ cap ∧ cap ≤ maxLen ∧ B ≤ g ∧ g < w.heap.size := by
  rcases h.2 with ⟨_, h0⟩ | ⟨g, cap, cur, hv, hb, hg, hnc, hcm, _⟩
  · omega
  · exact ⟨g, cap, hv, hnc, hcm, hb, (Array.getElem?_eq_some_iff.1 hg).1⟩
theorem ReadsF.front {w : World} {x : Addr} {n m : Nat} {xs ys : List Fd} (h : ReadsF w (some x) (n + m) (xs ++ ys)) (hl : xs.length = n) : ReadsF w (some x) n xs := by
  refine ⟨hl, fun h => (by cases h), fun y hy i hi j hj => ?_⟩
  have h9 := h.2.2 y hy i (by omega) j hj
  rw [List.getD_eq_getElem?_getD, List.getElem?_append_left (by omega), ← List.getD_eq_getElem?_getD] at h9
  exact h9
theorem set_grown (u : World) (i j : Nat) (v : Value) : u.grownBy (u.setCell ⟨i, j, none⟩ v) (some i) :=
  ⟨rfl, rfl, rfl, by simp, fun k hk hne => heap_setCell_other u ⟨i, j, none⟩ k v (fun e => hne (congrArg some e))⟩
theorem frozen7 {w : World} {q : Nat} {cs : Array Value} {t : TypeId} (h : w.heap[q]? = some (.cells cs t (0, 0))) : ∀ j, w.frozen? ⟨q, j, none⟩ = false := by
  intro j
  simp [World.frozen?, h]

set_option maxHeartbeats 8000000 in
set_option maxRecDepth 100000 in
theorem showsWalk (r : Rp) (a : Option Addr) (n c : Nat) (w : World) (hr : ReadsF w a n r.fs) (ho : r.Ok) (ht : P10 w) (hw : KW w) :
    Calls Tryd.prog 3 #[.agg #[.int .u64 (r.fl : Int), .int .i64 r.c, .int .i64 r.l, .int .i64 r.u, .int .i64 r.b, .bool r.s, .slice a n c]] w fun e w' => e = .returned (.bool true) ∧ Below w.heap.size w w' := by
  have HR : Hid (ReadsF w a n r.fs) := hr
  have HO : Hid r.Ok := ho
  have HT : Hid (P10 w) := ht
  have HK : Hid (KW w) := hw
  have hn : n ≤ 1048576 := by rw [← hr.1]; exact ho.few
  have HF0 : Hid ((w.alloc (.cells #[.int .u64 (r.fl : Int), .int .i64 r.c, .int .i64 r.l, .int .i64 r.u, .int .i64 r.b, .bool r.s, .slice a n c] 25)).heap[w.heap.size]? = some (.cells #[.int .u64 (r.fl : Int), .int .i64 r.c, .int .i64 r.l, .int .i64 r.u, .int .i64 r.b, .bool r.s, .slice a n c] 25 (0, 0))) := heap_alloc_new w _
  have HB0 : Hid (Below w.heap.size w (w.alloc (.cells #[.int .u64 (r.fl : Int), .int .i64 r.c, .int .i64 r.l, .int .i64 r.u, .int .i64 r.b, .bool r.s, .slice a n c] 25))) := below_alloc' w _
  have HM0 : Hid (((w.alloc (.cells #[.int .u64 (r.fl : Int), .int .i64 r.c, .int .i64 r.l, .int .i64 r.u, .int .i64 r.b, .bool r.s, .slice a n c] 25)).alloc (.cells #[] 29)).ownsRow (w.heap.size + 1) 29 4 (.slice (some ⟨w.heap.size + 1, 0, none⟩) 0 0) 0 (flatF [])) := by
    have h9 := made0 (w.alloc (.cells #[.int .u64 (r.fl : Int), .int .i64 r.c, .int .i64 r.l, .int .i64 r.u, .int .i64 r.b, .bool r.s, .slice a n c] 25))
    rw [World.size_alloc] at h9
    exact h9
  have HF1 : Hid (((w.alloc (.cells #[.int .u64 (r.fl : Int), .int .i64 r.c, .int .i64 r.l, .int .i64 r.u, .int .i64 r.b, .bool r.s, .slice a n c] 25)).alloc (.cells #[] 29)).heap[w.heap.size]? = some (.cells #[.int .u64 (r.fl : Int), .int .i64 r.c, .int .i64 r.l, .int .i64 r.u, .int .i64 r.b, .bool r.s, .slice a n c] 25 (0, 0))) := (Below.heap_alloc _ _ _ (Array.getElem?_eq_some_iff.1 HF0.out).1).trans HF0.out
  have HB1 : Hid (Below w.heap.size w ((w.alloc (.cells #[.int .u64 (r.fl : Int), .int .i64 r.c, .int .i64 r.l, .int .i64 r.u, .int .i64 r.b, .bool r.s, .slice a n c] 25)).alloc (.cells #[] 29))) := HB0.out.alloc HB0.out.size _
  obtain ⟨x0, x1, x2, x3, x4, x5, x6⟩ := cells7 HF1.out
  clear hr ho ht hw
  go_enter Tryd.func3, Tryd.ntmps3
  go_upto_region 2 with (first
    | (at_builtin; refine wpList_append_F rfl (.tmp 6) (.tmp 8) rfl (w.heap.size + 1) _ 0 [] rfl HM0.out a n c r.fs rfl (HR.out.below HB1.out) (by omega) (by simp) ?_; intro v2 t2 own2 grow2
       have HO2 : Hid (t2.ownsRow (w.heap.size + 1) 29 4 v2 n (flatF r.fs)) := by have h9 := own2; rw [Nat.zero_add, List.nil_append] at h9; exact h9
       have HF2 : Hid (t2.heap[w.heap.size]? = some (.cells #[.int .u64 (r.fl : Int), .int .i64 r.c, .int .i64 r.l, .int .i64 r.u, .int .i64 r.b, .bool r.s, .slice a n c] 25 (0, 0))) := (grow2.block _ (Array.getElem?_eq_some_iff.1 HF1.out).1 (fun e => by have := (HM0.out.lt _ e.symm).1; omega)).trans HF1.out
       have HB2 : Hid (Below w.heap.size w t2) := HB1.out.grown grow2 HB1.out.size (fun q hq => by have := (HM0.out.lt _ hq).1; omega)
       clear own2 grow2 x0 x1 x2 x3 x4 x5 x6)
    | (at_builtin; refine wpList_append_F rfl (.tmp 9) (.tmp 12) rfl (w.heap.size + 1) v2 n r.fs rfl (HO2.out.alloc _) _ 2 2 [⟨71, 0, 0, 0⟩, ⟨72, 0, 0, 0⟩] rfl (marksF t2) (by omega) (by have := (Array.getElem?_eq_some_iff.1 HF2.out).1; simp; omega) ?_; intro v3 t3 own3 grow3
       have HO3 : Hid (t3.ownsRow (w.heap.size + 1) 29 4 v3 (n + 2) (flatF (r.fs ++ [⟨71, 0, 0, 0⟩, ⟨72, 0, 0, 0⟩]))) := own3
       have HF3 : Hid (t3.heap[w.heap.size]? = some (.cells #[.int .u64 (r.fl : Int), .int .i64 r.c, .int .i64 r.l, .int .i64 r.u, .int .i64 r.b, .bool r.s, .slice a n c] 25 (0, 0))) := (grow3.block _ (by have := (Array.getElem?_eq_some_iff.1 HF2.out).1; simp; omega) (fun e => by have := (HO2.out.lt _ e.symm).1; omega)).trans ((Below.heap_alloc _ _ _ (Array.getElem?_eq_some_iff.1 HF2.out).1).trans HF2.out)
       have HB3 : Hid (Below w.heap.size w t3) := (HB2.out.alloc HB2.out.size _).grown grow3 (by have := HB2.out.size; simp; omega) (fun q hq => by have := (HO2.out.lt _ hq).1; omega)
       clear own3 grow3))
  obtain ⟨g, cp, rfl, hcp1, hcp2, hg1, hg2⟩ := own_shapeF HO3.out (by omega)
  have hcp3 : cp ≤ 9223372036854775807 := by unfold maxLen at hcp2; omega
  have hcp4 : n ≤ cp := by omega
  have HG3 : Hid (ReadsF t3 (some ⟨g, 0, none⟩) (n + 2) (r.fs ++ [⟨71, 0, 0, 0⟩, ⟨72, 0, 0, 0⟩])) := by
    obtain ⟨ax, cx, hv, rx⟩ := ownF_reads HO3.out
    injection hv with hv1
    subst hv1
    exact rx
  have HU : Hid ((t3.alloc (.cells #[.int .u64 (r.fl : Int), .int .i64 r.c, .int .i64 r.l, .int .i64 r.u, .int .i64 r.b, .bool r.s, .slice a n c] 25)).heap[t3.heap.size]? = some (.cells #[.int .u64 (r.fl : Int), .int .i64 r.c, .int .i64 r.l, .int .i64 r.u, .int .i64 r.b, .bool r.s, .slice a n c] 25 (0, 0))) := heap_alloc_new _ _
  have HV : Hid ((t3.alloc (.cells #[.int .u64 (r.fl : Int), .int .i64 r.c, .int .i64 r.l, .int .i64 r.u, .int .i64 r.b, .bool r.s, .slice a n c] 25)).heap[w.heap.size]? = some (.cells #[.int .u64 (r.fl : Int), .int .i64 r.c, .int .i64 r.l, .int .i64 r.u, .int .i64 r.b, .bool r.s, .slice a n c] 25 (0, 0))) := (Below.heap_alloc _ _ _ (Array.getElem?_eq_some_iff.1 HF3.out).1).trans HF3.out
  obtain ⟨x0, x1, x2, x3, x4, x5, x6⟩ := cells7 HF3.out
  go_upto_region 3 with fail
  have hcb : t3.heap.size < (t3.alloc (.cells #[.int .u64 (r.fl : Int), .int .i64 r.c, .int .i64 r.l, .int .i64 r.u, .int .i64 r.b, .bool r.s, .slice a n c] 25)).heap.size := by simp
  have HBU : Hid (Below w.heap.size w (t3.alloc (.cells #[.int .u64 (r.fl : Int), .int .i64 r.c, .int .i64 r.l, .int .i64 r.u, .int .i64 r.b, .bool r.s, .slice a n c] 25))) := HB3.out.alloc HB3.out.size _
  have HGU : Hid (ReadsF (t3.alloc (.cells #[.int .u64 (r.fl : Int), .int .i64 r.c, .int .i64 r.l, .int .i64 r.u, .int .i64 r.b, .bool r.s, .slice a n c] 25)) (some ⟨g, 0, none⟩) (n + 2) (r.fs ++ [⟨71, 0, 0, 0⟩, ⟨72, 0, 0, 0⟩])) := HG3.out.below (below_alloc' _ _)
  have hwc : w.heap.size < t3.heap.size := (Array.getElem?_eq_some_iff.1 HF3.out).1
  clear x0 x1 x2 x3 x4 x5 x6 HF0 HB0 HM0 HF1 HB1 HO2 HF2 HB2 HO3 HG3 HF3 HB3
  obtain ⟨U, hU⟩ : ∃ U, t3.alloc (.cells #[.int .u64 (r.fl : Int), .int .i64 r.c, .int .i64 r.l, .int .i64 r.u, .int .i64 r.b, .bool r.s, .slice a n c] 25) = U := ⟨_, rfl⟩
  obtain ⟨cb, hcbe⟩ : ∃ cb, t3.heap.size = cb := ⟨_, rfl⟩
  rw [hU, hcbe] at HU
  rw [hU] at HV HBU HGU hcb ⊢
  rw [hcbe] at hg2 hwc hcb ⊢
  clear hU hcbe
  obtain ⟨x0, x1, x2, x3, x4, x5, x6⟩ := cells7 HV.out
  obtain ⟨y0, y1, y2, y3, y4, y5, y6⟩ := cells7 HU.out
  have fz := frozen7 HU.out 6
  go_upto_region 4 with fail
  have gS := set_grown U cb 6 (.slice (some ⟨g, 0, none⟩) n cp)
  have HVC : Hid ((U.setCell ⟨cb, 6, none⟩ (.slice (some ⟨g, 0, none⟩) n cp)).heap[cb]? = some (.cells #[.int .u64 (r.fl : Int), .int .i64 r.c, .int .i64 r.l, .int .i64 r.u, .int .i64 r.b, .bool r.s, .slice (some ⟨g, 0, none⟩) n cp] 25 (0, 0))) := Joins.block_setCell HU.out _
  have HVR : Hid ((U.setCell ⟨cb, 6, none⟩ (.slice (some ⟨g, 0, none⟩) n cp)).heap[w.heap.size]? = some (.cells #[.int .u64 (r.fl : Int), .int .i64 r.c, .int .i64 r.l, .int .i64 r.u, .int .i64 r.b, .bool r.s, .slice a n c] 25 (0, 0))) := (gS.block _ (Array.getElem?_eq_some_iff.1 HV.out).1 (fun e => by have := Option.some.inj e; omega)).trans HV.out
  have HVB : Hid (Below w.heap.size w (U.setCell ⟨cb, 6, none⟩ (.slice (some ⟨g, 0, none⟩) n cp))) := HBU.out.grown gS HBU.out.size (fun k hk => by have := Option.some.inj hk; omega)
  have HVG : Hid (ReadsF (U.setCell ⟨cb, 6, none⟩ (.slice (some ⟨g, 0, none⟩) n cp)) (some ⟨g, 0, none⟩) (n + 2) (r.fs ++ [⟨71, 0, 0, 0⟩, ⟨72, 0, 0, 0⟩])) := HGU.out.low ((Below.refl cb U).grown gS (by omega) (fun k hk => by have := Option.some.inj hk; omega)) hg2
  obtain ⟨V, hV⟩ : ∃ V, U.setCell ⟨cb, 6, none⟩ (.slice (some ⟨g, 0, none⟩) n cp) = V := ⟨_, rfl⟩
  rw [hV] at HVC HVR HVB HVG ⊢
  clear hV gS fz x0 x1 x2 x3 x4 x5 x6 y0 y1 y2 y3 y4 y5 y6 HU HV HBU HGU
  obtain ⟨x0, x1, x2, x3, x4, x5, x6⟩ := cells7 HVR.out
  obtain ⟨y0, y1, y2, y3, y4, y5, y6⟩ := cells7 HVC.out
  have HFR : Hid (ReadsF V (some ⟨g, 0, none⟩) n r.fs) := HVG.out.front HR.out.1
  have gd1 : (r.fs ++ ([⟨71, 0, 0, 0⟩, ⟨72, 0, 0, 0⟩] : List Fd)).getD n Fd.zero = ⟨71, 0, 0, 0⟩ := by rw [List.getD_eq_getElem?_getD, List.getElem?_append_right (by rw [HR.out.1]; exact Nat.le_refl _), HR.out.1, Nat.sub_self]; rfl
  have gd2 : (r.fs ++ ([⟨71, 0, 0, 0⟩, ⟨72, 0, 0, 0⟩] : List Fd)).getD (n + 1) Fd.zero = ⟨72, 0, 0, 0⟩ := by rw [List.getD_eq_getElem?_getD, List.getElem?_append_right (by rw [HR.out.1]; omega), HR.out.1, Nat.add_sub_cancel_left]; rfl
  have HCL : Hid (∀ Z : World, Below V.heap.size V Z → Z.cell? ⟨g, n * 4, none⟩ = some (.int .i64 71) ∧ Z.cell? ⟨g, (n + 1) * 4, none⟩ = some (.int .i64 72)) := fun Z hZ => by
    obtain ⟨b9, o9, h9, _, hc9⟩ := (HVG.out.below hZ).pos (by omega)
    have h8 := Option.some.inj h9
    injection h8 with h7 h6
    subst h7 h6
    have k1 := (hc9 n (by omega)).1
    have k2 := (hc9 (n + 1) (by omega)).1
    rw [gd1, Nat.zero_add] at k1
    rw [gd2, Nat.zero_add] at k2
    exact ⟨k1, k2⟩
  clear gd1 gd2 HVG
  have dn : (n : Int) < (n : Int) + 2 := by omega
  go_wp2_with (first
    | (go_at_call 6; refine (show_any r (some ⟨g, 0, none⟩) n cp _ HFR.out HO.out (p10_below HT.out HVB.out) (HK.out.below HVB.out)).mono ?_; rintro e z1 ⟨rfl, bl⟩
       have HL1 : Hid (Below V.heap.size V z1) := bl
       have HR1 : Hid (z1.heap[w.heap.size]? = some (.cells #[.int .u64 (r.fl : Int), .int .i64 r.c, .int .i64 r.l, .int .i64 r.u, .int .i64 r.b, .bool r.s, .slice a n c] 25 (0, 0))) := (bl.block _ (Array.getElem?_eq_some_iff.1 HVR.out).1).trans HVR.out
       have HC1 : Hid (z1.heap[cb]? = some (.cells #[.int .u64 (r.fl : Int), .int .i64 r.c, .int .i64 r.l, .int .i64 r.u, .int .i64 r.b, .bool r.s, .slice (some ⟨g, 0, none⟩) n cp] 25 (0, 0))) := (bl.block _ (Array.getElem?_eq_some_iff.1 HVC.out).1).trans HVC.out
       clear bl x0 x1 x2 x3 x4 x5 x6 y0 y1 y2 y3 y4 y5 y6
       obtain ⟨x0, x1, x2, x3, x4, x5, x6⟩ := cells7 HR1.out
       obtain ⟨y0, y1, y2, y3, y4, y5, y6⟩ := cells7 HC1.out)
    | (go_at_call 7; refine (rshow_any r a n c _ (HR.out.below (below_trans HVB.out HL1.out)) HO.out (p10_below HT.out (below_trans HVB.out HL1.out))).mono ?_; rintro e z2 ⟨rfl, bl⟩
       have HL2 : Hid (Below V.heap.size V z2) := below_trans HL1.out bl
       have HR2 : Hid (z2.heap[w.heap.size]? = some (.cells #[.int .u64 (r.fl : Int), .int .i64 r.c, .int .i64 r.l, .int .i64 r.u, .int .i64 r.b, .bool r.s, .slice a n c] 25 (0, 0))) := (bl.block _ (Array.getElem?_eq_some_iff.1 HR1.out).1).trans HR1.out
       have HC2 : Hid (z2.heap[cb]? = some (.cells #[.int .u64 (r.fl : Int), .int .i64 r.c, .int .i64 r.l, .int .i64 r.u, .int .i64 r.b, .bool r.s, .slice (some ⟨g, 0, none⟩) n cp] 25 (0, 0))) := (bl.block _ (Array.getElem?_eq_some_iff.1 HC1.out).1).trans HC1.out
       clear bl x0 x1 x2 x3 x4 x5 x6 y0 y1 y2 y3 y4 y5 y6
       obtain ⟨x0, x1, x2, x3, x4, x5, x6⟩ := cells7 HR2.out
       obtain ⟨y0, y1, y2, y3, y4, y5, y6⟩ := cells7 HC2.out)
    | (go_at_call 8; refine (same_any _ _ _ _ _ _ (some ⟨g, 0, none⟩) a n cp c r.fs _ (HFR.out.below HL2.out) (HR.out.below (below_trans HVB.out HL2.out)) (by omega)).mono ?_; rintro e z3 ⟨rfl, bl⟩
       have HL3 : Hid (Below V.heap.size V z3) := below_trans HL2.out bl
       have HR3 : Hid (z3.heap[w.heap.size]? = some (.cells #[.int .u64 (r.fl : Int), .int .i64 r.c, .int .i64 r.l, .int .i64 r.u, .int .i64 r.b, .bool r.s, .slice a n c] 25 (0, 0))) := (bl.block _ (Array.getElem?_eq_some_iff.1 HR2.out).1).trans HR2.out
       obtain ⟨m1, m2⟩ := HCL.out z3 HL3.out
       clear bl x0 x1 x2 x3 x4 x5 x6 y0 y1 y2 y3 y4 y5 y6
       obtain ⟨x0, x1, x2, x3, x4, x5, x6⟩ := cells7 HR3.out))
  go_ret
  exact ⟨by first | rfl | simp, below_trans HVB.out HL3.out⟩

end Go.Proofs.YtnjcjaaciphcgaaDoor
