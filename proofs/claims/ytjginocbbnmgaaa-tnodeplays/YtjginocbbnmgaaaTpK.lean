/-
  SEAT Ytjginocbbnmgaaa: pairs that stops.
-/
import Derived.Test.YtjginocbbnmgaaaTpJ
namespace Go.Proofs.Ytjginocbbnmgaaa
open Go.RowKit Go.Shelf
set_option linter.unusedVariables false

attribute [local go_sem] Oper.semAt_some
set_option maxHeartbeats 4000000 in
set_option maxRecDepth 100000 in
theorem pairs_S (gt h S : Nat) (hS : 0 < S) (hS6 : S ≤ 1048576) (M : Mp) (A : List (Int × Int)) (hA : allOf M = A) (w : World) (hT : PTree w w.heap.size gt h M) (hlen : A.length ≤ 1048576) :
    Calls Try.prog 12 #[.pointer (some ⟨gt, 0, none⟩), .int .i64 (S : Int)] w fun e W' => ∃ v, e = .returned v ∧ W'.ownsRow w.heap.size 35 2 v (A.take S).length (flatP (A.take S)) ∧ Below w.heap.size w W' := by
  obtain ⟨N, hN⟩ : ∃ N, A.length = N := ⟨_, rfl⟩
  have hNl : N ≤ 1048576 := by omega
  obtain ⟨i0, hi, hz0, hz1, hz2⟩ := info_parts info35
  have hfw : ∀ f, Fence.wide.fn f := fun _ => trivial
  have hdw : Fence.wide.depth.isSome = false := rfl
  have hmk := make0
  have hs0 : ((S : Int) == 0) = false := by rw [beq_eq_false_iff_ne]; omega
  refine (callsIn_wide (n := 3)).1 ?_
  refine callsIn_of_wp_marks Try.func12 rfl trivial ?_ rfl
  simp only [Try.ntmps12, List.size_toArray, List.length_cons, List.length_nil, Nat.reduceAdd, Nat.reduceSub, Array.replicate_succ, Array.replicate_zero, List.push_toArray, List.append_toArray, List.nil_append, List.cons_append]
  gi_wp2_with (first | (gi_at_call 35; refine CallsIn.mono (callsIn_wide.2 (allf_any gt _)) ?_; rintro e w' ⟨rfl, rfl⟩))
  have bS := Boxed.new w 3 (.int .i64 (S : Int))
  have bL := Boxed.new ((w.alloc (.cells #[.int .i64 (S : Int)] 3)).alloc (.cells #[] 35)) 28 (.slice (some ⟨w.heap.size + 1, 0, none⟩) 0 0)
  have bT := Boxed.new (((w.alloc (.cells #[.int .i64 (S : Int)] 3)).alloc (.cells #[] 35)).alloc (.cells #[.slice (some ⟨w.heap.size + 1, 0, none⟩) 0 0] 28)) 24 (.pointer (some ⟨gt, 0, none⟩))
  have hR : ((((w.alloc (.cells #[.int .i64 (S : Int)] 3)).alloc (.cells #[] 35)).alloc (.cells #[.slice (some ⟨w.heap.size + 1, 0, none⟩) 0 0] 28)).alloc (.cells #[.pointer (some ⟨gt, 0, none⟩)] 24)).ownsRow w.heap.size 35 2 (.slice (some ⟨w.heap.size + 1, 0, none⟩) 0 0) 0 [] := by
    refine World.ownsRow.alloc (World.ownsRow.alloc ?_ _) _
    have hb := heap_alloc_last (w.alloc (.cells #[.int .i64 (S : Int)] 3)) (.cells #[] 35)
    rw [World.size_alloc] at hb
    exact ⟨rfl, Or.inr ⟨w.heap.size + 1, 0, #[], rfl, by omega, hb, Nat.le_refl _, by decide, rfl, rfl⟩⟩
  simp only [World.size_alloc] at bL bT
  have hB0 : Below w.heap.size w ((((w.alloc (.cells #[.int .i64 (S : Int)] 3)).alloc (.cells #[] 35)).alloc (.cells #[.slice (some ⟨w.heap.size + 1, 0, none⟩) 0 0] 28)).alloc (.cells #[.pointer (some ⟨gt, 0, none⟩)] 24)) := ((((Below.refl _ w).alloc (Nat.le_refl _) _).alloc (by simp) _).alloc (by simp; omega) _).alloc (by simp; omega) _
  refine wpIn_rangeFunc_ownG rfl (show 1 ≤ 3 by decide) (gf := 52) (lb := #[.pointer (some ⟨w.heap.size + 1 + 1 + 1, 0, none⟩)]) rfl trivial (enters_of Try.func52 (by kernel_rfl) rfl)
    (all_stops 2 (w.heap.size + 1 + 1 + 1) w.heap.size gt h M A hA _ (by simp) (by simp; omega) bT.cell (hT.below hB0)) belowK_t (belowK_b (by simp; omega)) (Below.refl _ _) (fun _ => rfl)
    (fun pre W => (∃ v, Boxed W (w.heap.size + 1 + 1) 28 v ∧ W.ownsRow w.heap.size 35 2 v pre.length (flatP pre) ∧ pre.length < S) ∧ (Below w.heap.size w W ∧ Boxed W w.heap.size 3 (.int .i64 (S : Int))))
    (fun c pre W => (∃ v, Boxed W (w.heap.size + 1 + 1) 28 v ∧ W.ownsRow w.heap.size 35 2 v pre.length (flatP pre) ∧ (c = .exit 0 ∧ pre.length = S)) ∧ Below w.heap.size w W)
    (OwnFrom.and (Own.from (holdsRow_own w.heap.size (w.heap.size + 1 + 1) 28 35 2 (fun pre => pre.length) flatP (fun pre _ => pre.length < S)) _) (OwnFrom.and (ownFrom_below (Nat.le_refl _) (by simp; omega)) (Own.from (fun s X Y row hs hg hr => hs.kept hg (fun e' => by
      obtain ⟨o, ho, hc⟩ := hr _ e'.symm
      rw [show X.heap[w.heap.size]? = _ from hs] at ho; cases ho; cases hc)) _)))
    (fun c => OwnFrom.and (Own.from (holdsRow_own w.heap.size (w.heap.size + 1 + 1) 28 35 2 (fun pre => pre.length) flatP (fun pre _ => c = .exit 0 ∧ pre.length = S)) _) (ownFrom_below (Nat.le_refl _) (by simp; omega)))
    ⟨⟨_, bL.alloc _, hR, hS⟩, hB0, ((bS.alloc _).alloc _).alloc _⟩
    (fun x => { tmps := #[.pointer (some ⟨gt, 0, none⟩), .int .i64 (S : Int), undef, .pointer (some ⟨w.heap.size, 0, none⟩), .slice none 0 0, .pointer (some ⟨w.heap.size + 1 + 1, 0, none⟩), .int .i64 x.1, .int .i64 x.2, .slice (some ⟨w.heap.size + 1, 0, none⟩) 0 0, .int .i64 (S : Int), .bool false, undef, .pointer (some ⟨gt, 0, none⟩), .func (.func 52) #[] #[.pointer (some ⟨w.heap.size + 1 + 1 + 1, 0, none⟩)], .int .i64 x.1, .int .i64 x.2, undef, undef, undef, undef, undef, undef, undef, undef, undef, undef, undef], defers := [] }) ?assign ?body ?done ?stop
  case assign =>
    intro l x W K hK
    gi_wp2
    exact hK
  case body =>
    rintro l pre x W ⟨⟨v, hv, hrow, hps⟩, hB, hst⟩ hlt
    have hc := hv.cell
    have hcs := hst.cell
    have hpl : pre.length < N := by rw [← hN]; exact hlt
    by_cases hne0 : pre.length + 1 = S
    · have hne : ((pre.length : Int) + 1 == (S : Int)) = true := by rw [beq_iff_eq]; omega
      have HNE : Hid (pre.length + 1 = S) := hne0
      clear hne0 hps
      gi_wp2_with (gi_at_builtin; refine wpListIn_append_own _ rfl _ _ 28 rfl w.heap.size 35 i0 (.agg #[.int .i64 0, .int .i64 0]) 2 16 Try.underlying28 hi hz0 hz1 hz2 rfl (by decide) _ _ _ rfl (hrow.alloc _) ⟨W.heap.size, 0, none⟩ 1 1 [.int .i64 x.1, .int .i64 x.2] rfl rfl (cell_two_new _ _ _ _) (by simp [Value.oneCell']) (by rw [show maxLen = 9223372036854775807 from rfl]; omega) (by omega) (by have := hB.size; simp; omega) ?_; intro v' w1 hown' hgrow _; obtain ⟨g', cap', rfl⟩ := ownsRow_succ hown'; obtain ⟨hv1, hv2, hr2, hk2, hb2⟩ := hv.appended (by decide) hrow hB.size (by omega) hown' hgrow; have hst1 := (hst.alloc _).kept hgrow (hst.not_row (by decide) hrow); have hst2 := hst1.kept (grownBy_setCell' w1 (w.heap.size + 1 + 1) (.slice (some ⟨g', 0, none⟩) (pre.length + 1) cap')) (by simp; omega); have hc1 := hv1.cell; have hf1 := hv1.frozen; have hc2 := hv2.cell; have hcs2 := hst2.cell; clear hc hcs)
      exact ⟨hk2.from _, ⟨_, hv2, by rw [flatP_snoc, List.length_append]; exact hr2, rfl, by rw [List.length_append]; exact HNE.out⟩, hB.trans hb2⟩
    · have hne : ((pre.length : Int) + 1 == (S : Int)) = false := by rw [beq_eq_false_iff_ne]; omega
      have HNE : Hid (pre.length + 1 < S) := by show pre.length + 1 < S; omega
      clear hne0 hps
      gi_wp2_with (gi_at_builtin; refine wpListIn_append_own _ rfl _ _ 28 rfl w.heap.size 35 i0 (.agg #[.int .i64 0, .int .i64 0]) 2 16 Try.underlying28 hi hz0 hz1 hz2 rfl (by decide) _ _ _ rfl (hrow.alloc _) ⟨W.heap.size, 0, none⟩ 1 1 [.int .i64 x.1, .int .i64 x.2] rfl rfl (cell_two_new _ _ _ _) (by simp [Value.oneCell']) (by rw [show maxLen = 9223372036854775807 from rfl]; omega) (by omega) (by have := hB.size; simp; omega) ?_; intro v' w1 hown' hgrow _; obtain ⟨g', cap', rfl⟩ := ownsRow_succ hown'; obtain ⟨hv1, hv2, hr2, hk2, hb2⟩ := hv.appended (by decide) hrow hB.size (by omega) hown' hgrow; have hst1 := (hst.alloc _).kept hgrow (hst.not_row (by decide) hrow); have hst2 := hst1.kept (grownBy_setCell' w1 (w.heap.size + 1 + 1) (.slice (some ⟨g', 0, none⟩) (pre.length + 1) cap')) (by simp; omega); have hc1 := hv1.cell; have hf1 := hv1.frozen; have hc2 := hv2.cell; have hcs2 := hst2.cell; clear hc hcs)
      exact ⟨hk2.from _, hb2, ⟨_, hv2, by rw [flatP_snoc, List.length_append]; exact hr2, by rw [List.length_append]; exact HNE.out⟩, hB.trans hb2, hst2⟩
  case done =>
    rintro D ys W hD rfl ⟨⟨v, hv, hrow, hys⟩, hB, _⟩ hK
    have hc := hv.cell
    have hpt : ys.take S = ys := List.take_of_length_le (by omega)
    gi_wp2
    refine ⟨by simp, .inl ⟨_, _, rfl, run_takeDeferred hK, ?_⟩⟩
    exact ⟨_, results_tmp rfl _ _ _, v, rfl, by rw [hpt]; exact ownsRow_putObj hrow _ hK rfl, hB.trans (belowK_b (w := w) (Nat.le_refl _) W D _ _ (by simp at hD; omega) hK rfl rfl)⟩
  case stop =>
    rintro D c pre W hD hpre ⟨⟨v, hv, hrow, rfl, hps⟩, hB⟩ hK
    have hc := hv.cell
    have hpt : A.take S = pre := by
      obtain ⟨t, ht⟩ := hpre
      rw [← ht, ← hps, List.take_left]
    gi_wp2
    refine ⟨by simp, .inl ⟨_, _, rfl, run_takeDeferred hK, ?_⟩⟩
    exact ⟨_, results_tmp rfl _ _ _, v, rfl, by rw [hpt]; exact ownsRow_putObj hrow _ hK rfl, hB.trans (belowK_b (w := w) (Nat.le_refl _) W D _ _ (by simp at hD; omega) hK rfl rfl)⟩
/-- The first things of a tree. -/
theorem pairs_stop (gt h S : Nat) (hS : 0 < S) (hS6 : S ≤ 1048576) (M : Mp) (w : World) (hT : Tree w gt h M) :
    Calls Try.prog 12 #[.pointer (some ⟨gt, 0, none⟩), .int .i64 (S : Int)] w fun e W' => ∃ v, e = .returned v ∧ W'.ownsRow w.heap.size 35 2 v ((allOf M).take S).length (flatP ((allOf M).take S)) ∧ Below w.heap.size w W' :=
  pairs_S gt h S hS hS6 M _ rfl w hT.on.ptree (items_len _ _ _)
end Go.Proofs.Ytjginocbbnmgaaa
