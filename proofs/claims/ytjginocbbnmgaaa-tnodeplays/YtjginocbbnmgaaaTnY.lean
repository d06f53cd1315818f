/-
  SEAT Ytjginocbbnmgaaa: pairs.
-/
import Derived.Test.YtjginocbbnmgaaaTnX
namespace Go.Proofs.Ytjginocbbnmgaaa
open Go.RowKit Go.Shelf
set_option linter.unusedVariables false
variable {bx : Nat}

/-- A tree whose blocks lie below n₀. -/
structure PTree (W : World) (n₀ gt h : Nat) (M : Mp) : Prop where
  blk : ∃ top n, W.heap[gt]? = some (.cells #[ptr top, .int .i64 (h : Int), .int .i64 n] 72 (0, 0)) ∧ (h = 0 → top = none) ∧ ∀ l, h = l + 1 → NodeOn (seenH W (Ex n₀ (n₀, n₀))) l top M
  low : gt < n₀
  out : ∀ k, spn h ≤ k → M k = none
  void : h = 0 → ∀ k, M k = none
  h5 : h ≤ 5
theorem PTree.below {A B : World} {n₀ gt h : Nat} {M : Mp} (hT : PTree A n₀ gt h M) (hb : Below n₀ A B) : PTree B n₀ gt h M := by
  obtain ⟨top, n, h1, h2, h3⟩ := hT.blk
  exact ⟨⟨top, n, (hb.block gt hT.low).trans h1, h2, fun l hl => (h3 l hl).mono (Stay.shows (Stay.of_below hb))⟩, hT.low, hT.out, hT.void, hT.h5⟩
theorem TreeOn.ptree {w : World} {gt h : Nat} {n : Int} {M : Mp} (hT : TreeOn bx w gt h n M) : PTree w w.heap.size gt h M := by
  obtain ⟨top, h1, h2, h3⟩ := hT.blk
  refine ⟨⟨top, n, h1, fun q => (h2 q).1, fun l hl => (h3 l hl).mono (fun i o hi => ?_)⟩, lt_of_block h1, hT.out, fun q => by subst q; exact hT.void, hT.h5⟩
  obtain ⟨q1, q2⟩ := seen_block hi
  have := lt_of_block q2
  exact seen_of (fun q => by rcases q with q | q | q <;> (try simp only at q) <;> omega) q2
abbrev encP : Int × Int → Array Value := fun x => #[.int .i64 x.1, .int .i64 x.2]
theorem all_void {W : World} {n₀ gt h : Nat} {M : Mp} (hT : PTree W n₀ gt h M) {n : Int} (h1 : W.heap[gt]? = some (.cells #[.pointer none, .int .i64 (h : Int), .int .i64 n] 72 (0, 0))) : allOf M = [] := by
  rw [← items_high hT.h5 hT.out]
  refine items_void _ ?_
  obtain ⟨top, n', q1, q2, q3⟩ := hT.blk
  rw [h1] at q1
  injection q1 with q1
  injection q1 with q1
  have ht : top = none := by
    cases top with
    | none => rfl
    | some g => simp [ptr] at q1
  subst ht
  cases h with
  | zero => exact fun k _ => hT.void rfl k
  | succ l => exact NodeOn.isVoid (q3 l rfl)
theorem all_some (n l Bt n₀ gt g lv : Nat) (M : Mp) (A : List (Int × Int)) (hA : items M 0 (spn (lv + 1)) = A) (J Jx : List (Int × Int) → World → Prop) (W : World) (hAJ : AbidesFrom W.heap.size J) (hY : ∀ pre x W1, J pre W1 → pre.length < A.length → YieldAt Fence.wide (n - 1) Try.prog l (encP x) W1 fun e W' =>
      (e = .returned (.bool true) ∧ J (pre ++ [x]) W' ∧ Below n₀ W1 W') ∨ (e = .returned (.bool false) ∧ Jx (pre ++ [x]) W')) (h0 : J [] W) (hl : lv ≤ 4) (hN : NodeOn (seenH W (Ex n₀ (n₀, n₀))) lv (some g) M) :
    Calls Try.prog 53 #[.pointer (some ⟨g, 0, none⟩), .int .i64 (lv : Int), .int .i64 0, .func (.yield l) #[] #[]] W.drew fun e W' => (∃ b, e = .returned (.bool b)) ∧ ((∃ xs, xs = A ∧ J xs W') ∨ (∃ pre, pre <+: A ∧ Jx pre W')) := by
  have hyo : YieldOk l n₀ (n₀, n₀) A.length J Jx := fun m pre x W1 hj hlen => YieldAt.mono (YieldAt.anyDepth rfl m (hY pre x W1 hj hlen)) (fun e W' h => h.elim (fun ⟨a, b, c⟩ => .inl ⟨a, b, Stay.of_below c⟩) .inr)
  have hJ' : J [] W.drew := hAJ [] W W.drew none h0 (grown_drewN W 1 none) (fun r e => by cases e)
  have hs : 0 + spn (lv + 1) ≤ 1048576 := by
    have := dig_le5 (lv + 1) (by omega)
    omega
  have he := each_any lv hl l n₀ (n₀, n₀) A.length J Jx hyo 3 g 0 M [] W.drew hN hs hJ' (by rw [hA]; simp)
  rw [hA, show ((0 : Nat) : Int) = 0 from rfl] at he
  refine callsIn_wide.1 (CallsIn.mono he ?_)
  rintro e W' (⟨rfl, hj, _⟩ | ⟨rfl, q, hq, hx⟩)
  · exact ⟨⟨_, rfl⟩, .inl ⟨_, rfl, by simpa using hj⟩⟩
  · exact ⟨⟨_, rfl⟩, .inr ⟨q, hq, by simpa using hx⟩⟩
/-- t.All() hands back a value that tells all things by rising keys, or a front of them. -/
theorem all_stops (n Bt n₀ gt h : Nat) (M : Mp) (A : List (Int × Int)) (hA : allOf M = A) (w : World) (hBt : Bt < w.heap.size) (hn₀ : n₀ ≤ w.heap.size) (hc : w.cell? ⟨Bt, 0, none⟩ = some (.pointer (some ⟨gt, 0, none⟩))) (hT : PTree w n₀ gt h M) :
    SeqStopsK Fence.wide n Try.prog 52 #[.pointer (some ⟨Bt, 0, none⟩)] encP (Below n₀) (fun ys => ys = A) (fun pre => pre <+: A) A.length w := fun l J Jx W hW hAJ hAx hY h0 => by
  have hTW := hT.below (hW.mono hn₀)
  have hcW : W.cell? ⟨Bt, 0, none⟩ = some (.pointer (some ⟨gt, 0, none⟩)) := (hW.cell (p := ⟨Bt, 0, none⟩) hBt).trans hc
  obtain ⟨top, nn, h1, h2, h3⟩ := hTW.blk
  have c1 : W.cell? ⟨gt, 1, none⟩ = some (.int .i64 (h : Int)) := by rw [cell_of_row _ _ 1 _ 72 (0, 0) h1]; rfl
  refine callsIn_wide.2 ?_
  cases top with
  | none =>
    have hv := all_void hTW h1
    rw [hA] at hv
    refine (all1_none l gt Bt h W hcW (by rw [cell_of_row _ _ 0 _ 72 (0, 0) h1]; rfl)).mono ?_
    rintro e W' ⟨hv', rfl⟩
    exact ⟨hv', .inl ⟨[], hv.symm, h0⟩⟩
  | some g =>
    obtain ⟨lv, rfl⟩ : ∃ lv, h = lv + 1 := by
      cases h with
      | zero => cases h2 rfl
      | succ l => exact ⟨l, rfl⟩
    have h5 := hTW.h5
    have hall := (items_high hTW.h5 hTW.out).trans hA
    exact all1_some l gt Bt g lv W hcW (by rw [cell_of_row _ _ 0 _ 72 (0, 0) h1]; rfl) (by rw [c1, Int.natCast_add]; rfl) (by omega) _ (all_some n l Bt n₀ gt g lv M A hall J Jx W hAJ hY h0 (by omega) (h3 lv rfl))
/-- The cells of pairs. -/
def flatP (xs : List (Int × Int)) : List Value := xs.flatMap fun p => [.int .i64 p.1, .int .i64 p.2]
theorem flatP_snoc (xs : List (Int × Int)) (x : Int × Int) : flatP (xs ++ [x]) = flatP xs ++ [.int .i64 x.1, .int .i64 x.2] := by simp [flatP]
theorem flatP_len (xs : List (Int × Int)) : (flatP xs).length = xs.length * 2 := by
  induction xs with
  | nil => rfl
  | cons x xs ih =>
    show (flatP xs).length + 1 + 1 = _
    rw [ih, List.length_cons]
    omega
theorem info35 : (Try.prog.info? 35).map (fun i => (i.zero, i.size, i.bytes)) = some (some (.agg #[.int .i64 0, .int .i64 0]), 2, 16) := by kernel_rfl
theorem items_len (M : Mp) (base n : Nat) : (items M base n).length ≤ n := by
  induction n with
  | zero => simp [items]
  | succ n ih =>
    simp only [items, List.length_append]
    cases M n <;> simp <;> omega
theorem cell_two_new (W : World) (a b : Value) (t : TypeId) : ∀ (j : Nat) (u : Value), [a, b][j]? = some u → (W.alloc (.cells #[a, b] t)).cell? ((⟨W.heap.size, 0, none⟩ : Addr).add j) = some u := by
  intro j u hj
  match j, hj with
  | 0, hj =>
    simp at hj
    subst hj
    simp [Addr.add]
  | 1, hj =>
    simp at hj
    subst hj
    simp [Addr.add]
theorem made0 : madeCells (Value.agg #[Value.int IntKind.i64 0, Value.int IntKind.i64 0]).cells (Int.toNat 0 * 2) = #[] := by kernel_rfl
theorem make0 (u : World) : (Instr.makeSlice 28 (.int .i64 0) (.int .i64 0)).run Try.prog u = .ok (.slice (some ⟨u.heap.size, 0, none⟩) 0 0) (u.alloc (.cells #[] 35)) := by
  obtain ⟨i0, hi, hz0, hz1, hz2⟩ := info_parts info35
  have h := run_makeSlice u 28 35 i0 _ Try.underlying28 hi hz0 .i64 .i64 0 0 (by decide) (by decide) (by rw [hz1]; decide) (by rw [hz2]; decide) (by decide)
  rw [h, hz1, made0]
  rfl
attribute [local go_sem] Oper.semAt_some
set_option maxHeartbeats 4000000 in
set_option maxRecDepth 100000 in
theorem pairs_A (gt h : Nat) (M : Mp) (A : List (Int × Int)) (hA : allOf M = A) (w : World) (hT : PTree w w.heap.size gt h M) (hlen : A.length ≤ 1048576) :
    Calls Try.prog 12 #[.pointer (some ⟨gt, 0, none⟩), .int .i64 (-1)] w fun e W' => ∃ v, e = .returned v ∧ W'.ownsRow w.heap.size 35 2 v A.length (flatP A) ∧ Below w.heap.size w W' := by
  obtain ⟨N, hN⟩ : ∃ N, A.length = N := ⟨_, rfl⟩
  have hNl : N ≤ 1048576 := by omega
  obtain ⟨i0, hi, hz0, hz1, hz2⟩ := info_parts info35
  have hfw : ∀ f, Fence.wide.fn f := fun _ => trivial
  have hdw : Fence.wide.depth.isSome = false := rfl
  have hmk := make0
  refine (callsIn_wide (n := 3)).1 ?_
  refine callsIn_of_wp_marks Try.func12 rfl trivial ?_ rfl
  simp only [Try.ntmps12, List.size_toArray, List.length_cons, List.length_nil, Nat.reduceAdd, Nat.reduceSub, Array.replicate_succ, Array.replicate_zero, List.push_toArray, List.append_toArray, List.nil_append, List.cons_append]
  gi_wp2_with (first | (gi_at_call 35; refine CallsIn.mono (callsIn_wide.2 (allf_any gt _)) ?_; rintro e w' ⟨rfl, rfl⟩))
  have bS := Boxed.new w 3 (.int .i64 (-1))
  have bL := Boxed.new ((w.alloc (.cells #[.int .i64 (-1)] 3)).alloc (.cells #[] 35)) 28 (.slice (some ⟨w.heap.size + 1, 0, none⟩) 0 0)
  have bT := Boxed.new (((w.alloc (.cells #[.int .i64 (-1)] 3)).alloc (.cells #[] 35)).alloc (.cells #[.slice (some ⟨w.heap.size + 1, 0, none⟩) 0 0] 28)) 24 (.pointer (some ⟨gt, 0, none⟩))
  have hR : ((((w.alloc (.cells #[.int .i64 (-1)] 3)).alloc (.cells #[] 35)).alloc (.cells #[.slice (some ⟨w.heap.size + 1, 0, none⟩) 0 0] 28)).alloc (.cells #[.pointer (some ⟨gt, 0, none⟩)] 24)).ownsRow w.heap.size 35 2 (.slice (some ⟨w.heap.size + 1, 0, none⟩) 0 0) 0 [] := by
    refine World.ownsRow.alloc (World.ownsRow.alloc ?_ _) _
    have hb := heap_alloc_last (w.alloc (.cells #[.int .i64 (-1)] 3)) (.cells #[] 35)
    rw [World.size_alloc] at hb
    exact ⟨rfl, Or.inr ⟨w.heap.size + 1, 0, #[], rfl, by omega, hb, Nat.le_refl _, by decide, rfl, rfl⟩⟩
  simp only [World.size_alloc] at bL bT
  have hB0 : Below w.heap.size w ((((w.alloc (.cells #[.int .i64 (-1)] 3)).alloc (.cells #[] 35)).alloc (.cells #[.slice (some ⟨w.heap.size + 1, 0, none⟩) 0 0] 28)).alloc (.cells #[.pointer (some ⟨gt, 0, none⟩)] 24)) := ((((Below.refl _ w).alloc (Nat.le_refl _) _).alloc (by simp) _).alloc (by simp; omega) _).alloc (by simp; omega) _
  refine wpIn_rangeFunc_ownG rfl (show 1 ≤ 3 by decide) (gf := 52) (lb := #[.pointer (some ⟨w.heap.size + 1 + 1 + 1, 0, none⟩)]) rfl trivial (enters_of Try.func52 (by kernel_rfl) rfl)
    (all_stops 2 (w.heap.size + 1 + 1 + 1) w.heap.size gt h M A hA _ (by simp) (by simp; omega) bT.cell (hT.below hB0)) belowK_t (belowK_b (by simp; omega)) (Below.refl _ _) (fun _ => rfl)
    (fun pre W => (∃ v, Boxed W (w.heap.size + 1 + 1) 28 v ∧ W.ownsRow w.heap.size 35 2 v pre.length (flatP pre) ∧ True) ∧ (Below w.heap.size w W ∧ Boxed W w.heap.size 3 (.int .i64 (-1))))
    (fun _ _ _ => False)
    (OwnFrom.and (Own.from (holdsRow_own w.heap.size (w.heap.size + 1 + 1) 28 35 2 (fun pre => pre.length) flatP (fun _ _ => True)) _) (OwnFrom.and (ownFrom_below (Nat.le_refl _) (by simp; omega)) (Own.from (fun s X Y row hs hg hr => hs.kept hg (fun e' => by
      obtain ⟨o, ho, hc⟩ := hr _ e'.symm
      rw [show X.heap[w.heap.size]? = _ from hs] at ho; cases ho; cases hc)) _)))
    (fun _ _ _ _ _ hs _ _ => hs)
    ⟨⟨_, bL.alloc _, hR, trivial⟩, hB0, ((bS.alloc _).alloc _).alloc _⟩
    (fun x => { tmps := #[.pointer (some ⟨gt, 0, none⟩), .int .i64 (-1), undef, .pointer (some ⟨w.heap.size, 0, none⟩), .slice none 0 0, .pointer (some ⟨w.heap.size + 1 + 1, 0, none⟩), .int .i64 x.1, .int .i64 x.2, .slice (some ⟨w.heap.size + 1, 0, none⟩) 0 0, .int .i64 (-1), .bool false, undef, .pointer (some ⟨gt, 0, none⟩), .func (.func 52) #[] #[.pointer (some ⟨w.heap.size + 1 + 1 + 1, 0, none⟩)], .int .i64 x.1, .int .i64 x.2, undef, undef, undef, undef, undef, undef, undef, undef, undef, undef, undef], defers := [] }) ?assign ?body ?done ?stop
  case assign =>
    intro l x W K hK
    gi_wp2
    exact hK
  case body =>
    rintro l pre x W ⟨⟨v, hv, hrow, _⟩, hB, hst⟩ hlt
    have hc := hv.cell
    have hcs := hst.cell
    have hpl : pre.length < N := by rw [← hN]; exact hlt
    have hne : ((pre.length : Int) + 1 == -1) = false := by simp; omega
    gi_wp2_with (gi_at_builtin; refine wpListIn_append_own _ rfl _ _ 28 rfl w.heap.size 35 i0 (.agg #[.int .i64 0, .int .i64 0]) 2 16 Try.underlying28 hi hz0 hz1 hz2 rfl (by decide) _ _ _ rfl (hrow.alloc _) ⟨W.heap.size, 0, none⟩ 1 1 [.int .i64 x.1, .int .i64 x.2] rfl rfl (cell_two_new _ _ _ _) (by simp [Value.oneCell']) (by rw [show maxLen = 9223372036854775807 from rfl]; omega) (by omega) (by have := hB.size; simp; omega) ?_; intro v' w1 hown' hgrow _; obtain ⟨g', cap', rfl⟩ := ownsRow_succ hown'; obtain ⟨hv1, hv2, hr2, hk2, hb2⟩ := hv.appended (by decide) hrow hB.size (by omega) hown' hgrow; have hst1 := (hst.alloc _).kept hgrow (hst.not_row (by decide) hrow); have hst2 := hst1.kept (grownBy_setCell' w1 (w.heap.size + 1 + 1) (.slice (some ⟨g', 0, none⟩) (pre.length + 1) cap')) (by simp; omega); have hc1 := hv1.cell; have hf1 := hv1.frozen; have hc2 := hv2.cell; have hcs2 := hst2.cell; clear hc hcs)
    exact ⟨hk2.from _, hb2, ⟨_, hv2, by rw [flatP_snoc, List.length_append]; exact hr2, trivial⟩, hB.trans hb2, hst2⟩
  case done =>
    rintro D ys W hD rfl ⟨⟨v, hv, hrow, _⟩, hB, _⟩ hK
    have hc := hv.cell
    gi_wp2
    refine ⟨by simp, .inl ⟨_, _, rfl, run_takeDeferred hK, ?_⟩⟩
    exact ⟨_, results_tmp rfl _ _ _, v, rfl, ownsRow_putObj hrow _ hK rfl, hB.trans (belowK_b (w := w) (Nat.le_refl _) W D _ _ (by simp at hD; omega) hK rfl rfl)⟩
  case stop =>
    rintro D c pre W _ _ h _
    exact h.elim
theorem pairs_all (gt h : Nat) (M : Mp) (w : World) (hT : Tree w gt h M) :
    Calls Try.prog 12 #[.pointer (some ⟨gt, 0, none⟩), .int .i64 (-1)] w fun e W' => ∃ v, e = .returned v ∧ W'.ownsRow w.heap.size 35 2 v (allOf M).length (flatP (allOf M)) ∧ Below w.heap.size w W' :=
  pairs_A gt h M _ rfl w hT.on.ptree (items_len _ _ _)
end Go.Proofs.Ytjginocbbnmgaaa
