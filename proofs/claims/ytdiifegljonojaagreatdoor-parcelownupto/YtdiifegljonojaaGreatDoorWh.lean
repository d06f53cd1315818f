/-
  SEAT YtdiifegljonojaaGreatDoor: a file without data; data; a piece.
-/
import Derived.Test.YtdiifegljonojaaGreatDoorWg
namespace Go.Proofs.YtdiifegljonojaaGreatDoor
open Go.RowKit
set_option linter.unusedVariables false

attribute [local go_sem] Oper.semAt_some

set_option maxHeartbeats 2000000 in
set_option maxRecDepth 100000 in
theorem strs_in0 (nn l Bd : Nat) (a : Option Addr) (c : Nat) (J Jx : List (Fin 0) → World → Prop) (W : World)
    (hBd : W.heap[Bd]? = some (.cells #[.slice a 0 c] 25 (0, 0))) (h0 : J [] W) :
    CallsIn Fence.wide nn Tryz.prog 85 #[.func (.yield l) #[] #[], .pointer (some ⟨Bd, 0, none⟩)] W fun e W' => (∃ v, e = .returned v) ∧ ((∃ ys, ys = List.finRange 0 ∧ J ys W') ∨ (∃ pre, pre <+: List.finRange 0 ∧ Jx pre W')) := by
  have hfw : ∀ f, Fence.wide.fn f := fun _ => trivial
  have hdw : Fence.wide.depth.isSome = false := rfl
  obtain ⟨c0, f0⟩ := blk1_cells hBd
  have HBD := hide hBd
  clear hBd
  refine callsIn_of_wp Tryz.func85 rfl trivial ?_ rfl
  simp only [Tryz.ntmps85, List.size_toArray, List.length_cons, List.length_nil, Nat.reduceAdd, Nat.reduceSub, Array.replicate_succ, Array.replicate_zero, List.push_toArray, List.append_toArray, List.nil_append, List.cons_append]
  gi_wp2
  gi_loopw [3] (fun v wr => v = .int .i64 0 ∧ wr = W) (fun _ _ => 0)
  case atStart => exact ⟨rfl, rfl⟩
  case round =>
    obtain ⟨rfl, rfl⟩ := hrel
    gi_wp2
    go_end0
    refine ⟨⟨_, rfl⟩, .inl ?_⟩
    first | exact h0 | exact ⟨_, rfl, h0⟩
theorem strs_stops0 (nn Bd n₀ : Nat) (a : Option Addr) (c : Nat) (w : World) (hBd : w.heap[Bd]? = some (.cells #[.slice a 0 c] 25 (0, 0))) :
    SeqStopsK Fence.wide nn Tryz.prog 85 #[.pointer (some ⟨Bd, 0, none⟩)] (fun _ : Fin 0 => #[undef]) (Kpg n₀ Bd) (fun ys => ys = List.finRange 0) (fun pre => pre <+: List.finRange 0) 0 w := fun l J Jx W hW hAJ hAx hY h0 =>
  strs_in0 nn l Bd a c J Jx W ((hW.block Bd (Array.getElem?_eq_some_iff.1 hBd).1).trans hBd) h0

theorem cuts_nil : cuts [] = [] := rfl
set_option maxHeartbeats 4000000 in
set_option maxRecDepth 100000 in
theorem data_none (B q c : Nat) (a : Option Addr) (laid : List Int) (w : World) (hW : WrA w B q laid) (hl : laid.length ≤ 40000000000000) :
    Calls Tryz.prog 41 #[.pointer (some ⟨q, 0, none⟩), .slice a 0 c] w fun e w' => e = .returned (.tuple #[]) ∧ WrA w' B q (laid ++ encD []) ∧ Kw B w w' := by
  have hBw := hW.size
  have hb1 := below_alloc w (.cells #[.pointer (some ⟨q, 0, none⟩)] 45)
  have hpx : (w.alloc (.cells #[.pointer (some ⟨q, 0, none⟩)] 45)).heap[w.heap.size]? = some (.cells #[.pointer (some ⟨q, 0, none⟩)] 45 (0, 0)) := heap_alloc_new w _
  have HN := hide (whole_w B q laid 4 0 _ (hW.below hb1) (by omega) (by omega) (by omega) (by omega) (by decide))
  have HK0 := hide (Kw.of_below hBw hb1)
  have HPX := hide hpx
  obtain ⟨c66, f66⟩ := blk1_cells hpx
  obtain ⟨L1, hL1⟩ : ∃ L1, laid ++ numL 4 0 = L1 := ⟨_, rfl⟩
  have he : laid ++ encD [] = L1 := by rw [← hL1]; unfold encD; rw [cuts_nil]; simp
  rw [he]
  rw [hL1] at HN
  clear hW hb1 hpx hL1 he
  refine (callsIn_wide (n := 3)).1 ?_
  refine callsIn_of_wp_marks Tryz.func41 rfl trivial ?_ rfl
  refine wpIn_mono ?_ noPanic_le
  simp only [Tryz.ntmps41, List.size_toArray, List.length_cons, List.length_nil, Nat.reduceAdd, Nat.reduceSub, Array.replicate_succ, Array.replicate_zero, List.push_toArray, List.append_toArray, List.nil_append, List.cons_append]
  refine wpIn_wide.2 ?_
  go_wp2_with (first
    | (go_at_call 33; refine HN.out.mono ?_; rintro e u1 ⟨rfl, a1, k1⟩
       have HA1 := hide a1
       have HK1 := hide (HK0.out.trans k1)
       clear a1 k1 HN c66 f66)
    | (go_at_call 67; refine (stretches_any _ _ _ _).mono ?_; rintro e u9 ⟨rfl, hu9⟩; rw [hu9]; clear hu9))
  have hb2 := below_alloc u1 (.cells #[.slice a 0 c] 25)
  have hdx : (u1.alloc (.cells #[.slice a 0 c] 25)).heap[u1.heap.size]? = some (.cells #[.slice a 0 c] 25 (0, 0)) := heap_alloc_new u1 _
  have HKU := hide (HK1.out.trans (Kw.of_below (Nat.le_trans hBw HK1.out.bel.size) hb2))
  have HAU := hide (HA1.out.below hb2)
  have HSEQ := hide (strs_stops0 2 u1.heap.size B a c _ hdx)
  have hws : w.heap.size ≤ u1.heap.size := HK1.out.bel.size
  clear hb2 hdx HA1 HK1
  refine (wpIn_wide (n := 3)).1 ?_
  refine' wpIn_rangeFunc_ownH (n := 3) rfl (show 1 ≤ 3 by decide) (gf := 85) (lb := #[.pointer (some ⟨u1.heap.size, 0, none⟩)]) rfl trivial (enters_of Tryz.func85 (by kernel_rfl) rfl)
    HSEQ.out kpg_t (kpg_b (by simp; omega) (by simp)) (Below.refl _ _) (fun x => x.elim0)
    (fun pre W => WrA W B q L1 ∧ Kw B w W)
    (fun _ _ _ => False)
    ?hI (fun _ _ _ _ _ hs _ _ => hs) ?h0
    (fun x a' W => False)
    ?hAx ?assign ?body ?done ?stop
  case hI => exact OwnFrom.and (Go.Own.from (wrAt_own B q (fun _ : List (Fin 0) => L1)) _) (ownFrom_kw hBw (by simp; omega))
  case h0 => exact ⟨HAU.out, HKU.out⟩
  case hAx => intro x; exact x.elim0
  case assign => intro l pre x; exact x.elim0
  case body => intro l pre x; exact x.elim0
  case done =>
    rintro D ys W hD rfl ⟨hi1, hi4⟩ hK
    have HI1 := hide hi1
    have HI4 := hide hi4
    have HKD := hide hK
    clear hi1 hi4 hK
    go_wp2
    refine ⟨by simp, .inl ⟨_, _, rfl, run_takeDeferred HKD.out, ?_⟩⟩
    refine ⟨.tuple #[], by simp [results, Tryz.results41, go_sem], rfl, ?_, ?_⟩
    · exact OwnFrom.putObj (Go.Own.from (wrAt_own (β := Unit) B q (fun _ => L1)) _) (s := ()) _ HI1.out hD HKD.out rfl
    · exact OwnFrom.putObj (ownFrom_kw (β := Unit) hBw (by simp; omega)) (s := ()) _ HI4.out hD HKD.out rfl
  case stop =>
    rintro D c pre W _ _ h _
    exact h.elim
theorem Reads.lowP {w w' : World} {a : Option Addr} {len B : Nat} {zs : List Int} (h : Reads w a len zs) (hlow : ∀ x, a = some x → 0 < len → x.block < B) (hk : Below B w w') : Reads w' a len zs := by
  rcases Nat.eq_zero_or_pos len with h0 | h0
  · subst h0
    exact ⟨h.1, h.2.1, h.2.2.1, fun x hx i hi => absurd hi (Nat.not_lt_zero _)⟩
  · exact h.low (fun x hx => hlow x hx h0) hk
/-- A file's data. -/
theorem data_w (B q n c : Nat) (a : Option Addr) (laid : List Int) (zs : List Int) (w : World) (hW : WrA w B q laid) (hl : laid.length ≤ 40000000000000) (hr : Reads w a n zs) (hn : n ≤ 16777216) (hnc : n ≤ c) (hc : c ≤ 9223372036854775807) (hlow : ∀ x, a = some x → 0 < n → x.block < B) :
    Calls Tryz.prog 41 #[.pointer (some ⟨q, 0, none⟩), .slice a n c] w fun e w' => e = .returned (.tuple #[]) ∧ WrA w' B q (laid ++ encD zs) ∧ Kw B w w' := by
  rcases Nat.eq_zero_or_pos n with h0 | h0
  · subst h0
    have hz : zs = [] := List.eq_nil_of_length_eq_zero hr.1
    subst hz
    exact data_none B q c a laid w hW hl
  · obtain ⟨bk, off, rfl, _, _⟩ := hr.pos h0
    exact data_some B q bk off n c laid zs w hW hl hr hn hnc hc (hlow _ rfl h0)
end Go.Proofs.YtdiifegljonojaaGreatDoor
