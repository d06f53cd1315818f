/-
  SEAT YtdiifegljonojaaGreatDoor: a range over data's stretches.
-/
import Derived.Test.YtdiifegljonojaaGreatDoorWp
import Derived.Test.YtdiifegljonojaaGreatDoorRb
import Derived.RangeFuncNested
import Derived.RangeFuncBound
import Derived.RangeFuncCalls
import Derived.RangeFuncLeaves
import Derived.Maps.AppendAt
import Derived.Shelf.Abstract
import Derived.OwnWalkIn
import Derived.LoopIn
namespace Go.Proofs.YtdiifegljonojaaGreatDoor
open Go.RowKit Go.Shelf
set_option linter.unusedVariables false

/-- A stretch in memory. -/
def Sr.val (bk off c : Nat) (s : Sr) : Value := .agg #[.int .i64 (s.pos : Int), .int .i64 (s.len : Int), if s.hole then .slice none 0 0 else .slice (some ⟨bk, off + s.pos, none⟩) s.len (c - s.pos)]
abbrev encS (bk off c : Nat) (L : List Sr) (N : Nat) (hN : L.length = N) : Fin N → Array Value := fun i => #[(L[i.val]'(by rw [hN]; exact i.isLt)).val bk off c]
def upF (N k : Nat) : List (Fin N) := (List.finRange N).take k
theorem upF_succ (N k : Nat) (h : k < N) : upF N k ++ [⟨k, h⟩] = upF N (k + 1) := by
  unfold upF
  rw [List.take_succ_eq_append_getElem (by simpa using h)]
  simp
theorem upF_len (N k : Nat) (h : k ≤ N) : (upF N k).length = k := by simp [upF]; omega
theorem upF_all (N : Nat) : upF N N = List.finRange N := List.take_of_length_le (by simp)
/-- What a round keeps. -/
def Kpg (n₀ Bm : Nat) (A B : World) : Prop := Below n₀ A B ∧ ∀ o, A.heap[Bm]? = some o → B.heap[Bm]? = some o
theorem kpg_t {n₀ Bm : Nat} {A B C : World} (h : Kpg n₀ Bm A B) (k : Kpg n₀ Bm B C) : Kpg n₀ Bm A C := ⟨h.1.trans k.1, fun o ho => k.2 o (h.2 o ho)⟩
theorem kpg_b {n₀ Bm : Nat} {w : World} (hn : n₀ ≤ w.heap.size) (hB : Bm < w.heap.size) (W : World) (l : Nat) (o o' : Obj) (hl : w.heap.size ≤ l) (h : W.heap[l]? = some o) (h1 : o.isCells = false) (h2 : o.isWalk = false) : Kpg n₀ Bm W (W.putObj l o') :=
  ⟨belowK_b hn W l o o' hl h h1 h2, fun q hq => (World.putObj_heap_other (by omega)).trans hq⟩

theorem drop_cons {α : Type} {L r : List α} {j : Nat} {x : α} (h : L.drop j = x :: r) : ∃ hj : j < L.length, L[j] = x ∧ L.drop (j + 1) = r := by
  have hj : j < L.length := by
    apply Decidable.byContradiction
    intro h9
    rw [List.drop_eq_nil_of_le (by omega)] at h
    cases h
  rw [List.drop_eq_getElem_cons hj] at h
  injection h with h1 h2
  exact ⟨hj, h1, h2⟩
theorem yield_of {nn l Bd n₀ bk off c : Nat} {L r : List Sr} {N : Nat} (hN : L.length = N) {J Jx : List (Fin N) → World → Prop} {W1 : World}
    (hY : ∀ pre x W1, J pre W1 → pre.length < N → YieldAt Fence.wide (nn - 1) Tryz.prog l (encS bk off c L N hN x) W1 fun e W' =>
      (e = .returned (.bool true) ∧ J (pre ++ [x]) W' ∧ Kpg n₀ Bd W1 W') ∨ (e = .returned (.bool false) ∧ Jx (pre ++ [x]) W'))
    {j : Nat} {x : Sr} (hjN : j ≤ N) (hd : L.drop j = x :: r) (hJ : J (upF N j) W1) :
    j + 1 ≤ N ∧ L.drop (j + 1) = r ∧ YieldAt Fence.wide (nn - 1) Tryz.prog l #[x.val bk off c] W1 fun e W' => (e = .returned (.bool true) ∧ J (upF N (j + 1)) W' ∧ Kpg n₀ Bd W1 W') ∨ (e = .returned (.bool false) ∧ Jx (upF N (j + 1)) W') := by
  obtain ⟨hj, h1, h2⟩ := drop_cons hd
  rw [hN] at hj
  have h3 := hY (upF N j) ⟨j, hj⟩ W1 hJ (by rw [upF_len N j hjN]; exact hj)
  rw [upF_succ N j hj] at h3
  have he : encS bk off c L N hN ⟨j, hj⟩ = #[x.val bk off c] := by
    show #[Sr.val bk off c (L[j]'_)] = _
    rw [h1]
  rw [he] at h3
  exact ⟨hj, h2, h3⟩

attribute [local go_sem] Oper.semAt_some

set_option maxHeartbeats 4000000 in
set_option maxRecDepth 100000 in
theorem strs_in (nn l Bd n₀ bk off n c : Nat) (zs : List Int) (L : List Sr) (N : Nat) (hN : L.length = N) (hL : L = cuts zs) (hl : zs.length = n) (hn : n ≤ 16777216) (hnc : n ≤ c) (hc : c ≤ 9223372036854775807) (hbk : bk < n₀)
    (J Jx : List (Fin N) → World → Prop) (W : World)
    (hY : ∀ pre x W1, J pre W1 → pre.length < N → YieldAt Fence.wide (nn - 1) Tryz.prog l (encS bk off c L N hN x) W1 fun e W' =>
      (e = .returned (.bool true) ∧ J (pre ++ [x]) W' ∧ Kpg n₀ Bd W1 W') ∨ (e = .returned (.bool false) ∧ Jx (pre ++ [x]) W'))
    (hBd : W.heap[Bd]? = some (.cells #[.slice (some ⟨bk, off, none⟩) n c] 25 (0, 0))) (hr : Reads W (some ⟨bk, off, none⟩) n zs) (h0 : J [] W) :
    CallsIn Fence.wide nn Tryz.prog 85 #[.func (.yield l) #[] #[], .pointer (some ⟨Bd, 0, none⟩)] W fun e W' => (∃ v, e = .returned v) ∧ ((∃ ys, ys = List.finRange N ∧ J ys W') ∨ (∃ pre, pre <+: List.finRange N ∧ Jx pre W')) := by
  have hfw : ∀ f, Fence.wide.fn f := fun _ => trivial
  have hdw : Fence.wide.depth.isSome = false := rfl
  have hY' : Hid _ := hY
  have HBD := hide hBd
  have HR := hide hr
  have HLZ := hide hl
  have HLL := hide hL
  have HNN := hide hN
  clear hY hBd hr hl hL
  refine callsIn_of_wp Tryz.func85 rfl trivial ?_ rfl
  simp only [Tryz.ntmps85, List.size_toArray, List.length_cons, List.length_nil, Nat.reduceAdd, Nat.reduceSub, Array.replicate_succ, Array.replicate_zero, List.push_toArray, List.append_toArray, List.nil_append, List.cons_append]
  gi_wp2
  gi_loopw [3] (fun v wr => ∃ k j : Nat, k ≤ n ∧ j ≤ N ∧ v = .int .i64 (k : Int) ∧ Hid (wr.heap[Bd]? = some (.cells #[.slice (some ⟨bk, off, none⟩) n c] 25 (0, 0))) ∧ Hid (Reads wr (some ⟨bk, off, none⟩) n zs) ∧ Hid (L.drop j = cutsFrom zs k) ∧ J (upF N j) wr)
    (fun v _ => n - (intOf v).toNat)
  case atStart => exact ⟨0, 0, Nat.zero_le _, Nat.zero_le _, rfl, HBD, HR, (by unfold Hid; rw [HLL.out]; rfl), h0⟩
  case round =>
    obtain ⟨k, j, hk, hjN, rfl, HBr, HRr, HDr, hJr⟩ := hrel
    obtain ⟨c0, f0⟩ := blk1_cells HBr.out
    by_cases hlt : k < n
    · have hd2 : (k : Int) < (n : Int) := by omega
      have hkz : k < zs.length := by rw [HLZ.out]; exact hlt
      obtain ⟨A, hA⟩ : ∃ A, fhAt zs k = A := ⟨_, rfl⟩
      obtain ⟨E, hE⟩ : ∃ E, enAt zs k = E := ⟨_, rfl⟩
      have hkA : k ≤ A := by rw [← hA]; exact fhAt_ge (Nat.le_of_lt hkz)
      have hAn : A ≤ n := by rw [← hA, ← HLZ.out]; exact fhAt_le zs k
      have hAE : A ≤ E := by rw [← hA, ← hE]; unfold enAt; omega
      have hEn : E ≤ n := by rw [← hE, ← HLZ.out]; exact enAt_le zs k
      have hkE : k < E := by rw [← hE]; exact enAt_gt hkz
      have hst := cuts_step hkz
      rw [hA, hE] at hst
      have HST : Hid (L.drop j = (if k < A then [⟨k, A - k, false⟩] else []) ++ (if A < E then [⟨A, E - A, true⟩] else []) ++ cutsFrom zs E) := by unfold Hid; rw [HDr.out]; exact hst
      have HFH : Hid (∀ u, Reads u (some ⟨bk, off, none⟩) n zs → Calls Tryz.prog 86 #[.slice (some ⟨bk, off, none⟩) n c, .int .i64 (k : Int)] u fun e w' => e = .returned (.tuple #[.int .i64 (A : Int), .int .i64 (E : Int)]) ∧ w' = u) := by
        intro u hu
        refine (firstHole_any (some ⟨bk, off, none⟩) n c k zs u (by omega) hu hk).mono ?_
        rintro e w' ⟨rfl, rfl⟩
        refine ⟨?_, rfl⟩
        rw [← hE]
        unfold enAt
        rw [hA]
      clear hst hkz hA hE
      have hck : ¬ c = k := by omega
      have hkc : (k : Int) ≤ (c : Int) := by omega
      have hAc : (A : Int) ≤ (c : Int) := by omega
      by_cases h1 : k < A
      · have i1 : (k : Int) < (A : Int) := by omega
        obtain ⟨D, hD⟩ : ∃ D, A - k = D := ⟨_, rfl⟩
        have i2 : IntKind.i64.wrap ((A : Int) - (k : Int)) = (D : Int) := by rw [IntKind.wrap_i64]; omega
        have i2' : (A : Int) - (k : Int) = (D : Int) := by omega
        have i3 : (k : Int) ≤ (A : Int) := by omega
        by_cases h2 : A < E
        · have i4 : (A : Int) < (E : Int) := by omega
          obtain ⟨D2, hD2⟩ : ∃ D2, E - A = D2 := ⟨_, rfl⟩
          have i5 : IntKind.i64.wrap ((E : Int) - (A : Int)) = (D2 : Int) := by rw [IntKind.wrap_i64]; omega
          have i5' : (E : Int) - (A : Int) = (D2 : Int) := by omega
          have hdr := HST.out
          rw [if_pos h1, if_pos h2, hD, hD2] at hdr
          obtain ⟨hj1, hr1, fn, tmps, assign, body, hy, hR⟩ := yield_of hN hY'.out hjN (show L.drop j = _ :: _ from hdr) hJr
          simp only [Sr.val, if_false, Bool.false_eq_true] at hy
          have HRD1 := hide hr1
          clear hdr hr1 hD2
          gi_wp2_with (first | (gi_at_call 86; refine CallsIn.mono (callsIn_wide.2 (HFH.out _ HRr.out)) ?_; rintro e u2 ⟨rfl, rfl⟩))
          refine hR.mono ?_
          rintro e W3 (⟨rfl, hJ3, hk3⟩ | ⟨rfl, hJx3⟩)
          · have HB3 := hide (hk3.2 _ HBr.out)
            have HR3 := hide (HRr.out.low (B := n₀) (fun x hx => by cases hx; exact hbk) hk3.1)
            obtain ⟨hj2, hr2, fn2, tmps2, assign2, body2, hy2, hR2⟩ := yield_of hN hY'.out hj1 (show L.drop (j + 1) = _ :: _ from HRD1.out) hJ3
            simp only [Sr.val, if_true] at hy2
            have HRD2 := hide hr2
            clear hr2 hy hR c0 f0
            obtain ⟨c0, f0⟩ := blk1_cells HB3.out
            gi_wp2
            refine hR2.mono ?_
            rintro e W4 (⟨rfl, hJ4, hk4⟩ | ⟨rfl, hJx3⟩)
            · have HB4 := hide (hk4.2 _ HB3.out)
              have HR4 := hide (HR3.out.low (B := n₀) (fun x hx => by cases hx; exact hbk) hk4.1)
              gi_wp2
              go_roundw
              case rel => exact ⟨E, j + 2, hEn, hj2, rfl, HB4, HR4, HRD2, hJ4⟩
              case measure => simp [intOf]; omega
            · gi_wp2
              refine bodyPost_ret (results_none rfl _ _ _) rfl ?_
              exact ⟨⟨_, rfl⟩, .inr ⟨upF N (j + 1 + 1), List.take_prefix _ _, hJx3⟩⟩
          · gi_wp2
            refine bodyPost_ret (results_none rfl _ _ _) rfl ?_
            exact ⟨⟨_, rfl⟩, .inr ⟨upF N (j + 1), List.take_prefix _ _, hJx3⟩⟩
        · have hEA : E = A := by omega
          have i4 : ¬ (A : Int) < (E : Int) := by omega
          have hdr := HST.out
          rw [if_pos h1, if_neg h2, hD] at hdr
          obtain ⟨hj1, hr1, fn, tmps, assign, body, hy, hR⟩ := yield_of hN hY'.out hjN (show L.drop j = _ :: _ from hdr) hJr
          simp only [Sr.val, if_false, Bool.false_eq_true] at hy
          have HRD1 := hide hr1
          clear hdr hr1 hEA
          gi_wp2_with (first | (gi_at_call 86; refine CallsIn.mono (callsIn_wide.2 (HFH.out _ HRr.out)) ?_; rintro e u2 ⟨rfl, rfl⟩))
          refine hR.mono ?_
          rintro e W3 (⟨rfl, hJ3, hk3⟩ | ⟨rfl, hJx3⟩)
          · have HB3 := hide (hk3.2 _ HBr.out)
            have HR3 := hide (HRr.out.low (B := n₀) (fun x hx => by cases hx; exact hbk) hk3.1)
            clear c0 f0
            obtain ⟨c0, f0⟩ := blk1_cells HB3.out
            gi_wp2
            go_roundw
            case rel => exact ⟨E, j + 1, hEn, hj1, rfl, HB3, HR3, HRD1, hJ3⟩
            case measure => simp [intOf]; omega
          · gi_wp2
            refine bodyPost_ret (results_none rfl _ _ _) rfl ?_
            exact ⟨⟨_, rfl⟩, .inr ⟨upF N (j + 1), List.take_prefix _ _, hJx3⟩⟩
      · have hkA2 : k = A := by omega
        have h2 : A < E := by omega
        have i1 : ¬ (k : Int) < (A : Int) := by omega
        have i4 : (A : Int) < (E : Int) := by omega
        obtain ⟨D2, hD2⟩ : ∃ D2, E - A = D2 := ⟨_, rfl⟩
        have i5 : IntKind.i64.wrap ((E : Int) - (A : Int)) = (D2 : Int) := by rw [IntKind.wrap_i64]; omega
        have i5' : (E : Int) - (A : Int) = (D2 : Int) := by omega
        have hdr := HST.out
        rw [if_neg h1, if_pos h2, hD2] at hdr
        obtain ⟨hj1, hr1, fn, tmps, assign, body, hy, hR⟩ := yield_of hN hY'.out hjN (show L.drop j = _ :: _ from hdr) hJr
        simp only [Sr.val, if_true] at hy
        have HRD1 := hide hr1
        clear hdr hr1 hD2 hkA2
        gi_wp2_with (first | (gi_at_call 86; refine CallsIn.mono (callsIn_wide.2 (HFH.out _ HRr.out)) ?_; rintro e u2 ⟨rfl, rfl⟩))
        refine hR.mono ?_
        rintro e W3 (⟨rfl, hJ3, hk3⟩ | ⟨rfl, hJx3⟩)
        · have HB3 := hide (hk3.2 _ HBr.out)
          have HR3 := hide (HRr.out.low (B := n₀) (fun x hx => by cases hx; exact hbk) hk3.1)
          clear c0 f0
          obtain ⟨c0, f0⟩ := blk1_cells HB3.out
          gi_wp2
          go_roundw
          case rel => exact ⟨E, j + 1, hEn, hj1, rfl, HB3, HR3, HRD1, hJ3⟩
          case measure => simp [intOf]; omega
        · gi_wp2
          refine bodyPost_ret (results_none rfl _ _ _) rfl ?_
          exact ⟨⟨_, rfl⟩, .inr ⟨upF N (j + 1), List.take_prefix _ _, hJx3⟩⟩
    · obtain rfl : k = n := by omega
      have i1 : ¬ (k : Int) < (k : Int) := by omega
      have hde := HDr.out
      rw [cuts_end (by rw [HLZ.out]; exact Nat.le_refl _)] at hde
      have hjj : j = N := by
        have h9 := congrArg List.length hde
        rw [List.length_drop, hN] at h9
        simp at h9
        omega
      subst hjj
      gi_wp2
      go_end0
      refine ⟨⟨_, rfl⟩, .inl ?_⟩
      rw [← upF_all j]
      exact hJr
/-- The stretches, one behind the other. -/
theorem strs_stops (nn Bd n₀ bk off n c : Nat) (zs : List Int) (L : List Sr) (N : Nat) (hN : L.length = N) (hL : L = cuts zs) (hl : zs.length = n) (hn : n ≤ 16777216) (hnc : n ≤ c) (hc : c ≤ 9223372036854775807) (hbk : bk < n₀)
    (w : World) (hBd : w.heap[Bd]? = some (.cells #[.slice (some ⟨bk, off, none⟩) n c] 25 (0, 0))) (hr : Reads w (some ⟨bk, off, none⟩) n zs) :
    SeqStopsK Fence.wide nn Tryz.prog 85 #[.pointer (some ⟨Bd, 0, none⟩)] (encS bk off c L N hN) (Kpg n₀ Bd) (fun ys => ys = List.finRange N) (fun pre => pre <+: List.finRange N) N w := fun l J Jx W hW hAJ hAx hY h0 =>
  strs_in nn l Bd n₀ bk off n c zs L N hN hL hl hn hnc hc hbk J Jx W hY ((hW.block Bd (Array.getElem?_eq_some_iff.1 hBd).1).trans hBd) (hr.below hW) h0

theorem stretches_any (a : Option Addr) (n c : Nat) (w : World) :
    Calls Tryz.prog 67 #[.slice a n c] w fun e w' => e = .returned (.func (.func 85) #[] #[.pointer (some ⟨w.heap.size, 0, none⟩)]) ∧ w' = w.alloc (.cells #[.slice a n c] 25) := by
  go_enter Tryz.func67, Tryz.ntmps67
  go_wp2
  go_ret
  exact ⟨rfl, rfl⟩
end Go.Proofs.YtdiifegljonojaaGreatDoor
