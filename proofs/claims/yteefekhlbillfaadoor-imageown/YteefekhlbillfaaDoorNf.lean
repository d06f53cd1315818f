/-
  SEAT YteefekhlbillfaaDoor: a range over an image's pages.
-/
import Derived.Test.YteefekhlbillfaaDoorNe
import Derived.RangeFuncNested
import Derived.RangeFuncBound
import Derived.RangeFuncCalls
import Derived.RangeFuncLeaves
import Derived.Maps.AppendAt
import Derived.Shelf.Abstract
import Derived.OwnWalkIn
import Derived.LoopIn
namespace Go.Proofs.YteefekhlbillfaaDoor
open Go.RowKit Go.Shelf
set_option linter.unusedVariables false

/-- What a page's round hands over. -/
abbrev encW (bk off L c N : Nat) : Fin N → Array Value := fun k => #[.int .i64 (k.val : Int), .slice (some ⟨bk, off + k.val * L, none⟩) L (c - k.val * L)]

/-- The first of them. -/
def upF (N k : Nat) : List (Fin N) := (List.finRange N).take k
theorem upF_succ (N k : Nat) (h : k < N) : upF N k ++ [⟨k, h⟩] = upF N (k + 1) := by
  unfold upF
  rw [List.take_succ_eq_append_getElem (by simpa using h)]
  simp
theorem upF_len (N k : Nat) (h : k ≤ N) : (upF N k).length = k := by simp [upF]; omega
theorem upF_all (N : Nat) : upF N N = List.finRange N := List.take_of_length_le (by simp)

/-- What a round keeps. -/
def Kpg (n₀ Bm : Nat) (A B : World) : Prop := Below n₀ A B ∧ ∀ o, A.heap[Bm]? = some o → B.heap[Bm]? = some o

theorem kpg_t {n₀ Bm : Nat} {A B C : World} (h : Kpg n₀ Bm A B) (k : Kpg n₀ Bm B C) : Kpg n₀ Bm A C := ⟨h.1.trans k.1, fun o ho => k.2 o (h.2 o ho)⟩
theorem kpg_b {n₀ Bm : Nat} {w : World} (hn : n₀ ≤ w.heap.size) (hB : Bm < w.heap.size) (W : World) (l : Nat) (o o' : Obj) (hl : w.heap.size ≤ l) (h : W.heap[l]? = some o) (h1 : o.isCells = false) (h2 : o.isWalk = false) : Kpg n₀ Bm W (W.putObj l o') :=
  ⟨belowK_b hn W l o o' hl h h1 h2, fun q hq => (World.putObj_heap_other (by omega)).trans hq⟩

attribute [local go_sem] Oper.semAt_some

set_option maxHeartbeats 2000000 in
set_option maxRecDepth 100000 in
theorem pages1_in (nn l Bm n₀ : Nat) (b p s : Int) (bk off n c : Nat) (a' : Option Addr) (m c' N L : Nat) (hf : Fits b p s = true) (hN : b * p = (N : Int)) (hL : (L : Int) = 256 * s + (54 + 3 * s)) (hn : n = N * L) (hnc : n ≤ c) (hc : c ≤ 9223372036854775807)
    (J Jx : List (Fin N) → World → Prop) (W : World) (hAJ : AbidesFrom W.heap.size J)
    (hY : ∀ pre x W1, J pre W1 → pre.length < N → YieldAt Fence.wide (nn - 1) Tryd.prog l (encW bk off L c N x) W1 fun e W' =>
      (e = .returned (.bool true) ∧ J (pre ++ [x]) W' ∧ Kpg n₀ Bm W1 W') ∨ (e = .returned (.bool false) ∧ Jx (pre ++ [x]) W'))
    (hBm : W.heap[Bm]? = some (.cells #[.int .i64 b, .int .i64 p, .int .i64 s, .slice (some ⟨bk, off, none⟩) n c, .slice a' m c'] 30 (0, 0))) (h0 : J [] W) :
    CallsIn Fence.wide nn Tryd.prog 65 #[.func (.yield l) #[] #[], .pointer (some ⟨Bm, 0, none⟩)] W fun e W' => (∃ v, e = .returned v) ∧ ((∃ ys, ys = List.finRange N ∧ J ys W') ∨ (∃ pre, pre <+: List.finRange N ∧ Jx pre W')) := by
  obtain ⟨q1, q2, q3, q4, q5, q6, q7, q8⟩ := fits_all hf
  have hN1 : N ≤ 65536 := by omega
  have hL1 : L ≤ 2200 := by omega
  have hnL : n ≤ 140737488355000 := by rw [hn]; have := Nat.mul_le_mul hN1 hL1; omega
  have hc5 : ∀ X : World, X.heap[Bm]? = some (.cells #[.int .i64 b, .int .i64 p, .int .i64 s, .slice (some ⟨bk, off, none⟩) n c, .slice a' m c'] 30 (0, 0)) → X.cell? ⟨Bm, 0, none⟩ = some (.int .i64 b) ∧ X.cell? ⟨Bm, 1, none⟩ = some (.int .i64 p) ∧ X.cell? ⟨Bm, 2, none⟩ = some (.int .i64 s) ∧ X.cell? ⟨Bm, 3, none⟩ = some (.slice (some ⟨bk, off, none⟩) n c) ∧ X.cell? ⟨Bm, 4, none⟩ = some (.slice a' m c') := by
    intro X h
    refine ⟨?_, ?_, ?_, ?_, ?_⟩ <;> simp [World.cell?, h]
  have HC5 : Hid _ := hc5
  have HJ : Hid (AbidesFrom W.heap.size J) := hAJ
  have HN : Hid (b * p = (N : Int)) := hN
  have HL : Hid ((L : Int) = 256 * s + (54 + 3 * s)) := hL
  have Hn : Hid (n = N * L) := hn
  have HF : Hid (Fits b p s = true) := hf
  have hfw : ∀ f, Fence.wide.fn f := fun _ => trivial
  have hdw : Fence.wide.depth.isSome = false := rfl
  obtain ⟨e0, e1, e2, e3, e4⟩ := hc5 W hBm
  have HB : Hid _ := hBm
  have hY' : Hid _ := hY
  have Hq : Hid (0 ≤ b * p ∧ b * p ≤ 65536) := ⟨q7, q8⟩
  clear hc5 hAJ hN hL hn hf hBm hY q1 q2 q3 q4 q5 q6 q7 q8
  refine callsIn_of_wp Tryd.func65 rfl trivial ?_ rfl
  simp only [Tryd.ntmps65, List.size_toArray, List.length_cons, List.length_nil, Nat.reduceAdd, Nat.reduceSub, Array.replicate_succ, Array.replicate_zero, List.push_toArray, List.append_toArray, List.nil_append, List.cons_append]
  gi_wp2_with (first | (gi_at_call 36; refine CallsIn.mono (callsIn_wide.2 (pagesIn_any b p s _ Hq.out.1 Hq.out.2)) ?_; rintro e u1 ⟨rfl, b1⟩; rw [HN.out]))
  have hB1 : Hid (u1.heap[Bm]? = _) := (b1.block Bm (Array.getElem?_eq_some_iff.1 HB.out).1).trans HB.out
  have hJ1 : J [] u1 := HJ.out [] W u1 none h0 (grown_of b1 none) (fun r e => by cases e)
  gi_loopw [7] (fun v wr => ∃ k : Nat, k ≤ N ∧ v = .int .i64 (k : Int) ∧ Hid (wr.heap[Bm]? = some (.cells #[.int .i64 b, .int .i64 p, .int .i64 s, .slice (some ⟨bk, off, none⟩) n c, .slice a' m c'] 30 (0, 0))) ∧ J (upF N k) wr)
    (fun v _ => N - (intOf v).toNat)
  case atStart => exact ⟨0, Nat.zero_le _, rfl, hB1, hJ1⟩
  case round =>
    obtain ⟨k, hk, rfl, hBr, hJr⟩ := hrel
    by_cases hlt : k < N
    · clear e0 e1 e2 e3 e4
      obtain ⟨e0, e1, e2, e3, e4⟩ := HC5.out _ hBr.out
      have hd1 : decide ((k : Int) < (N : Int)) = true := decide_eq_true (by omega)
      have hd2 : (k : Int) < (N : Int) := by omega
      have hk1 : Hid ((k + 1) * L ≤ n) := by unfold Hid; rw [Hn.out]; exact Nat.mul_le_mul_right L hlt
      clear hB1 hJ1
      gi_wp2_with (first | (gi_at_call 44; refine CallsIn.mono (callsIn_wide.2 (window_any b p s bk off a' n c m c' _ k L (k * L) ((k + 1) * L) hc hnc HF.out HL.out rfl rfl hk1.out hnL (by omega))) ?_; rintro e u2 ⟨rfl, b2⟩; have hJ2 : J (upF N k) u2 := (HJ.out (upF N k) _ u2 none hJr (grown_of b2 none) (fun r e => by cases e)); have hB2 : Hid (u2.heap[Bm]? = _) := ((b2.block Bm (Array.getElem?_eq_some_iff.1 hBr.out).1).trans hBr.out); obtain ⟨fn, tmps, assign, body, hy, hR⟩ := hY'.out (upF N k) ⟨k, hlt⟩ u2 hJ2 (by rw [upF_len N k hk]; exact hlt); dsimp only [encW] at hy))
      refine hR.mono ?_
      rintro e W3 (⟨rfl, hJ3, hk3⟩ | ⟨rfl, hJx3⟩)
      · have hB3 : Hid (W3.heap[Bm]? = _) := hk3.2 _ hB2.out
        gi_wp2
        go_roundw
        case rel => exact ⟨k + 1, by omega, by go_num, hB3, by rw [← upF_succ N k hlt]; exact hJ3⟩
        case measure => simp [intOf]; omega
      · gi_wp2
        refine bodyPost_ret (results_none rfl _ _ _) rfl ?_
        refine ⟨⟨_, rfl⟩, .inr ⟨upF N k ++ [⟨k, hlt⟩], ?_, hJx3⟩⟩
        rw [upF_succ N k hlt]
        exact List.take_prefix _ _
    · obtain rfl : k = N := by omega
      gi_wp2
      go_end0
      exact ⟨⟨_, rfl⟩, .inl ⟨upF k k, upF_all k, hJr⟩⟩

/-- The pages, one behind the other. -/
theorem pages_stops (nn Bm n₀ : Nat) (b p s : Int) (bk off n c : Nat) (a' : Option Addr) (m c' N L : Nat) (hf : Fits b p s = true) (hN : b * p = (N : Int)) (hL : (L : Int) = 256 * s + (54 + 3 * s)) (hn : n = N * L) (hnc : n ≤ c) (hc : c ≤ 9223372036854775807)
    (w : World) (hBm : w.heap[Bm]? = some (.cells #[.int .i64 b, .int .i64 p, .int .i64 s, .slice (some ⟨bk, off, none⟩) n c, .slice a' m c'] 30 (0, 0))) :
    SeqStopsK Fence.wide nn Tryd.prog 65 #[.pointer (some ⟨Bm, 0, none⟩)] (encW bk off L c N) (Kpg n₀ Bm) (fun ys => ys = List.finRange N) (fun pre => pre <+: List.finRange N) N w := fun l J Jx W hW hAJ hAx hY h0 =>
  pages1_in nn l Bm n₀ b p s bk off n c a' m c' N L hf hN hL hn hnc hc J Jx W hAJ hY ((hW.block Bm (Array.getElem?_eq_some_iff.1 hBm).1).trans hBm) h0

theorem pages_any (b p s : Int) (a : Option Addr) (n c : Nat) (a' : Option Addr) (m c' : Nat) (w : World) :
    Calls Tryd.prog 40 #[.agg #[.int .i64 b, .int .i64 p, .int .i64 s, .slice a n c, .slice a' m c']] w fun e w' => e = .returned (.func (.func 65) #[] #[.pointer (some ⟨w.heap.size, 0, none⟩)]) ∧ w' = w.alloc (.cells #[.int .i64 b, .int .i64 p, .int .i64 s, .slice a n c, .slice a' m c'] 30) := by
  go_enter Tryd.func40, Tryd.ntmps40
  go_wp2
  go_ret
  exact ⟨rfl, rfl⟩

end Go.Proofs.YteefekhlbillfaaDoor
