/-
  SEAT YtnmnhgagnfodhaaDoor: Nf, Ng, Nh, Ra.
-/
import Derived.Test.YtnmnhgagnfodhaaDoorMbb
import Derived.RangeFuncNested
import Derived.RangeFuncBound
import Derived.RangeFuncCalls
import Derived.RangeFuncLeaves
import Derived.Maps.AppendAt
import Derived.Shelf.Abstract
import Derived.OwnWalkIn
import Derived.LoopIn
import Derived.Deep.RegionHeld3
namespace Go.Proofs.YtnmnhgagnfodhaaDoor
open Go.RowKit Go.Shelf
set_option linter.unusedVariables false
abbrev encW (bk off L c N : Nat) : Fin N → Array Value := fun k => #[.int .i64 (k.val : Int), .slice (some ⟨bk, off + k.val * L, none⟩) L (c - k.val * L)]
def upF (N k : Nat) : List (Fin N) := (List.finRange N).take k
theorem upF_succ (N k : Nat) (h : k < N) : upF N k ++ [⟨k, h⟩] = upF N (k + 1) := by
 unfold upF
 rw [List.take_succ_eq_append_getElem (by simpa using h)]
 simp
theorem upF_len (N k : Nat) (h : k ≤ N) : (upF N k).length = k := by simp [upF]; omega
theorem upF_all (N : Nat) : upF N N = List.finRange N := List.take_of_length_le (by simp)
def Kpg (n₀ Bm : Nat) (A B : World) : Prop := Below n₀ A B ∧ ∀ o, A.heap[Bm]? = some o → B.heap[Bm]? = some o
theorem kpg_t {n₀ Bm : Nat} {A B C : World} (h : Kpg n₀ Bm A B) (k : Kpg n₀ Bm B C) : Kpg n₀ Bm A C := ⟨h.1.trans k.1, fun o ho => k.2 o (h.2 o ho)⟩
theorem kpg_b {n₀ Bm : Nat} {w : World} (hn : n₀ ≤ w.heap.size) (hB : Bm < w.heap.size) (W : World) (l : Nat) (o o' : Obj) (hl : w.heap.size ≤ l) (h : W.heap[l]? = some o) (h1 : o.isCells = false) (h2 : o.isWalk = false) : Kpg n₀ Bm W (W.putObj l o') :=
 ⟨belowK_b hn W l o o' hl h h1 h2, fun q hq => (World.putObj_heap_other (by omega)).trans hq⟩
attribute [local go_sem] Oper.semAt_some
set_option maxHeartbeats 2000000 in
set_option maxRecDepth 100000 in
theorem pages1_in (nn l Bm n₀ : Nat) (b p s : Int) (bk off n c : Nat) (a' : Option Addr) (m c' N L : Nat) (hf : Fits b p s = true) (hN : b * p = (N : Int)) (hL : (L : Int) = 256 * s + (54 + 3 * s)) (hn : n = N * L) (hnc : n ≤ c) (hc : c ≤ 9223372036854775807)
  (J Jx : List (Fin N) → World → Prop) (W : World) (hAJ : AbidesFrom W.heap.size J)
  (hY : ∀ pre x W1, J pre W1 → pre.length < N → YieldAt Fence.wide (nn - 1) Tryd.prog l (encW bk off L c N x) W1 fun e W' =>
   (e = .returned (.bool true) ∧ J (pre ++ [x]) W' ∧ Kpg n₀ Bm W1 W') ∨ (e = .returned (.bool false) ∧ Jx (pre ++ [x]) W'))
  (hBm : W.heap[Bm]? = some (.cells #[.int .i64 b, .int .i64 p, .int .i64 s, .slice (some ⟨bk, off, none⟩) n c, .slice a' m c'] 35 (0, 0))) (h0 : J [] W) :
  CallsIn Fence.wide nn Tryd.prog 59 #[.func (.yield l) #[] #[], .pointer (some ⟨Bm, 0, none⟩)] W fun e W' => (∃ v, e = .returned v) ∧ ((∃ ys, ys = List.finRange N ∧ J ys W') ∨ (∃ pre, pre <+: List.finRange N ∧ Jx pre W')) := by
 obtain ⟨q1, q2, q3, q4, q5, q6, q7, q8⟩ := fits_all hf
 have hN1 : N ≤ 65536 := by omega
 have hL1 : L ≤ 2200 := by omega
 have hnL : n ≤ 140737488355000 := by rw [hn]; have := Nat.mul_le_mul hN1 hL1; omega
 have hc5 : ∀ X : World, X.heap[Bm]? = some (.cells #[.int .i64 b, .int .i64 p, .int .i64 s, .slice (some ⟨bk, off, none⟩) n c, .slice a' m c'] 35 (0, 0)) → X.cell? ⟨Bm, 0, none⟩ = some (.int .i64 b) ∧ X.cell? ⟨Bm, 1, none⟩ = some (.int .i64 p) ∧ X.cell? ⟨Bm, 2, none⟩ = some (.int .i64 s) ∧ X.cell? ⟨Bm, 3, none⟩ = some (.slice (some ⟨bk, off, none⟩) n c) ∧ X.cell? ⟨Bm, 4, none⟩ = some (.slice a' m c') := by
  intro X h
  refine ⟨?_, ?_, ?_, ?_, ?_⟩ <;> simp [World.cell?, h]
 have HC5 : Hid _ := hc5
 have HJ : Hid (AbidesFrom W.heap.size J) := hAJ
 have HN : Hid (b * p = (N : Int)) := hN
 have HL : Hid ((L : Int) = 256 * s + (54 + 3 * s)) := hL
 have Hn : Hid (n = N * L) := hn
 have HF : Hid (Fits b p s = true) := hf
 have hfw : ∀ f, Fence.wide.fn f := fun _ => trivial
 have hdw : Fence.wide.depth.isSome = false := rfl
 obtain ⟨e0, e1, e2, e3, e4⟩ := hc5 W hBm
 have HB : Hid _ := hBm
 have hY' : Hid _ := hY
 have Hq : Hid (0 ≤ b * p ∧ b * p ≤ 65536) := ⟨q7, q8⟩
 clear hc5 hAJ hN hL hn hf hBm hY q1 q2 q3 q4 q5 q6 q7 q8
 refine callsIn_of_wp Tryd.func59 rfl trivial ?_ rfl
 simp only [Tryd.ntmps59, List.size_toArray, List.length_cons, List.length_nil, Nat.reduceAdd, Nat.reduceSub, Array.replicate_succ, Array.replicate_zero, List.push_toArray, List.append_toArray, List.nil_append, List.cons_append]
 gi_wp2_with (first | (gi_at_call 45; refine CallsIn.mono (callsIn_wide.2 (pagesIn_any b p s _ Hq.out.1 Hq.out.2)) ?_; rintro e u1 ⟨rfl, b1⟩; rw [HN.out]))
 have hB1 : Hid (u1.heap[Bm]? = _) := (b1.block Bm (Array.getElem?_eq_some_iff.1 HB.out).1).trans HB.out
 have hJ1 : J [] u1 := HJ.out [] W u1 none h0 (grown_of b1 none) (fun r e => by cases e)
 gi_loopw [7] (fun v wr => ∃ k : Nat, k ≤ N ∧ v = .int .i64 (k : Int) ∧ Hid (wr.heap[Bm]? = some (.cells #[.int .i64 b, .int .i64 p, .int .i64 s, .slice (some ⟨bk, off, none⟩) n c, .slice a' m c'] 35 (0, 0))) ∧ J (upF N k) wr)
  (fun v _ => N - (intOf v).toNat)
 case atStart => exact ⟨0, Nat.zero_le _, rfl, hB1, hJ1⟩
 case round =>
  obtain ⟨k, hk, rfl, hBr, hJr⟩ := hrel
  by_cases hlt : k < N
  ·clear e0 e1 e2 e3 e4
   obtain ⟨e0, e1, e2, e3, e4⟩ := HC5.out _ hBr.out
   have hd1 : decide ((k : Int) < (N : Int)) = true := decide_eq_true (by omega)
   have hd2 : (k : Int) < (N : Int) := by omega
   have hk1 : Hid ((k + 1) * L ≤ n) := by unfold Hid; rw [Hn.out]; exact Nat.mul_le_mul_right L hlt
   clear hB1 hJ1
   gi_wp2_with (first | (gi_at_call 31; refine CallsIn.mono (callsIn_wide.2 (window_any b p s bk off a' n c m c' _ k L (k * L) ((k + 1) * L) hc hnc HF.out HL.out rfl rfl hk1.out hnL (by omega))) ?_; rintro e u2 ⟨rfl, b2⟩; have hJ2 : J (upF N k) u2 := (HJ.out (upF N k) _ u2 none hJr (grown_of b2 none) (fun r e => by cases e)); have hB2 : Hid (u2.heap[Bm]? = _) := ((b2.block Bm (Array.getElem?_eq_some_iff.1 hBr.out).1).trans hBr.out); obtain ⟨fn, tmps, assign, body, hy, hR⟩ := hY'.out (upF N k) ⟨k, hlt⟩ u2 hJ2 (by rw [upF_len N k hk]; exact hlt); dsimp only [encW] at hy))
   refine hR.mono ?_
   rintro e W3 (⟨rfl, hJ3, hk3⟩ | ⟨rfl, hJx3⟩)
   ·have hB3 : Hid (W3.heap[Bm]? = _) := hk3.2 _ hB2.out
    gi_wp2
    go_roundw
    case rel => exact ⟨k + 1, by omega, by go_num, hB3, by rw [← upF_succ N k hlt]; exact hJ3⟩
    case measure => simp [intOf]; omega
   ·gi_wp2
    refine bodyPost_ret (results_none rfl _ _ _) rfl ?_
    refine ⟨⟨_, rfl⟩, .inr ⟨upF N k ++ [⟨k, hlt⟩], ?_, hJx3⟩⟩
    rw [upF_succ N k hlt]
    exact List.take_prefix _ _
  ·obtain rfl : k = N := by omega
   gi_wp2
   go_end0
   exact ⟨⟨_, rfl⟩, .inl ⟨upF k k, upF_all k, hJr⟩⟩
theorem pages_stops (nn Bm n₀ : Nat) (b p s : Int) (bk off n c : Nat) (a' : Option Addr) (m c' N L : Nat) (hf : Fits b p s = true) (hN : b * p = (N : Int)) (hL : (L : Int) = 256 * s + (54 + 3 * s)) (hn : n = N * L) (hnc : n ≤ c) (hc : c ≤ 9223372036854775807)
  (w : World) (hBm : w.heap[Bm]? = some (.cells #[.int .i64 b, .int .i64 p, .int .i64 s, .slice (some ⟨bk, off, none⟩) n c, .slice a' m c'] 35 (0, 0))) :
  SeqStopsK Fence.wide nn Tryd.prog 59 #[.pointer (some ⟨Bm, 0, none⟩)] (encW bk off L c N) (Kpg n₀ Bm) (fun ys => ys = List.finRange N) (fun pre => pre <+: List.finRange N) N w := fun l J Jx W hW hAJ hAx hY h0 =>
 pages1_in nn l Bm n₀ b p s bk off n c a' m c' N L hf hN hL hn hnc hc J Jx W hAJ hY ((hW.block Bm (Array.getElem?_eq_some_iff.1 hBm).1).trans hBm) h0
theorem pages_any (b p s : Int) (a : Option Addr) (n c : Nat) (a' : Option Addr) (m c' : Nat) (w : World) :
  Calls Tryd.prog 29 #[.agg #[.int .i64 b, .int .i64 p, .int .i64 s, .slice a n c, .slice a' m c']] w fun e w' => e = .returned (.func (.func 59) #[] #[.pointer (some ⟨w.heap.size, 0, none⟩)]) ∧ w' = w.alloc (.cells #[.int .i64 b, .int .i64 p, .int .i64 s, .slice a n c, .slice a' m c'] 35) := by
 go_enter Tryd.func29, Tryd.ntmps29
 go_wp2
 go_ret
 exact ⟨rfl, rfl⟩
end Go.Proofs.YtnmnhgagnfodhaaDoor
namespace Go.Proofs.YtnmnhgagnfodhaaDoor
open Go.RowKit
set_option linter.unusedVariables false
def noDefer (o : Oper) : Bool := match o.op with
 | .defer _ => false
 | _ => true
theorem noDefer_spec {o : Oper} (h : noDefer o = true) : ∀ c, o.op ≠ .defer c := by
 intro c e
 unfold noDefer at h
 rw [e] at h
 cases h
theorem rowsIn_round {n l : Nat} {P : Program} {row : String} {args : Array Value} {w : World} {R : Value → World → Prop} (h : Rows P row args w R) : RowsIn (Fence.wide.inRound l) n P row args w R := fun c cs _ => by
 obtain ⟨v, w', r, s⟩ := h c cs
 exact ⟨v, w', r, stepsIn_wide.2 s⟩
theorem oper_round {P : Program} {l n : Nat} {o : Oper} {a : Act} {w : World} {K : Act → World → Prop} {Q : Exit → Act → World → Prop} (hd : noDefer o = true) (h : o.wp P a w K Q) : o.wpIn (Fence.wide.inRound l) n P a w K Q := by
 unfold Oper.wpIn
 refine ⟨fun _ _ => trivial, ?_⟩
 rw [show (Fence.wide.inRound l).round = some l from rfl, Oper.semAt_some l _ _ (noDefer_spec hd)]
 unfold Oper.wp at h
 generalize (execOp a.eval o).run P w = r at *
 cases r with
 | ok x w' =>
  cases x <;> simp only [Oper.upon, Oper.uponIn] at h ⊢
  all_goals first
   | exact h
   | exact ⟨(fun e => by cases e), CallsIn.inRound l (callsIn_wide.2 h)⟩
   | exact ⟨(fun e => by cases e), rowsIn_round h⟩
 | halt x w' => cases x <;> simp only [Oper.upon, Oper.uponIn] at h ⊢ <;> exact h
theorem ops_round {P : Program} {l n : Nat} {ops : Array Oper} {Q : Exit → Act → World → Prop} (hd : ops.all noDefer = true) (hlo : ¬ LetsOut Q) : ∀ (r : List Nat) (a : Act) (w : World), wpOps P ops Q r a w → wpOpsIn (Fence.wide.inRound l) n P ops Q r a w := by
 intro r
 induction r with
 | nil => intro a w h; exact h
 | cons i r ih =>
  intro a w h
  simp only [wpOps, wpOpsIn] at h ⊢
  cases ho : ops[i]? with
  | none => rw [ho] at h; exact ih _ _ h
  | some o =>
   rw [ho] at h
   simp only at h ⊢
   have hdo : noDefer o = true := by
    obtain ⟨hi, he⟩ := Array.getElem?_eq_some_iff.1 ho
    rw [← he]
    exact (Array.all_eq_true.1 hd) i hi
   split
   ·next hw =>
    rw [if_pos hw] at h
    rcases h with h | h
    ·exact oper_round hdo (Oper.wp_mono (fun a w => ih a w) h)
    ·exact absurd h.2 hlo
   ·next hw =>
    rw [if_neg hw] at h
    exact ⟨fun _ _ => trivial, ih _ _ h⟩
theorem wpIn_region_round {P : Program} {ops : Array Oper} {Q : Exit → Act → World → Prop} {S : World → Prop} {id l n : Nat} {a : Act} {w : World} (hm : P.follows .mixedOrders = true) (hd : ops.all noDefer = true) (hlo : ¬ LetsOut Q) (hS : S w.drew)
  (h : S w.drew → wpAnyH P .any ops Q S ops.size (Array.replicate ops.size false) a w.drew) : (Code.region id ops true).wpIn (Fence.wide.inRound l) n P Q a w :=
 wpIn_region_draw fun t => by
  simp only [Region.schedule, hm, Bool.true_or, if_true]
  exact ops_round hd hlo _ _ _ (wpAny_sound ops.size t _ a _ (wpAny_of_held _ _ _ _ (h hS)))
theorem wpAnyH_two {P : Program} {md : Region.Mode} {ops : Array Oper} {Q : Exit → Act → World → Prop} {S S' : World → Prop} {i j : Nat} {oi oj : Oper} {v : Value} {fuel : Nat} {listed : Array Bool} {a : Act} {w : World}
  (hi : ops[i]? = some oi) (hj : ops[j]? = some oj) (hne : i ≠ j) (hs : Region.noSelect ops = true) (hap : oi.apart ops oj = true)
  (rs : List Nat) (hrs : rs ≠ [] ∧ ∀ k ∈ rs, k = i ∨ k = j) (hr : Region.ready md ops listed = rs) (hri : Region.ready md ops (listed.setIfInBounds i true) = [j]) (hrj : Region.ready md ops (listed.setIfInBounds j true) = [i])
  (hQ : ∀ c a w, Q (.panic c) (a.put oi.dst v) w → Q (.panic c) a w) (hy : YieldsIf P ops S' oi v a) (hS : S w) (hS' : S' w)
  (h : ∀ K' : Act → World → Prop, Shut (∀ a w, S w → S' w → (wpAnyH P md ops Q S fuel ((listed.setIfInBounds i true).setIfInBounds j true) a w) → K' a w) → if Region.wanted oj (yielded ops (a.put oi.dst v).tmps) = true then Oper.wp P oj (a.put oi.dst v) w K' Q else K' ((a.put oi.dst v).put oj.dst undef) w) :
  wpAnyH P md ops Q S (fuel + 2) listed a w := by
 have hw : wpOp P ops Q j (fun a' w' => S w' ∧ S' w' ∧ wpAnyH P md ops Q S fuel ((listed.setIfInBounds i true).setIfInBounds j true) a' w') (a.put oi.dst v) w :=
  wpOp_step hj (fun K' hK => h K' (fun a w h1 h2 h3 => hK a w ⟨h1, h2, h3⟩))
 refine wpAnyH_all hr hrs.1 fun k hk => ?_
 rcases hrs.2 k hk with rfl | rfl
 ·refine YieldsIf.wpOp hi hy hS' ⟨hS, wpAnyH_all hri (by simp) fun k' hk' => ?_⟩
  obtain rfl : k' = j := by simpa using hk'
  exact wpOp_mono (fun a w h => ⟨h.1, h.2.2⟩) hw
 ·have hsel := Region.noSelect_spec hs
  refine wpOp_mono (fun a' w' h => ?_) (wpOp_putIf hj hap (hsel i oi · · hi) (hsel k oj · · hj) hQ hy hw)
  obtain ⟨hy', h1, h2, h3⟩ := h
  refine ⟨h1, wpAnyH_all hrj (by simp) fun k' hk' => ?_⟩
  obtain rfl : k' = i := by simpa using hk'
  refine YieldsIf.wpOp hi hy' h2 ⟨h1, ?_⟩
  rw [Array.setIfInBounds_comm _ _ (Ne.symm hne)]
  exact h3
end Go.Proofs.YtnmnhgagnfodhaaDoor
namespace Go.Proofs.YtnmnhgagnfodhaaDoor
open Go.RowKit
set_option linter.unusedVariables false
theorem packS_snoc (C : Nat) (P : List (List Int)) (g : List Int) : ∀ (st : St) (ah : List Int), packS C st ah (P ++ [g]) = pageS C (packS C st ah P) (P.getLast?.getD ah) g := by
 induction P with
 | nil => intro st ah; rfl
 | cons x P ih =>
  intro st ah
  show packS C (pageS C st ah x) x (P ++ [g]) = pageS C (packS C (pageS C st ah x) x P) _ g
  rw [ih]
  congr 1
  rw [List.getLast?_cons]
  rfl
theorem runS_bound (st : St) (k : Nat) (h2 : 2 ≤ st.laid.length) (hc : st.count ≤ 65535) : st.laid.length ≤ (runS st k).laid.length ∧ (runS st k).laid.length ≤ st.laid.length + 3 ∧ (runS st k).count ≤ 65535 := by
 unfold runS
 split
 ·next h =>
  simp [le2]
 ·next h =>
  simp [le2]
  omega
theorem pageS_bound (C L : Nat) (st : St) (ah g : List Int) (hg : g.length = L) (hC : C ≤ L) (h2 : 2 ≤ st.laid.length) (hc : st.count ≤ 65535) : st.laid.length ≤ (pageS C st ah g).laid.length ∧ (pageS C st ah g).laid.length ≤ st.laid.length + (3 + L) ∧ (pageS C st ah g).count ≤ 65535 := by
 unfold pageS
 split
 ·have := runS_bound st 0 h2 hc; omega
 ·split
  ·have := runS_bound st 2 h2 hc; omega
  ·have hw := wrN_le (g.take C)
   simp at hw
   simp [toldS, enc, le2]
   omega
theorem packS_bound (C L : Nat) (P : List (List Int)) : ∀ (st : St) (ah : List Int), (∀ g ∈ P, g.length = L) → C ≤ L → 2 ≤ st.laid.length → st.count ≤ 65535 →
  st.laid.length ≤ (packS C st ah P).laid.length ∧ (packS C st ah P).laid.length ≤ st.laid.length + P.length * (3 + L) ∧ (packS C st ah P).count ≤ 65535 := by
 induction P with
 | nil => intro st ah _ _ _ hc; exact ⟨Nat.le_refl _, by simp [packS], hc⟩
 | cons g P ih =>
  intro st ah hg hC h2 hc
  obtain ⟨b1, b2, b3⟩ := pageS_bound C L st ah g (hg g (by simp)) hC h2 hc
  obtain ⟨i1, i2, i3⟩ := ih (pageS C st ah g) g (fun x hx => hg x (by simp [hx])) hC (by omega) b3
  refine ⟨?_, ?_, i3⟩
  ·show st.laid.length ≤ (packS C (pageS C st ah g) g P).laid.length
   omega
  ·show (packS C (pageS C st ah g) g P).laid.length ≤ _
   rw [List.length_cons, Nat.succ_mul]
   omega
theorem blk_own {β : Type} (i : Nat) (cs : Array Value) (t : TypeId) (f : Nat × Nat) : Go.Own (fun (_ : β) W => W.heap[i]? = some (.cells cs t f)) := by
 intro s X Y row hs hg hrow
 refine (hg.block i (Array.getElem?_eq_some_iff.1 hs).1 (fun e => ?_)).trans hs
 obtain ⟨o, ho, hc⟩ := hrow i e.symm
 rw [hs] at ho
 cases ho
 cases hc
theorem WrAt.kept {w w' : World} {B q : Nat} {st : St} {row : Option Nat} (h : WrAt w B q st) (hg : w.grownBy w' row) (hrow : ∀ r, row = some r → ∃ o : Obj, w.heap[r]? = some o ∧ o.isCells = false) : WrAt w' B q st := by
 obtain ⟨g, cap, hq, ho, hB, hr⟩ := h
 refine ⟨g, cap, ?_, ?_, hB, hr⟩
 ·refine (hg.block q (Array.getElem?_eq_some_iff.1 hq).1 (fun e => ?_)).trans hq
  obtain ⟨o, h1, h2⟩ := hrow q e.symm
  rw [hq] at h1
  cases h1
  cases h2
 ·refine World.ownsRow.kept ho hg (.inr fun e => ?_)
  obtain ⟨cur, hc⟩ := Own.blk ho
  obtain ⟨o, h1, h2⟩ := hrow g (by simpa [Value.ownBlock] using e.symm)
  rw [hc] at h1
  cases h1
  cases h2
theorem wrAt_own {β : Type} (B q : Nat) (f : β → St) : Go.Own (fun (s : β) W => WrAt W B q (f s)) := fun s X Y row hs hg hrow => hs.kept hg hrow
theorem Kw.others {B : Nat} {w w' : World} (h : Kw B w w') : KeepsOthers w w' := ⟨h.bel.size, fun k o hk hc => h.oth k o hk (fun cs f e => by rw [e] at hc; cases hc) (fun cs f e => by rw [e] at hc; cases hc)⟩
theorem Kw.blk {B : Nat} {w w' : World} (h : Kw B w w') {i : Nat} {cs : Array Value} {t : TypeId} {f : Nat × Nat} (hi : w.heap[i]? = some (.cells cs t f)) (h1 : t ≠ 89) (h2 : t ≠ 5) : w'.heap[i]? = some (.cells cs t f) :=
 h.oth i _ hi (fun cs' f' e => by cases e; exact h1 rfl) (fun cs' f' e => by cases e; exact h2 rfl)
theorem Reads.low {w w' : World} {a : Option Addr} {len B : Nat} {zs : List Int} (h : Reads w a len zs) (hlow : ∀ x, a = some x → x.block < B) (hk : Below B w w') : Reads w' a len zs := by
 obtain ⟨h1, h2, h3, h4⟩ := h
 refine ⟨h1, h2, h3, fun x hx i hi => ?_⟩
 rw [hk.cell (show (x.add i).block < B by rw [show (x.add i).block = x.block by unfold Addr.add; split <;> rfl]; exact hlow x hx)]
 exact h4 x hx i hi
def pgK (zs : List Int) (L k : Nat) : List Int := (zs.drop (k * L)).take L
theorem pgK_len {zs : List Int} {L N k : Nat} (hz : zs.length = N * L) (hk : k < N) : (pgK zs L k).length = L := by
 have := Nat.mul_le_mul_right L (show k + 1 ≤ N from hk)
 rw [Nat.succ_mul] at this
 simp [pgK, hz]
 omega
theorem Reads.page {w : World} {bk off n L N k : Nat} {zs : List Int} (h : Reads w (some ⟨bk, off, none⟩) n zs) (hn : n = N * L) (hk : k < N) (hL : 0 < L) : Reads w (some ⟨bk, off + k * L, none⟩) L (pgK zs L k) := by
 have h1 := Nat.mul_le_mul_right L (show k + 1 ≤ N from hk)
 rw [Nat.succ_mul] at h1
 obtain ⟨b', o', he, h2⟩ := h.part (k * L) (k * L + L) (by omega) (by omega) (by omega)
 cases he
 rw [show k * L + L - k * L = L by omega] at h2
 exact h2
theorem pages_chunks (zs : List Int) (L N : Nat) : (List.finRange N).map (fun k => pgK zs L k.val) = chunks L N zs := by
 unfold chunks
 apply List.ext_getElem
 ·simp
 ·intro i h1 h2
  simp [pgK]
theorem blk_ne {w : World} {i j : Nat} {cs cs' : Array Value} {t t' : TypeId} {f f' : Nat × Nat} (hi : w.heap[i]? = some (.cells cs t f)) (hj : w.heap[j]? = some (.cells cs' t' f')) (h : t ≠ t') : i ≠ j := by
 intro e
 rw [e, hj] at hi
 cases hi
 exact h rfl
theorem blk_other {w w' : World} {i j : Nat} {cs cs' : Array Value} {t t' : TypeId} {f f' : Nat × Nat} (hi : w.heap[i]? = some (.cells cs t f)) (hj : w.heap[j]? = some (.cells cs' t' f')) (h : t ≠ t') (hg : w.grownBy w' (some j)) : w'.heap[i]? = some (.cells cs t f) :=
 (hg.block i (Array.getElem?_eq_some_iff.1 hi).1 (fun e => blk_ne hi hj h (by cases e; rfl))).trans hi
theorem WrAt.other {w w' : World} {B q j : Nat} {st : St} {cs : Array Value} {t : TypeId} {f : Nat × Nat} (h : WrAt w B q st) (hj : w.heap[j]? = some (.cells cs t f)) (h1 : t ≠ 89) (h2 : t ≠ 5) (hg : w.grownBy w' (some j)) : WrAt w' B q st := by
 obtain ⟨g, cap, hq, ho, hB, hr⟩ := h
 obtain ⟨cur, hc⟩ := Own.blk ho
 exact ⟨g, cap, blk_other hq hj (Ne.symm h1) hg, Own.apart ho hg (blk_ne hc hj (Ne.symm h2)), hB, hr⟩
theorem blk1_set {w : World} {q : Nat} {a : Value} {t : TypeId} (h : w.heap[q]? = some (.cells #[a] t (0, 0))) (v : Value) : (w.setCell ⟨q, 0, none⟩ v).heap[q]? = some (.cells #[v] t (0, 0)) := Boxed.set v h
end Go.Proofs.YtnmnhgagnfodhaaDoor
namespace Go.Proofs.YtnmnhgagnfodhaaDoor
open Go.RowKit
set_option linter.unusedVariables false
def RdAt (w : World) (B q : Nat) (rest : List Int) : Prop :=
 ∃ b off c, w.heap[q]? = some (.cells #[.slice (some ⟨b, off, none⟩) rest.length c] 97 (0, 0)) ∧ Reads w (some ⟨b, off, none⟩) rest.length rest ∧ rest.length ≤ c ∧ c ≤ 9223372036854775807 ∧ b < B ∧ B ≤ q
theorem RdAt.byt {w : World} {B q : Nat} {rest : List Int} (h : RdAt w B q rest) : Byt rest := by
 obtain ⟨b, off, c, _, h1, _⟩ := h
 exact h1.2.1
theorem RdAt.lt {w : World} {B q : Nat} {rest : List Int} (h : RdAt w B q rest) : B ≤ q ∧ q < w.heap.size := by
 obtain ⟨b, off, c, h0, _, _, _, _, h5⟩ := h
 exact ⟨h5, (Array.getElem?_eq_some_iff.1 h0).1⟩
theorem RdAt.other {w w' : World} {B q : Nat} {r : Option Nat} {rest : List Int} (h : RdAt w B q rest) (hg : w.grownBy w' r) (hq : r ≠ some q) (hB : ∀ i, r = some i → B ≤ i) : RdAt w' B q rest := by
 obtain ⟨b, off, c, h0, h1, h2, h3, h4, h5⟩ := h
 have hlt := (Array.getElem?_eq_some_iff.1 h0).1
 refine ⟨b, off, c, (hg.block q hlt (fun e => hq e.symm)).trans h0, ?_, h2, h3, h4, h5⟩
 exact h1.low (fun x hx => by cases hx; exact h4) ((Below.refl B w).grown hg (by omega) hB)
theorem RdAt.below {w w' : World} {B q : Nat} {rest : List Int} (h : RdAt w B q rest) (hb : Below w.heap.size w w') : RdAt w' B q rest :=
 h.other (r := none) (grown_of hb none) (by simp) (fun i e => by cases e)
theorem take_short (B q n : Nat) (rest : List Int) (w : World) (hR : RdAt w B q rest) (hl : rest.length ≤ 200000000000000) (hn : rest.length < n) (hn2 : n ≤ 200000000000000) :
  Calls Tryd.prog 66 #[.pointer (some ⟨q, 0, none⟩), .int .i64 (n : Int)] w fun e w' => e = .returned (.tuple #[.slice none 0 0, .int .i64 10]) ∧ w' = w := by
 obtain ⟨b, off, c, h0, h1, h2, h3, h4, h5⟩ := hR
 obtain ⟨m, hm⟩ : ∃ m, rest.length = m := ⟨_, rfl⟩
 rw [hm] at h0 hn hl
 have c0 : w.cell? ⟨q, 0, none⟩ = some (.slice (some ⟨b, off, none⟩) m c) := by simp [World.cell?, h0]
 have d1 : (m : Int) < (n : Int) := by omega
 clear h0 h1 h2 h3 h4 h5 hm
 go_enter Tryd.func66, Tryd.ntmps66
 go_wp2
 go_ret2
 exact ⟨rfl, rfl⟩
theorem Reads.drop {w : World} {b off len : Nat} {zs : List Int} (h : Reads w (some ⟨b, off, none⟩) len zs) (j : Nat) (hj : j ≤ len) : Reads w (some ⟨b, off + j, none⟩) (len - j) (zs.drop j) := by
 obtain ⟨h1, h2, _, h4⟩ := h
 refine ⟨by simp; omega, fun x hx => h2 x (List.mem_of_mem_drop hx), (fun h => by cases h), fun x hx i hi => ?_⟩
 cases hx
 have := h4 _ rfl (j + i) (by omega)
 rw [plain_add] at this ⊢
 rw [show off + j + i = off + (j + i) by omega, this]
 simp [List.getD_eq_getElem?_getD]
theorem set1_grown (w : World) (q : Nat) (v : Value) : w.grownBy (w.setCell ⟨q, 0, none⟩ v) (some q) := grownBy_setCell' w q v
set_option maxHeartbeats 1000000 in
set_option maxRecDepth 100000 in
theorem take_ok (B q n : Nat) (rest : List Int) (w : World) (hR : RdAt w B q rest) (hl : rest.length ≤ 200000000000000) (hn : n ≤ rest.length) :
  Calls Tryd.prog 66 #[.pointer (some ⟨q, 0, none⟩), .int .i64 (n : Int)] w fun e w' => ∃ b off c, e = .returned (.tuple #[.slice (some ⟨b, off, none⟩) n c, .int .i64 0]) ∧ Reads w' (some ⟨b, off, none⟩) n (rest.take n) ∧ n ≤ c ∧ c ≤ 9223372036854775807 ∧ b < B ∧ RdAt w' B q (rest.drop n) ∧ w.grownBy w' (some q) := by
 have hlt := hR.lt
 obtain ⟨b, off, c, h0, h1, h2, h3, h4, h5⟩ := hR
 obtain ⟨m, hm⟩ : ∃ m, rest.length = m := ⟨_, rfl⟩
 rw [hm] at h0 hn hl h2 h1
 have c0 : w.cell? ⟨q, 0, none⟩ = some (.slice (some ⟨b, off, none⟩) m c) := by simp [World.cell?, h0]
 have f0 : w.frozen? ⟨q, 0, none⟩ = false := by simp [World.frozen?, h0]
 have hBw : B ≤ w.heap.size := by omega
 have key : ∀ o2 : Nat, Reads w (some ⟨b, o2, none⟩) (m - n) (rest.drop n) → RdAt (w.setCell ⟨q, 0, none⟩ (.slice (some ⟨b, o2, none⟩) (m - n) (c - n))) B q (rest.drop n) := by
  intro o2 r2
  have hlen : (rest.drop n).length = m - n := by rw [List.length_drop, hm]
  refine ⟨b, o2, c - n, ?_, ?_, ?_, ?_, h4, h5⟩
  ·simp only [hlen]; exact blk1_set h0 _
  ·simp only [hlen]; exact r2.low (fun x hx => by cases hx; exact h4) ((Below.refl B w).grown (set1_grown w q _) hBw (fun k hk => by cases hk; exact h5))
  ·simp only [hlen]; omega
  ·omega
 have hfr : ∀ v, Reads (w.setCell ⟨q, 0, none⟩ v) (some ⟨b, off, none⟩) n (rest.take n) := fun v =>
  (h1.front n hn).low (fun x hx => by cases hx; exact h4) ((Below.refl B w).grown (set1_grown w q _) hBw (fun k hk => by cases hk; exact h5))
 have HK : Hid _ := key
 have HF : Hid _ := hfr
 have H1 : Hid (Reads w (some ⟨b, off, none⟩) m rest) := h1
 clear h0 hm key hfr h1
 by_cases hc0 : c = n
 ·subst hc0
  obtain rfl : m = c := by omega
  have HR2 : Hid (Reads w (some ⟨b, off, none⟩) (m - m) (rest.drop m)) := by
   have h9 := H1.out.drop m (Nat.le_refl _)
   exact ⟨h9.1, h9.2.1, (fun h => by cases h), fun y hy i hi => by omega⟩
  have HK2 := HK.out off HR2.out
  have HK3 : Hid _ := HK2
  clear HK2
  go_enter Tryd.func66, Tryd.ntmps66
  go_wp2
  go_ret2
  refine ⟨b, off, m, rfl, HF.out _, Nat.le_refl _, h3, h4, ?_, set1_grown w q _⟩
  have h9 := HK3.out
  rw [Nat.sub_self] at h9
  exact h9
 ·have d1 : (n : Int) ≤ (m : Int) := by omega
  have d2 : (n : Int) ≤ (c : Int) := by omega
  have d3 : n ≤ c := by omega
  have HR2 : Hid (Reads w (some ⟨b, off + n, none⟩) (m - n) (rest.drop n)) := H1.out.drop n hn
  have hq : (if c = n then some (⟨b, off, none⟩ : Addr) else some ⟨b, off + n, none⟩) = some ⟨b, off + n, none⟩ := by rw [if_neg hc0]
  go_enter Tryd.func66, Tryd.ntmps66
  go_wp2
  go_ret2
  exact ⟨b, off, c, rfl, HF.out _, by omega, h3, h4, HK.out (off + n) HR2.out, set1_grown w q _⟩
theorem getL_take (zs : List Int) (n : Nat) : ∀ k, k ≤ n → getL (zs.take n) 0 k = getL zs 0 k
 | 0, _ => rfl
 | k + 1, h => by
  rw [getL, getL, getL_take zs n k (by omega), Nat.zero_add, List.getD_eq_getElem?_getD, List.getElem?_take_of_lt (by omega), ← List.getD_eq_getElem?_getD]
set_option maxHeartbeats 1000000 in
set_option maxRecDepth 100000 in
theorem num_short (B q n : Nat) (rest : List Int) (w : World) (hR : RdAt w B q rest) (hl : rest.length ≤ 200000000000000) (hn : rest.length < n) (hn2 : n ≤ 4) :
  Calls Tryd.prog 67 #[.pointer (some ⟨q, 0, none⟩), .int .i64 (n : Int)] w fun e w' => e = .returned (.tuple #[.int .i64 0, .int .i64 10]) ∧ w' = w := by
 go_enter Tryd.func67, Tryd.ntmps67
 go_wp2_with (go_at_call 66; refine (take_short B q n rest _ hR hl hn (by omega)).mono ?_; rintro e u1 ⟨rfl, hu1⟩; rw [hu1])
 go_ret2
 exact ⟨rfl, rfl⟩
set_option maxHeartbeats 1000000 in
set_option maxRecDepth 100000 in
theorem num_ok (B q n : Nat) (rest : List Int) (w : World) (hR : RdAt w B q rest) (hl : rest.length ≤ 200000000000000) (hn : n ≤ rest.length) (hn1 : 1 ≤ n) (hn2 : n ≤ 4) :
  Calls Tryd.prog 67 #[.pointer (some ⟨q, 0, none⟩), .int .i64 (n : Int)] w fun e w' => e = .returned (.tuple #[.int .i64 (getL rest 0 n), .int .i64 0]) ∧ RdAt w' B q (rest.drop n) ∧ w.grownBy w' (some q) := by
 have hby := hR.byt
 have hgr := getL_range hby 0 n
 have hp4 : (256 : Int) ^ n ≤ 256 ^ 4 := pow256_le hn2
 have e4 : (256 : Int) ^ 4 = 4294967296 := by decide
 have hwr : IntKind.i64.wrap (getL rest 0 n) = getL rest 0 n := by rw [IntKind.wrap_i64]; omega
 have HG : Hid (getL (rest.take n) 0 n = getL rest 0 n) := getL_take rest n n (Nat.le_refl _)
 obtain ⟨V, hV⟩ : ∃ V, getL rest 0 n = V := ⟨_, rfl⟩
 rw [hV] at HG hwr ⊢
 clear hgr hp4 e4 hV
 go_enter Tryd.func67, Tryd.ntmps67
 go_wp2_with (first
  | (go_at_call 66; refine (take_ok B q n rest _ hR hl hn).mono ?_; rintro e u1 ⟨b, off, c, rfl, r1, _, _, _, rd1, g1⟩; have HRD : Hid (RdAt u1 B q (rest.drop n)) := rd1; have HGR : Hid (w.grownBy u1 (some q)) := g1; have HR1 : Hid (Reads u1 (some ⟨b, off, none⟩) n (rest.take n)) := r1; clear rd1 g1 r1)
  | (go_at_call 84; refine (get_ok (some ⟨b, off, none⟩) n c 0 n (rest.take n) _ (by omega) hn1 (by omega) (by omega) HR1.out).mono ?_; rintro e u2 ⟨rfl, rfl⟩; rw [HG.out]))
 go_ret2
 exact ⟨rfl, HRD.out, HGR.out⟩
end Go.Proofs.YtnmnhgagnfodhaaDoor
