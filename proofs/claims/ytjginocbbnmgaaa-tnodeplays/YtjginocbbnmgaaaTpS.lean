/-
  SEAT Ytjginocbbnmgaaa: one call of both, whichever; two such pairs beside one another.
-/
import Derived.Test.YtjginocbbnmgaaaTpR
namespace Go.Proofs.Ytjginocbbnmgaaa
open Go.RowKit Go.Shelf
set_option linter.unusedVariables false
variable {bx : Nat}

/-- What is held may be more from here on. -/
theorem wpAnyH_stronger {P : Program} {md : Region.Mode} {ops : Array Oper} {Q : Exit → Act → World → Prop} {S S' : World → Prop} (hs : ∀ w, S' w → S w) : ∀ (fuel : Nat) (listed : Array Bool) (a : Act) (w : World), wpAnyH P md ops Q S' fuel listed a w → wpAnyH P md ops Q S fuel listed a w
  | 0, _, _, _, h => h
  | fuel + 1, _, _, _, h => ⟨h.1, fun i hi => wpOp_mono (fun a' w' h' => ⟨hs w' h'.1, wpAnyH_stronger hs fuel _ a' w' h'.2⟩) (h.2 i hi)⟩

set_option maxHeartbeats 2000000 in
set_option maxRecDepth 100000 in
theorem plays_chg (gt gr h : Nat) (k x : Int) (M : Mp) (v : Value) (w : World) (hD : Duo w gt gr h M v) :
    Calls Try.prog 32 #[.pointer (some ⟨gt, 0, none⟩), .pointer (some ⟨gr, 0, none⟩), .agg #[.int .i64 7, .int .i64 k, .int .i64 x]] w fun e w' => Playd w w' gt gr v e := by
  obtain ⟨a, cap, rfl, _, _⟩ := ref_form hD.ref
  have hb0 : Below w.heap.size w (w.alloc (.cells #[.int .i64 7, .int .i64 k, .int .i64 x] 64)) := below_alloc w _
  have HBD : Hid (Below w.heap.size w (w.alloc (.cells #[.int .i64 7, .int .i64 k, .int .i64 x] 64))) := hb0
  obtain ⟨c0, c1, c2⟩ := (BxOn.new w 7 k x).cells
  have HCH : Hid _ := changing_any gt gr h 7 k x M a (allOf M).length cap _ rfl rfl (w.alloc (.cells #[.int .i64 7, .int .i64 k, .int .i64 x] 64)) (hD.below hb0)
  generalize (allOf M).length = N at HCH ⊢
  clear hD
  go_enter Try.func32, Try.ntmps32
  go_wp2_with (first
    | (go_at_call 49; refine Calls.mono HCH.out ?_; rintro e u1 ⟨rfl, h1, M1, v1, d1, ch1⟩
       have HD1 : Hid (Duo u1 gt gr h1 M1 v1) := d1
       have HC1 : Hid (Chg2 _ u1 gt gr (.slice a N cap) v1) := ch1
       clear d1 ch1))
  go_ret
  exact ⟨rfl, h1, M1, v1, HD1.out, Chg2.pre HBD.out HC1.out⟩
/-- One call of both. -/
theorem plays_any (gt gr h : Nat) (q k x : Int) (M : Mp) (v : Value) (w : World) (hD : Duo w gt gr h M v) (hk : -9223372036854775808 ≤ k ∧ k < 9223372036854775808) :
    Calls Try.prog 32 #[.pointer (some ⟨gt, 0, none⟩), .pointer (some ⟨gr, 0, none⟩), .agg #[.int .i64 q, .int .i64 k, .int .i64 x]] w fun e w' => Playd w w' gt gr v e := by
  by_cases q1 : q = 1
  · subst q1; exact plays_put gt gr h k x M v w hD hk
  by_cases q2 : q = 2
  · subst q2; exact plays_get gt gr h k x M v w hD hk
  by_cases q3 : q = 3
  · subst q3; exact plays_drop gt gr h k x M v w hD hk
  by_cases q4 : q = 4
  · subst q4; exact plays_cut gt gr h k x M v w hD hk
  by_cases q5 : q = 5
  · subst q5; exact plays_all gt gr h k x M v w hD hk
  by_cases q6 : q = 6
  · subst q6
    by_cases hx : x < 0
    · exact plays_stop0 gt gr h k x M v w hD hk hx
    · by_cases hx2 : ((allOf M).length : Int) < x
      · exact plays_stop1 gt gr h k x M v w hD hk hx hx2
      · exact plays_stop2 gt gr h k x M v w hD hk hx hx2
  by_cases q7 : q = 7
  · subst q7; exact plays_chg gt gr h k x M v w hD
  exact plays_other gt gr h q k x M v w hD hk ⟨by rw [beq_eq_false_iff_ne]; exact q1, by rw [beq_eq_false_iff_ne]; exact q2, by rw [beq_eq_false_iff_ne]; exact q3, by rw [beq_eq_false_iff_ne]; exact q4, by rw [beq_eq_false_iff_ne]; exact q5, by rw [beq_eq_false_iff_ne]; exact q6, by rw [beq_eq_false_iff_ne]; exact q7⟩
/-- The reference's height is the tree's. -/
theorem rheight_m (gt gr h : Nat) (M : Mp) (v : Value) (W : World) (hD : Duo W gt gr h M v) : Calls Try.prog 33 #[.pointer (some ⟨gr, 0, none⟩)] W fun e w' => e = .returned (.int .i64 (h : Int)) ∧ Below W.heap.size W w' := by
  have hR := hD.ref
  rcases all_last M with ⟨h1, h2⟩ | ⟨K, y, pre, h1, h2, h3, h4⟩
  · rw [h1] at hR
    refine (rheight_none gr v W hR).mono ?_
    rintro e w' ⟨rfl, rfl⟩
    have h0 : h = 0 := hD.tree.low0 (fun k => by
      rcases Nat.lt_or_ge k 1048576 with q | q
      · exact h2 k q
      · exact hD.tree.out q)
    subst h0
    exact ⟨rfl, Below.refl _ _⟩
  · rw [h4] at hR
    refine (rheight_some gr K y pre v W hR h1).mono ?_
    rintro e w' ⟨hh, rfl, h5, h6⟩
    have h7 := hD.tree.high (K := K) (by rw [h2]; rfl) (fun k hk => by
      rcases Nat.lt_or_ge k 1048576 with q | q
      · exact h3 k hk q
      · exact hD.tree.out q)
    rw [high_one h5 h7]
    exact ⟨rfl, h6⟩

/-- What one pair's call writes leaves another pair. -/
theorem Duo.beside {A B : World} {gt gr gu gs h h' : Nat} {M M' : Mp} {v v2 u : Value} (hD : Duo A gt gr h M v) (hE : Duo A gu gs h' M' u) (hc : Chg2 A B gt gr v v2) (h1 : gu ≠ gt) (h2 : gs ≠ gr) (h3 : ∀ q, u.ownBlock = some q → v.ownBlock ≠ some q) : Duo B gu gs h' M' u := by
  obtain ⟨p1, p2, p3, hbt⟩ := hD.tree.box
  have key : ∀ (g : Nat) (cs : Array Value) (t : TypeId), A.heap[g]? = some (.cells cs t (0, 0)) → (t = 72 → g ≠ gt) → (t = 61 → g ≠ gr) → (t = 35 → v.ownBlock ≠ some g) → B.heap[g]? = some (.cells cs t (0, 0)) := fun g cs t hg k1 k2 k3 => by
    refine (hc.block g (lt_of_block hg) (fun e => ?_) (fun e => ?_) (fun e => ?_)).trans hg
    · have h9 := hbt
      rw [← e, hg] at h9
      injection h9 with h9
      injection h9 with _ h9
      exact k1 h9 e
    · have h9 := hD.ref.1
      rw [← e, hg] at h9
      injection h9 with h9
      injection h9 with _ h9
      exact k2 h9 e
    · obtain ⟨cur, h9⟩ := hD.ref.row e
      rw [hg] at h9
      injection h9 with h9
      injection h9 with _ h9
      exact k3 h9 e
  obtain ⟨top, t1, t2, t3⟩ := hE.tree.on.blk
  refine ⟨⟨⟨⟨top, key _ _ _ t1 (fun _ => h1) (fun e => by cases e) (fun e => by cases e), t2, fun l hl => NodeOn.types (fun g cs t ht hg => key g cs t hg (fun e => by rcases ht with q | q <;> (rw [q] at e; cases e)) (fun e => by rcases ht with q | q <;> (rw [q] at e; cases e)) (fun e => by rcases ht with q | q <;> (rw [q] at e; cases e))) (t3 l hl)⟩, hE.tree.on.out, hE.tree.on.h5, Nat.lt_of_lt_of_le hE.tree.on.low hc.size⟩, hE.tree.fit⟩, key _ _ _ hE.ref.1 (fun e => by cases e) (fun _ => h2) (fun e => by cases e), hE.ref.2.1.stay (fun q hq cur hcur => key q cur 35 hcur (fun e => by cases e) (fun e => by cases e) (fun _ => h3 q hq)), hE.ref.2.2⟩
/-- Two trees, each with the reference's. -/
structure Quad (w W : World) (gt gr gu gs : Nat) (M M' : Mp) (v v' : Value) (h h' : Nat) : Prop where
  a : Duo W gt gr h M v
  b : Duo W gu gs h' M' v'
  bel : Below w.heap.size w W
  lt : w.heap.size ≤ gt
  lr : w.heap.size ≤ gr
  lu : w.heap.size ≤ gu
  ls : w.heap.size ≤ gs
  nt : gt ≠ gu
  nr : gr ≠ gs
  sep : ∀ q, v.ownBlock = some q → v'.ownBlock ≠ some q
  lv : ∀ q, v.ownBlock = some q → w.heap.size ≤ q
  lw : ∀ q, v'.ownBlock = some q → w.heap.size ≤ q
theorem Quad.below {w W X : World} {gt gr gu gs : Nat} {M M' : Mp} {v v' : Value} {h h' : Nat} (hq : Quad w W gt gr gu gs M M' v v' h h') (hb : Below W.heap.size W X) : Quad w X gt gr gu gs M M' v v' h h' :=
  ⟨hq.a.below hb, hq.b.below hb, hq.bel.trans (hb.mono hq.bel.size), hq.lt, hq.lr, hq.lu, hq.ls, hq.nt, hq.nr, hq.sep, hq.lv, hq.lw⟩
theorem below_chg2 {w A B : World} {gt gr : Nat} {v v2 : Value} (hb : Below w.heap.size w A) (hc : Chg2 A B gt gr v v2) (h1 : w.heap.size ≤ gt) (h2 : w.heap.size ≤ gr) (h3 : ∀ q, v.ownBlock = some q → w.heap.size ≤ q) : Below w.heap.size w B :=
  ⟨hc.os.trans hb.os, hc.tape.trans hb.tape, hc.output.trans hb.output, Nat.le_trans hb.size hc.size, fun i hi => (hc.block i (Nat.lt_of_lt_of_le hi hb.size) (by omega) (by omega) (fun e => by have := h3 i e; omega)).trans (hb.block i hi)⟩
theorem Quad.left {w A B : World} {gt gr gu gs : Nat} {M M' : Mp} {v v' : Value} {h h' : Nat} (hq : Quad w A gt gr gu gs M M' v v' h h') {h2 : Nat} {M2 : Mp} {v2 : Value} (hd : Duo B gt gr h2 M2 v2) (hc : Chg2 A B gt gr v v2) : Quad w B gt gr gu gs M2 M' v2 v' h2 h' := by
  refine ⟨hd, Duo.beside hq.a hq.b hc (fun e => hq.nt e.symm) (fun e => hq.nr e.symm) (fun q h1 h2 => hq.sep q h2 h1), below_chg2 hq.bel hc hq.lt hq.lr hq.lv, hq.lt, hq.lr, hq.lu, hq.ls, hq.nt, hq.nr, fun q h1 h2 => ?_, fun q h1 => ?_, hq.lw⟩
  · rcases hc.own q h1 with h3 | h3
    · exact hq.sep q h3 h2
    · obtain ⟨cur, h4⟩ := hq.b.ref.row h2
      have := lt_of_block h4
      omega
  · rcases hc.own q h1 with h3 | h3
    · exact hq.lv q h3
    · exact Nat.le_trans hq.bel.size h3
theorem Quad.swap {w A : World} {gt gr gu gs : Nat} {M M' : Mp} {v v' : Value} {h h' : Nat} (hq : Quad w A gt gr gu gs M M' v v' h h') : Quad w A gu gs gt gr M' M v' v h' h :=
  ⟨hq.b, hq.a, hq.bel, hq.lu, hq.ls, hq.lt, hq.lr, fun e => hq.nt e.symm, fun e => hq.nr e.symm, fun q h1 h2 => hq.sep q h2 h1, hq.lw, hq.lv⟩
theorem Quad.right {w A B : World} {gt gr gu gs : Nat} {M M' : Mp} {v v' : Value} {h h' : Nat} (hq : Quad w A gt gr gu gs M M' v v' h h') {h2 : Nat} {M2 : Mp} {v2 : Value} (hd : Duo B gu gs h2 M2 v2) (hc : Chg2 A B gu gs v' v2) : Quad w B gt gr gu gs M M2 v v2 h h2 := (hq.swap.left hd hc).swap
end Go.Proofs.Ytjginocbbnmgaaa
