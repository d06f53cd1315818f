/-
  SEAT Ytjginocbbnmgaaa: TpNx, of several texts.
-/
import Derived.Test.YtjginocbbnmgaaaTpK
namespace Go.Proofs.Ytjginocbbnmgaaa
open Go.RowKit Go.Shelf
set_option linter.unusedVariables false

set_option maxHeartbeats 4000000 in
set_option maxRecDepth 100000 in
theorem pairs_zero (gt : Nat) (w : World) :
    Calls Try.prog 12 #[.pointer (some ⟨gt, 0, none⟩), .int .i64 0] w fun e W' => ∃ v, e = .returned v ∧ W'.ownsRow w.heap.size 35 2 v 0 [] ∧ Below w.heap.size w W' := by
  have hmk := make0
  have hR : (((w.alloc (.cells #[.int .i64 0] 3)).alloc (.cells #[] 35)).alloc (.cells #[.slice (some ⟨w.heap.size + 1, 0, none⟩) 0 0] 28)).ownsRow w.heap.size 35 2 (.slice (some ⟨w.heap.size + 1, 0, none⟩) 0 0) 0 [] := by
    refine World.ownsRow.alloc ?_ _
    have hb := heap_alloc_last (w.alloc (.cells #[.int .i64 0] 3)) (.cells #[] 35)
    rw [World.size_alloc] at hb
    exact ⟨rfl, Or.inr ⟨w.heap.size + 1, 0, #[], rfl, by omega, hb, Nat.le_refl _, by decide, rfl, rfl⟩⟩
  have HR : Hid ((((w.alloc (.cells #[.int .i64 0] 3)).alloc (.cells #[] 35)).alloc (.cells #[.slice (some ⟨w.heap.size + 1, 0, none⟩) 0 0] 28)).ownsRow w.heap.size 35 2 (.slice (some ⟨w.heap.size + 1, 0, none⟩) 0 0) 0 []) := hR
  have HB : Hid (Below w.heap.size w (((w.alloc (.cells #[.int .i64 0] 3)).alloc (.cells #[] 35)).alloc (.cells #[.slice (some ⟨w.heap.size + 1, 0, none⟩) 0 0] 28))) := (((Below.refl _ w).alloc (Nat.le_refl _) _).alloc (by simp) _).alloc (by simp; omega) _
  clear hR
  go_enter Try.func12, Try.ntmps12
  go_wp2_with fail
  go_ret
  exact ⟨_, rfl, HR.out, HB.out⟩
variable {bx : Nat}

/-- What keeps the blocks of nodes and of things keeps a node. -/
theorem NodeOn.types {w w' : World} {E : Nat → Prop} [DecidablePred E] (hk : ∀ (g : Nat) (cs : Array Value) (t : TypeId), (t = 96 ∨ t = 3) → w.heap[g]? = some (.cells cs t (0, 0)) → w'.heap[g]? = some (.cells cs t (0, 0))) : ∀ {l : Nat} {o : Option Nat} {M : Mp}, NodeOn (seenH w E) l o M → NodeOn (seenH w' E) l o M := by
  have key : ∀ (g : Nat) (cs : Array Value) (t : TypeId), (t = 96 ∨ t = 3) → seenH w E g = some (.cells cs t (0, 0)) → seenH w' E g = some (.cells cs t (0, 0)) := fun g cs t ht h => by
    obtain ⟨h1, h2⟩ := seen_block h
    exact seen_of h1 (hk g cs t ht h2)
  have kt : ∀ (t : Option Nat) (m : Option Int), ThingOn (seenH w E) t m → ThingOn (seenH w' E) t m := fun t m h => by
    cases t with
    | none => cases m with
      | none => trivial
      | some x => cases h
    | some g => cases m with
      | none => cases h
      | some x => exact key g _ 3 (Or.inr rfl) h
  intro l
  induction l with
  | zero =>
    intro o M h
    cases o with
    | none => exact h
    | some g =>
      obtain ⟨ts, h1, h2, h3, h4⟩ := h
      exact ⟨ts, h1, key g _ 96 (Or.inl rfl) h2, fun i hi => kt _ _ (h3 i hi), h4⟩
  | succ l ih =>
    intro o M h
    cases o with
    | none => exact h
    | some g =>
      obtain ⟨bs, h1, h2, h3, h4⟩ := h
      exact ⟨bs, h1, key g _ 96 (Or.inl rfl) h2, fun i hi => ih (h3 i hi), h4⟩
theorem RefOn.row {W : World} {gr : Nat} {v : Value} {L : List (Int × Int)} (h : RefOn W gr v L) {q : Nat} (hq : v.ownBlock = some q) : ∃ cur, W.heap[q]? = some (.cells cur 35 (0, 0)) := by
  obtain ⟨_, ⟨_, ⟨h2, _⟩ | ⟨g, cap, cur, h2, h3, h4, _⟩⟩, _⟩ := h
  · rw [h2] at hq; cases hq
  · rw [h2] at hq
    injection hq with hq
    change g = q at hq
    subst hq
    exact ⟨cur, h4⟩
/-- What changes the reference's tree leaves a tree. -/
theorem TreeX.chg {A B : World} {gt h gr : Nat} {M : Mp} {v v' : Value} {L : List (Int × Int)} (hT : TreeX bx A gt h M) (hR : RefOn A gr v L) (hc : Chg A B gr v v') : TreeX bx B gt h M := by
  obtain ⟨top, h1, h2, h3⟩ := hT.on.blk
  have key : ∀ (g : Nat) (cs : Array Value) (t : TypeId), t ≠ 61 → t ≠ 35 → A.heap[g]? = some (.cells cs t (0, 0)) → B.heap[g]? = some (.cells cs t (0, 0)) := fun g cs t ht1 ht2 hg => by
    rw [hc.block g (lt_of_block hg) (fun e => ?_) (fun e => ?_)]
    · exact hg
    · have := hR.1
      rw [← e, hg] at this
      injection this with this
      injection this with _ h3
      exact ht1 h3
    · obtain ⟨cur, hcur⟩ := hR.row e
      rw [hg] at hcur
      injection hcur with this
      injection this with _ h3
      exact ht2 h3
  exact ⟨⟨⟨top, key _ _ 72 (by decide) (by decide) h1, h2, fun l hl => NodeOn.types (fun g cs t ht hg => key g cs t (by rcases ht with rfl | rfl <;> decide) (by rcases ht with rfl | rfl <;> decide) hg) (h3 l hl)⟩, hT.on.out, hT.on.h5, Nat.lt_of_lt_of_le hT.on.low hc.size⟩, hT.fit⟩
/-- What changes a tree leaves the reference's. -/
theorem RefOn.grown {A B : World} {gr gt h : Nat} {M : Mp} {v : Value} {L : List (Int × Int)} (hR : RefOn A gr v L) (hT : TreeX bx A gt h M) (hg : A.grownBy B (some gt)) : RefOn B gr v L := by
  obtain ⟨top, h1, _⟩ := hT.on.blk
  refine ⟨(hg.block gr (lt_of_block hR.1) (fun e => ?_)).trans hR.1, hR.2.1.grown hg h1, hR.2.2⟩
  injection e with e
  have := hR.1
  rw [e, h1] at this
  injection this with this
  injection this with _ h3
  cases h3
/-- What changes one reference's tree leaves the other. -/
theorem RefOn.other {A B : World} {gr gs : Nat} {v u u' : Value} {L K : List (Int × Int)} (hR : RefOn A gr v L) (hS : RefOn A gs u K) (hc : Chg A B gs u u') (h1 : gr ≠ gs) (h2 : ∀ q, v.ownBlock = some q → u.ownBlock ≠ some q) : RefOn B gr v L := by
  have hb : B.heap[gr]? = A.heap[gr]? := hc.block gr (lt_of_block hR.1) h1 (fun e => by
    obtain ⟨cur, hcur⟩ := hS.row e
    rw [hR.1] at hcur
    injection hcur with this
    injection this with _ h3
    cases h3)
  obtain ⟨r1, ⟨r2, r3⟩, r4⟩ := hR
  refine ⟨hb.trans r1, ⟨r2, r3.imp id (fun ⟨g, cap, cur, a, b, c, d⟩ => ⟨g, cap, cur, a, b, ?_, d⟩)⟩, r4⟩
  rw [hc.block g (lt_of_block c) (fun e => ?_) (h2 g (by rw [a]; rfl))]
  · exact c
  · have := hS.1
    rw [← e, c] at this
    injection this with this
    injection this with _ h3
    cases h3

/-- A tree and the reference's of the same things. -/
structure DuoX (bx : Nat) (w : World) (gt gr h : Nat) (M : Mp) (v : Value) : Prop where
  tree : TreeX bx w gt h M
  ref : RefOn w gr v (allOf M)
abbrev Duo (w : World) (gt gr h : Nat) (M : Mp) (v : Value) : Prop := DuoX gt w gt gr h M v
/-- What one call of both writes. -/
structure Chg2 (W w' : World) (gt gr : Nat) (v v' : Value) : Prop where
  os : w'.os = W.os
  tape : w'.tape = W.tape
  output : w'.output = W.output
  size : W.heap.size ≤ w'.heap.size
  block : ∀ i, i < W.heap.size → i ≠ gt → i ≠ gr → v.ownBlock ≠ some i → w'.heap[i]? = W.heap[i]?
  own : ∀ q, v'.ownBlock = some q → v.ownBlock = some q ∨ W.heap.size ≤ q
theorem Chg2.of {A B C : World} {gt gr : Nat} {v v' : Value} (h1 : A.grownBy B (some gt)) (h2 : Chg B C gr v v') : Chg2 A C gt gr v v' :=
  ⟨h2.os.trans h1.os, h2.tape.trans h1.tape, h2.output.trans h1.output, Nat.le_trans h1.size h2.size,
    fun i hi a b c => (h2.block i (Nat.lt_of_lt_of_le hi h1.size) b c).trans (h1.block i hi (fun e => a (by injection e))),
    fun q hq => (h2.own q hq).imp id (fun h => Nat.le_trans h1.size h)⟩
end Go.Proofs.Ytjginocbbnmgaaa
