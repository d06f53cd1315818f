/-
  SEAT Ytoaahellfflooaa.
-/
import Derived.Test.YtoaahellfflooaaVKD
namespace Go.Proofs.Ytoaahellfflooaa
open Go.RowKit
set_option linter.unusedVariables false

def Far (p q : Value × List Int) : Prop := ∀ g, p.1.ownBlock = some g → q.1.ownBlock ≠ some g
theorem Far.symm {p q : Value × List Int} (h : Far p q) : Far q p := fun g h1 h2 => h g h2 h1

/-- Rows, each in a block of its own. -/
structure Live (w : World) (B : Nat) (R : List (Value × List Int)) : Prop where
  rows : ∀ p ∈ R, w.ownsRow B 5 1 p.1 p.2.length (p.2.map (Value.int .u8))
  far : R.Pairwise Far

theorem own_of_below {w w' : World} {B n : Nat} {v : Value} {xs : List Value} {e : TypeId} (h : w.ownsRow B e 1 v n xs) (hb : Below w.heap.size w w') : w'.ownsRow B e 1 v n xs := by
  obtain ⟨h1, h2⟩ := h
  refine ⟨h1, ?_⟩
  rcases h2 with h2 | ⟨g', cap', cur, hv, hg, hh, r⟩
  · exact Or.inl h2
  · refine Or.inr ⟨g', cap', cur, hv, hg, ?_, r⟩
    rw [hb.block g' ?_]
    · exact hh
    · rcases Nat.lt_or_ge g' w.heap.size with h | h
      · exact h
      · simp [Array.getElem?_eq_none h] at hh

theorem Live.below {w w' : World} {B : Nat} {R : List (Value × List Int)} (h : Live w B R) (hb : Below w.heap.size w w') : Live w' B R :=
  ⟨fun p hp => own_of_below (h.rows p hp) hb, h.far⟩

theorem own_base {w : World} {B B' n : Nat} {v : Value} {xs : List Value} (h : w.ownsRow B 5 1 v n xs) (hb : B' ≤ B) : w.ownsRow B' 5 1 v n xs :=
  ⟨h.1, h.2.imp id fun ⟨g, c, cur, h1, h2, h3⟩ => ⟨g, c, cur, h1, Nat.le_trans hb h2, h3⟩⟩

theorem Live.add {w w' : World} {B n : Nat} {R : List (Value × List Int)} {v : Value} {xs : List Int} (h : Live w B R) (hb : Below w.heap.size w w') (hB : B ≤ w.heap.size) (hl : xs.length = n)
    (hr : w'.ownsRow w.heap.size 5 1 v n (xs.map (Value.int .u8))) : Live w' B ((v, xs) :: R) := by
  subst hl
  refine ⟨fun p hp => ?_, List.pairwise_cons.2 ⟨fun q hq g h1 h2 => ?_, h.far⟩⟩
  · rcases List.mem_cons.1 hp with rfl | hp
    · exact own_base hr hB
    · exact (h.below hb).rows p hp
  · have := (hr.lt g h1).1
    have := ((h.rows q hq).lt g h2).2
    omega

theorem Live.set {w w' : World} {B n : Nat} (R1 R2 : List (Value × List Int)) {v : Value} {xs ys : List Int} (h : Live w B (R1 ++ (v, xs) :: R2)) (hg : w.grownBy w' v.ownBlock) (hl : ys.length = n)
    (hr : w'.ownsRow B 5 1 v n (ys.map (Value.int .u8))) : Live w' B (R1 ++ (v, ys) :: R2) := by
  subst hl
  have hf := h.far
  rw [List.pairwise_append, List.pairwise_cons] at hf
  obtain ⟨f1, ⟨f2, f3⟩, f4⟩ := hf
  have sep : ∀ p ∈ R1 ++ (v, xs) :: R2, Far p (v, xs) → w'.ownsRow B 5 1 p.1 p.2.length (p.2.map (Value.int .u8)) := fun p hp hfar => by
    refine (h.rows p hp).kept hg ?_
    cases hb : p.1.ownBlock with
    | none => exact Or.inl rfl
    | some g => exact Or.inr fun e => hfar g hb e.symm
  refine ⟨fun p hp => ?_, ?_⟩
  · rcases List.mem_append.1 hp with hp | hp
    · exact sep p (by simp [hp]) (f4 p hp (v, xs) (by simp))
    · rcases List.mem_cons.1 hp with rfl | hp
      · exact hr
      · exact sep p (by simp [hp]) (f2 p hp).symm
  · rw [List.pairwise_append, List.pairwise_cons]
    exact ⟨f1, ⟨fun q hq => f2 q hq, f3⟩, fun p hp q hq => by
      rcases List.mem_cons.1 hq with rfl | hq
      · exact f4 p hp (v, xs) (by simp)
      · exact f4 p hp q (by simp [hq])⟩

theorem Live.drewN {w : World} {B : Nat} {R : List (Value × List Int)} (h : Live w B R) (k : Nat) : Live (w.drewN k) B R := ⟨fun p hp => h.rows p hp, h.far⟩

theorem Live.own {w : World} {B n : Nat} {R : List (Value × List Int)} {v : Value} {xs : List Int} (h : Live w B R) (hm : (v, xs) ∈ R) (hl : xs.length = n) : w.ownsRow B 5 1 v n (xs.map (Value.int .u8)) := by
  subst hl
  exact h.rows _ hm

theorem reads_of {w : World} {B n c : Nat} {a : Option Addr} {xs : List Int} (h : w.ownsRow B 5 1 (.slice a n c) n (xs.map (Value.int .u8))) (hr : ∀ x ∈ xs, 0 ≤ x ∧ x ≤ 255) : Reads w a n xs := by
  obtain ⟨a', c', e, hrd⟩ := own_any h hr
  cases e
  exact hrd

theorem Live.reads {w : World} {B n c : Nat} {R : List (Value × List Int)} {a : Option Addr} {xs : List Int} (h : Live w B R) (hm : (.slice a n c, xs) ∈ R) (hl : xs.length = n) (hr : ∀ x ∈ xs, 0 ≤ x ∧ x ≤ 255) : Reads w a n xs :=
  reads_of (h.own hm hl) hr


end Go.Proofs.Ytoaahellfflooaa
