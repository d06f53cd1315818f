/-
  SEAT YtgdmagmbkmgdfabDoor: boxes and rows of the call's own, all at once.
-/
import Derived.Test.YtgdmagmbkmgdfabDoorOw
import Derived.Test.YtgdmagmbkmgdfabDoorHd
import Derived.ProofKit
import Derived.OpenShut
namespace Go.Proofs.YtgdmagmbkmgdfabDoor
open Go.RowKit Go.ChangeShapes Go.WideShapes Go.ChangeAt
set_option linter.unusedVariables false

/-- What Pack and Lay answer. -/
structure Kn (n0 n1 n2 n3 n4 n5 n6 n7 : Int) (Q L : List Int) (N M : Nat) (C : Int) : Prop where
  nQ : Q.length = N
  nL : L.length = M
  rQ : ∀ x ∈ Q, 0 ≤ x ∧ x ≤ 255
  rL : ∀ x ∈ L, 0 ≤ x ∧ x ≤ 255
  c9 : ∀ w : World, Tab w → Calls Tryd.prog 9 #[T8 n0 n1 n2 n3 n4 n5 n6 n7] w fun e w' => ∃ a c, e = .returned (.tuple #[.slice a N c, .int .i64 C]) ∧ w'.ownsRow w.heap.size 5 1 (.slice a N c) N (Q.map (Value.int .u8)) ∧ Below w.heap.size w w'
  c6 : ∀ w : World, Tab w → Calls Tryd.prog 6 #[T8 n0 n1 n2 n3 n4 n5 n6 n7] w fun e w' => ∃ a c, e = .returned (.tuple #[.slice a M c, .int .i64 C]) ∧ w'.ownsRow w.heap.size 5 1 (.slice a M c) M (L.map (Value.int .u8)) ∧ Below w.heap.size w w'

theorem kn_of (n0 n1 n2 n3 n4 n5 n6 n7 : Int) (h2 : 0 ≤ n2) (h3 : 0 ≤ n3) (a0 : -9223372036854775808 ≤ n0) (b0 : n0 ≤ 9223372036854775807) (a1 : -9223372036854775808 ≤ n1) (b1 : n1 ≤ 9223372036854775807) (a4 : -9223372036854775808 ≤ n4) (b4 : n4 ≤ 9223372036854775807) (a5 : -9223372036854775808 ≤ n5) (b5 : n5 ≤ 9223372036854775807) (a6 : -9223372036854775808 ≤ n6) (b6 : n6 ≤ 9223372036854775807) (a7 : -9223372036854775808 ≤ n7) (b7 : n7 ≤ 9223372036854775807) : (Small n0 n1 n2 n3 n4 n5 n6 n7 ∧ Kn n0 n1 n2 n3 n4 n5 n6 n7 (tagL n0 n1 n2 n3 n4 n5 n6 n7) (railL (tagL n0 n1 n2 n3 n4 n5 n6 n7)) 26 54 0) ∨ Kn n0 n1 n2 n3 n4 n5 n6 n7 [] [] 0 0 61 := by
  have hff := fits_small n0 n1 n2 n3 n4 n5 n6 n7 h2 h3 a0 b0 a1 b1 a4 b4 a5 b5 a6 b6 a7 b7
  by_cases hs : Small n0 n1 n2 n3 n4 n5 n6 n7
  · have hf := hff.2 hs
    have hp := pk_small n0 n1 n2 n3 n4 n5 n6 n7 h2 h3 hs
    refine Or.inl ⟨hs, tagL_length n0 n1 n2 n3 n4 n5 n6 n7, by rw [railL_length, tagL_length], tagL_range n0 n1 n2 n3 n4 n5 n6 n7, railL_range _, fun w hT => ?_, fun w hT => ?_⟩
    · exact (pack_yes n0 n1 n2 n3 n4 n5 n6 n7 w hT h2 h3 hf).mono fun e w' ⟨⟨g, c, he, ho⟩, hb⟩ => ⟨_, _, he, by rw [← hp]; exact ho, hb⟩
    · exact (tlay_yes n0 n1 n2 n3 n4 n5 n6 n7 w hT h2 h3 hf hs).mono fun e w' ⟨⟨g, c, he, ho⟩, hb⟩ => ⟨_, _, he, ho, hb⟩
  · have hf : ¬ Fits [un n0, un n1, n2, n3, un n4, un n5, un n6, un n7] 8 := fun h => hs (hff.1 h)
    exact Or.inr ⟨rfl, rfl, by simp, by simp, fun w hT => (pack_no n0 n1 n2 n3 n4 n5 n6 n7 w hT h2 h3 hf).mono fun e w' ⟨he, hb⟩ => ⟨_, _, he, World.ownsRow_nil _ _ _ _, hb⟩, fun w hT => (tlay_no n0 n1 n2 n3 n4 n5 n6 n7 w hT h2 h3 hf).mono fun e w' ⟨he, hb⟩ => ⟨_, _, he, World.ownsRow_nil _ _ _ _, hb⟩⟩

/-- Tags. -/
structure Tg where
  k0 : Int
  k1 : Int
  k2 : Int
  k3 : Int
  k4 : Int
  k5 : Int
  k6 : Int
  k7 : Int

/-- Boxes with tags, rows, the table. -/
structure Ts (w0 w : World) (X : List (Nat × Tg)) (R : List (Value × List Int)) : Prop where
  bx : ∀ p ∈ X, Box w p.1 p.2.k0 p.2.k1 p.2.k2 p.2.k3 p.2.k4 p.2.k5 p.2.k6 p.2.k7
  lv : Live w (w0.heap.size + 2) R
  bel : Below w0.heap.size w0 w
  tab : Tab w
  hB : w0.heap.size + 2 ≤ w.heap.size

section
variable {w0 w w' : World} {X : List (Nat × Tg)} {R : List (Value × List Int)}
theorem Ts.below (h : Ts w0 w X R) (hb : Below w.heap.size w w') : Ts w0 w' X R := ⟨fun p hp => (h.bx p hp).below hb, h.lv.below hb, h.bel.trans (hb.mono h.bel.size), h.tab.below hb, Nat.le_trans h.hB hb.size⟩
theorem Ts.add {n : Nat} {v : Value} {xs : List Int} (h : Ts w0 w X R) (hb : Below w.heap.size w w') (hl : xs.length = n) (hr : w'.ownsRow w.heap.size 5 1 v n (xs.map (Value.int .u8))) : Ts w0 w' X ((v, xs) :: R) :=
  ⟨fun p hp => (h.bx p hp).below hb, h.lv.add hb h.hB hl hr, h.bel.trans (hb.mono h.bel.size), h.tab.below hb, Nat.le_trans h.hB hb.size⟩
theorem Ts.drewN (h : Ts w0 w X R) (k : Nat) : Ts w0 (w.drewN k) X R := h.below (below_drewN (Below.refl _ _) k)
theorem Ts.put {u : World} (h : Ts w0 w X R) (hb : Below w.heap.size w u) (n0 n1 n2 n3 n4 n5 n6 n7 : Int) : Ts w0 (u.alloc (.cells #[.int .i64 n0, .int .i64 n1, .int .u64 n2, .int .u64 n3, .int .i64 n4, .int .i64 n5, .int .i64 n6, .int .i64 n7] 24)) ((u.heap.size, ⟨n0, n1, n2, n3, n4, n5, n6, n7⟩) :: X) R := by
  have b2 := hb.alloc hb.size (.cells #[.int .i64 n0, .int .i64 n1, .int .u64 n2, .int .u64 n3, .int .i64 n4, .int .i64 n5, .int .i64 n6, .int .i64 n7] 24)
  have h2 := h.below b2
  refine ⟨fun p hp => ?_, h2.lv, h2.bel, h2.tab, h2.hB⟩
  rcases List.mem_cons.1 hp with rfl | hp
  · exact Box.made u n0 n1 n2 n3 n4 n5 n6 n7
  · exact h2.bx p hp
theorem Ts.set {n : Nat} (R1 R2 : List (Value × List Int)) {v : Value} {xs ys : List Int} (h : Ts w0 w X (R1 ++ (v, xs) :: R2)) (hg : w.grownBy w' v.ownBlock) (hl : ys.length = n) (hr : w'.ownsRow (w0.heap.size + 2) 5 1 v n (ys.map (Value.int .u8))) : Ts w0 w' X (R1 ++ (v, ys) :: R2) := by
  have ho := h.lv.rows (v, xs) (by simp)
  exact ⟨fun p hp => box_grown (h.bx p hp) ho hg, Live.set R1 R2 h.lv hg hl hr, h.bel.grown hg h.bel.size (fun k hk => by have := (ho.lt k hk).1; omega), tab_grown h.tab ho (by omega) hg, Nat.le_trans h.hB hg.size⟩
theorem Ts.box {T : Nat} {n0 n1 n2 n3 n4 n5 n6 n7 : Int} (h : Ts w0 w X R) (hm : (T, ⟨n0, n1, n2, n3, n4, n5, n6, n7⟩) ∈ X) : Box w T n0 n1 n2 n3 n4 n5 n6 n7 := h.bx _ hm
theorem Ts.row {n c : Nat} {a : Option Addr} {xs : List Int} (h : Ts w0 w X R) (hm : (.slice a n c, xs) ∈ R) (hl : xs.length = n) (hr : ∀ x ∈ xs, 0 ≤ x ∧ x ≤ 255) : Reads w a n xs := h.lv.reads hm hl hr
theorem Ts.own {n : Nat} {v : Value} {xs : List Int} (h : Ts w0 w X R) (hm : (v, xs) ∈ R) (hl : xs.length = n) : w.ownsRow (w0.heap.size + 2) 5 1 v n (xs.map (Value.int .u8)) := h.lv.own hm hl
theorem Ts.start {u : World} (n0 n1 n2 n3 n4 n5 n6 n7 m0 m1 m2 m3 m4 m5 m6 m7 : Int) (hT : Tab w0) (b : Below ((w0.alloc (.cells #[.int .i64 n0, .int .i64 n1, .int .u64 n2, .int .u64 n3, .int .i64 n4, .int .i64 n5, .int .i64 n6, .int .i64 n7] 24)).alloc (.cells #[.int .i64 m0, .int .i64 m1, .int .u64 m2, .int .u64 m3, .int .i64 m4, .int .i64 m5, .int .i64 m6, .int .i64 m7] 24)).heap.size ((w0.alloc (.cells #[.int .i64 n0, .int .i64 n1, .int .u64 n2, .int .u64 n3, .int .i64 n4, .int .i64 n5, .int .i64 n6, .int .i64 n7] 24)).alloc (.cells #[.int .i64 m0, .int .i64 m1, .int .u64 m2, .int .u64 m3, .int .i64 m4, .int .i64 m5, .int .i64 m6, .int .i64 m7] 24)) u) : Ts w0 u [(w0.heap.size + 1, ⟨m0, m1, m2, m3, m4, m5, m6, m7⟩), (w0.heap.size, ⟨n0, n1, n2, n3, n4, n5, n6, n7⟩)] [] := by
  have b0 : Below w0.heap.size w0 u := chk.below2 b
  have hs := b.size
  refine ⟨fun p hp => ?_, ⟨by simp, List.Pairwise.nil⟩, b0, hT.below b0, by simp at hs; omega⟩
  rcases List.mem_cons.1 hp with rfl | hp
  · have := (Box.made (w0.alloc (.cells #[.int .i64 n0, .int .i64 n1, .int .u64 n2, .int .u64 n3, .int .i64 n4, .int .i64 n5, .int .i64 n6, .int .i64 n7] 24)) m0 m1 m2 m3 m4 m5 m6 m7).below b
    rw [size_al] at this
    exact this
  · obtain rfl := List.mem_singleton.1 hp
    exact ((Box.made w0 n0 n1 n2 n3 n4 n5 n6 n7).below ((Below.refl _ _).alloc (Nat.le_refl _) (.cells #[.int .i64 m0, .int .i64 m1, .int .u64 m2, .int .u64 m3, .int .i64 m4, .int .i64 m5, .int .i64 m6, .int .i64 m7] 24))).below b
end

theorem lits_row {w : World} {B n : Nat} {v : Value} {xs : List Int} (h : w.ownsRow B 5 1 v n (xs.map (Value.int .u8))) (hn : 0 < n) : ∃ g c, v = .slice (some ⟨g, 0, none⟩) n c := by
  obtain ⟨g, c, e, _⟩ := own_shape h hn
  exact ⟨g, c, e⟩
end Go.Proofs.YtgdmagmbkmgdfabDoor
