/-
  SEAT YtgdmagmbkmgdfabDoor: rows of the call's own, all at once; how all stands while TagsPacks goes on.
-/
import Derived.Test.YtgdmagmbkmgdfabDoorPd
import Derived.Maps.AppendAt
namespace Go.Proofs.YtgdmagmbkmgdfabDoor
open Go.RowKit
set_option linter.unusedVariables false

def Far (p q : Value × List Int) : Prop := ∀ g, p.1.ownBlock = some g → q.1.ownBlock ≠ some g
theorem Far.symm {p q : Value × List Int} (h : Far p q) : Far q p := fun g h1 h2 => h g h2 h1

/-- Rows, each in a block of its own. -/
structure Live (w : World) (B : Nat) (R : List (Value × List Int)) : Prop where
  rows : ∀ p ∈ R, w.ownsRow B 5 1 p.1 p.2.length (p.2.map (Value.int .u8))
  far : R.Pairwise Far

theorem own_of_below {w w' : World} {B n : Nat} {v : Value} {xs : List Value} {e : TypeId} (h : w.ownsRow B e 1 v n xs) (hb : Below w.heap.size w w') : w'.ownsRow B e 1 v n xs := by
  obtain ⟨h1, h2⟩ := h
  refine ⟨h1, ?_⟩
  rcases h2 with h2 | ⟨g', cap', cur, hv, hg, hh, r⟩
  · exact Or.inl h2
  · refine Or.inr ⟨g', cap', cur, hv, hg, ?_, r⟩
    rw [hb.block g' ?_]
    · exact hh
    · rcases Nat.lt_or_ge g' w.heap.size with h | h
      · exact h
      · simp [Array.getElem?_eq_none h] at hh

theorem Live.below {w w' : World} {B : Nat} {R : List (Value × List Int)} (h : Live w B R) (hb : Below w.heap.size w w') : Live w' B R :=
  ⟨fun p hp => own_of_below (h.rows p hp) hb, h.far⟩

theorem own_base {w : World} {B B' n : Nat} {v : Value} {xs : List Value} (h : w.ownsRow B 5 1 v n xs) (hb : B' ≤ B) : w.ownsRow B' 5 1 v n xs :=
  ⟨h.1, h.2.imp id fun ⟨g, c, cur, h1, h2, h3⟩ => ⟨g, c, cur, h1, Nat.le_trans hb h2, h3⟩⟩

theorem Live.add {w w' : World} {B n : Nat} {R : List (Value × List Int)} {v : Value} {xs : List Int} (h : Live w B R) (hb : Below w.heap.size w w') (hB : B ≤ w.heap.size) (hl : xs.length = n)
    (hr : w'.ownsRow w.heap.size 5 1 v n (xs.map (Value.int .u8))) : Live w' B ((v, xs) :: R) := by
  subst hl
  refine ⟨fun p hp => ?_, List.pairwise_cons.2 ⟨fun q hq g h1 h2 => ?_, h.far⟩⟩
  · rcases List.mem_cons.1 hp with rfl | hp
    · exact own_base hr hB
    · exact (h.below hb).rows p hp
  · have := (hr.lt g h1).1
    have := ((h.rows q hq).lt g h2).2
    omega

theorem Live.set {w w' : World} {B n : Nat} (R1 R2 : List (Value × List Int)) {v : Value} {xs ys : List Int} (h : Live w B (R1 ++ (v, xs) :: R2)) (hg : w.grownBy w' v.ownBlock) (hl : ys.length = n)
    (hr : w'.ownsRow B 5 1 v n (ys.map (Value.int .u8))) : Live w' B (R1 ++ (v, ys) :: R2) := by
  subst hl
  have hf := h.far
  rw [List.pairwise_append, List.pairwise_cons] at hf
  obtain ⟨f1, ⟨f2, f3⟩, f4⟩ := hf
  have sep : ∀ p ∈ R1 ++ (v, xs) :: R2, Far p (v, xs) → w'.ownsRow B 5 1 p.1 p.2.length (p.2.map (Value.int .u8)) := fun p hp hfar => by
    refine (h.rows p hp).kept hg ?_
    cases hb : p.1.ownBlock with
    | none => exact Or.inl rfl
    | some g => exact Or.inr fun e => hfar g hb e.symm
  refine ⟨fun p hp => ?_, ?_⟩
  · rcases List.mem_append.1 hp with hp | hp
    · exact sep p (by simp [hp]) (f4 p hp (v, xs) (by simp))
    · rcases List.mem_cons.1 hp with rfl | hp
      · exact hr
      · exact sep p (by simp [hp]) (f2 p hp).symm
  · rw [List.pairwise_append, List.pairwise_cons]
    exact ⟨f1, ⟨fun q hq => f2 q hq, f3⟩, fun p hp q hq => by
      rcases List.mem_cons.1 hq with rfl | hq
      · exact f4 p hp (v, xs) (by simp)
      · exact f4 p hp q (by simp [hq])⟩

theorem Live.drewN {w : World} {B : Nat} {R : List (Value × List Int)} (h : Live w B R) (k : Nat) : Live (w.drewN k) B R := ⟨fun p hp => h.rows p hp, h.far⟩

theorem Live.own {w : World} {B n : Nat} {R : List (Value × List Int)} {v : Value} {xs : List Int} (h : Live w B R) (hm : (v, xs) ∈ R) (hl : xs.length = n) : w.ownsRow B 5 1 v n (xs.map (Value.int .u8)) := by
  subst hl
  exact h.rows _ hm

theorem reads_of {w : World} {B n c : Nat} {a : Option Addr} {xs : List Int} (h : w.ownsRow B 5 1 (.slice a n c) n (xs.map (Value.int .u8))) (hr : ∀ x ∈ xs, 0 ≤ x ∧ x ≤ 255) : Reads w a n xs := by
  obtain ⟨a', c', e, hrd⟩ := own_any h hr
  cases e
  exact hrd

theorem Live.reads {w : World} {B n c : Nat} {R : List (Value × List Int)} {a : Option Addr} {xs : List Int} (h : Live w B R) (hm : (.slice a n c, xs) ∈ R) (hl : xs.length = n) (hr : ∀ x ∈ xs, 0 ≤ x ∧ x ≤ 255) : Reads w a n xs :=
  reads_of (h.own hm hl) hr



theorem Live.grow {w w' : World} {B n H : Nat} (R1 R2 : List (Value × List Int)) {v v' : Value} {xs ys : List Int} (h : Live w B (R1 ++ (v, xs) :: R2)) (hg : w.grownBy w' v.ownBlock) (hat : v'.ownBlock = v.ownBlock ∨ v'.ownBlock = some H) (hH : w.heap.size ≤ H) (hl : ys.length = n)
    (hr : w'.ownsRow B 5 1 v' n (ys.map (Value.int .u8))) : Live w' B (R1 ++ (v', ys) :: R2) := by
  subst hl
  have hf := h.far
  rw [List.pairwise_append, List.pairwise_cons] at hf
  obtain ⟨f1, ⟨f2, f3⟩, f4⟩ := hf
  have sep : ∀ p ∈ R1 ++ (v, xs) :: R2, Far p (v, xs) → w'.ownsRow B 5 1 p.1 p.2.length (p.2.map (Value.int .u8)) := fun p hp hfar => by
    refine (h.rows p hp).kept hg ?_
    cases hb : p.1.ownBlock with
    | none => exact Or.inl rfl
    | some g => exact Or.inr fun e => hfar g hb e.symm
  have far' : ∀ p ∈ R1 ++ (v, xs) :: R2, Far p (v, xs) → Far p (v', ys) := fun p hp hfar g hb e => by
    rcases hat with h1 | h1
    · exact hfar g hb (by rw [← h1]; exact e)
    · have := ((h.rows p hp).lt g hb).2
      have e2 : (v', ys).1.ownBlock = some H := h1
      rw [e2] at e
      cases e
      omega
  refine ⟨fun p hp => ?_, ?_⟩
  · rcases List.mem_append.1 hp with hp | hp
    · exact sep p (by simp [hp]) (f4 p hp (v, xs) (by simp))
    · rcases List.mem_cons.1 hp with rfl | hp
      · exact hr
      · exact sep p (by simp [hp]) (f2 p hp).symm
  · rw [List.pairwise_append, List.pairwise_cons]
    exact ⟨f1, ⟨fun q hq => (far' q (by simp [hq]) (f2 q hq).symm).symm, f3⟩, fun p hp q hq => by
      rcases List.mem_cons.1 hq with rfl | hq
      · exact far' p (by simp [hp]) (f4 p hp (v, xs) (by simp))
      · exact f4 p hp q (by simp [hq])⟩

/-- The box with the tags, all that was told since, the table. -/
structure Pt (w0 w : World) (n0 n1 n2 n3 n4 n5 n6 n7 : Int) (R : List (Value × List Int)) : Prop where
  bx : Box w w0.heap.size n0 n1 n2 n3 n4 n5 n6 n7
  lv : Live w (w0.heap.size + 1) R
  bel : Below w0.heap.size w0 w
  tab : Tab w

section
variable {w0 w w' : World} {n0 n1 n2 n3 n4 n5 n6 n7 : Int} {R : List (Value × List Int)}
theorem Pt.hB (h : Pt w0 w n0 n1 n2 n3 n4 n5 n6 n7 R) : w0.heap.size + 1 ≤ w.heap.size := h.bx.lt
theorem Pt.start (hT : Tab w0) : Pt w0 (w0.alloc (.cells #[.int .i64 n0, .int .i64 n1, .int .u64 n2, .int .u64 n3, .int .i64 n4, .int .i64 n5, .int .i64 n6, .int .i64 n7] 24)) n0 n1 n2 n3 n4 n5 n6 n7 [] :=
  have b := (Below.refl w0.heap.size w0).alloc (Nat.le_refl _) (.cells #[.int .i64 n0, .int .i64 n1, .int .u64 n2, .int .u64 n3, .int .i64 n4, .int .i64 n5, .int .i64 n6, .int .i64 n7] 24)
  ⟨Box.made w0 n0 n1 n2 n3 n4 n5 n6 n7, ⟨by simp, List.Pairwise.nil⟩, b, hT.below b⟩
theorem Pt.below (h : Pt w0 w n0 n1 n2 n3 n4 n5 n6 n7 R) (hb : Below w.heap.size w w') : Pt w0 w' n0 n1 n2 n3 n4 n5 n6 n7 R := ⟨h.bx.below hb, h.lv.below hb, h.bel.trans (hb.mono h.bel.size), h.tab.below hb⟩
theorem Pt.add {n : Nat} {v : Value} {xs : List Int} (h : Pt w0 w n0 n1 n2 n3 n4 n5 n6 n7 R) (hb : Below w.heap.size w w') (hl : xs.length = n) (hr : w'.ownsRow w.heap.size 5 1 v n (xs.map (Value.int .u8))) : Pt w0 w' n0 n1 n2 n3 n4 n5 n6 n7 ((v, xs) :: R) :=
  ⟨h.bx.below hb, h.lv.add hb h.hB hl hr, h.bel.trans (hb.mono h.bel.size), h.tab.below hb⟩
theorem Pt.drewN (h : Pt w0 w n0 n1 n2 n3 n4 n5 n6 n7 R) (k : Nat) : Pt w0 (w.drewN k) n0 n1 n2 n3 n4 n5 n6 n7 R := h.below (below_drewN (Below.refl _ _) k)
theorem tab_grown {u u' : World} {B n : Nat} {v : Value} {xs : List Value} (h : Tab u) (ho : u.ownsRow B 5 1 v n xs) (hB : 0 < B) (hg : u.grownBy u' v.ownBlock) : Tab u' := fun i hi => by
  have h1 := h i hi
  have hlt := block_lt_of_cell h1
  rw [World.cell?_of_block (hg.block 0 hlt (fun e => by have := (ho.lt 0 e.symm).1; omega))]
  exact h1
theorem Pt.set {n : Nat} (R1 R2 : List (Value × List Int)) {v : Value} {xs ys : List Int} (h : Pt w0 w n0 n1 n2 n3 n4 n5 n6 n7 (R1 ++ (v, xs) :: R2)) (hg : w.grownBy w' v.ownBlock) (hl : ys.length = n) (hr : w'.ownsRow (w0.heap.size + 1) 5 1 v n (ys.map (Value.int .u8))) : Pt w0 w' n0 n1 n2 n3 n4 n5 n6 n7 (R1 ++ (v, ys) :: R2) := by
  have ho := h.lv.rows (v, xs) (by simp)
  exact ⟨box_grown h.bx ho hg, Live.set R1 R2 h.lv hg hl hr, h.bel.grown hg h.bel.size (fun k hk => by have := (ho.lt k hk).1; omega), tab_grown h.tab ho (by omega) hg⟩
theorem Pt.grow {n H : Nat} (R1 R2 : List (Value × List Int)) {v v' : Value} {xs ys : List Int} (h : Pt w0 w n0 n1 n2 n3 n4 n5 n6 n7 (R1 ++ (v, xs) :: R2)) (hg : w.grownBy w' v.ownBlock) (hat : v'.ownBlock = v.ownBlock ∨ v'.ownBlock = some H) (hH : w.heap.size ≤ H) (hl : ys.length = n) (hr : w'.ownsRow (w0.heap.size + 1) 5 1 v' n (ys.map (Value.int .u8))) : Pt w0 w' n0 n1 n2 n3 n4 n5 n6 n7 (R1 ++ (v', ys) :: R2) := by
  have ho := h.lv.rows (v, xs) (by simp)
  exact ⟨box_grown h.bx ho hg, Live.grow R1 R2 h.lv hg hat hH hl hr, h.bel.grown hg h.bel.size (fun k hk => by have := (ho.lt k hk).1; omega), tab_grown h.tab ho (by omega) hg⟩
theorem Pt.row {n c : Nat} {a : Option Addr} {xs : List Int} (h : Pt w0 w n0 n1 n2 n3 n4 n5 n6 n7 R) (hm : (.slice a n c, xs) ∈ R) (hl : xs.length = n) (hr : ∀ x ∈ xs, 0 ≤ x ∧ x ≤ 255) : Reads w a n xs := h.lv.reads hm hl hr
theorem Pt.own {n : Nat} {v : Value} {xs : List Int} (h : Pt w0 w n0 n1 n2 n3 n4 n5 n6 n7 R) (hm : (v, xs) ∈ R) (hl : xs.length = n) : w.ownsRow (w0.heap.size + 1) 5 1 v n (xs.map (Value.int .u8)) := h.lv.own hm hl
theorem Pt.cells (h : Pt w0 w n0 n1 n2 n3 n4 n5 n6 n7 R) : w.cell? ⟨w0.heap.size, 0, none⟩ = some (.int .i64 n0) ∧ w.cell? ⟨w0.heap.size, 1, none⟩ = some (.int .i64 n1) ∧ w.cell? ⟨w0.heap.size, 2, none⟩ = some (.int .u64 n2) ∧ w.cell? ⟨w0.heap.size, 3, none⟩ = some (.int .u64 n3) ∧ w.cell? ⟨w0.heap.size, 4, none⟩ = some (.int .i64 n4) ∧ w.cell? ⟨w0.heap.size, 5, none⟩ = some (.int .i64 n5) ∧ w.cell? ⟨w0.heap.size, 6, none⟩ = some (.int .i64 n6) ∧ w.cell? ⟨w0.heap.size, 7, none⟩ = some (.int .i64 n7) := (t8_cells h.bx).1
end

/-- The first k bytes marked. -/
def mk17 (z : Int) (k : Nat) (L : List Int) : List Int := List.replicate k z ++ L.drop k
theorem mk17_step (z : Int) (L : List Int) (k : Nat) (h : k < L.length) : (mk17 z k L).set k z = mk17 z (k + 1) L := by
  unfold mk17
  rw [List.set_append_right _ _ (by simp), List.length_replicate, Nat.sub_self, List.drop_eq_getElem_cons h, List.set_cons_zero, List.replicate_succ']
  simp
theorem mk17_length (z : Int) (L : List Int) (k : Nat) (h : k ≤ L.length) : (mk17 z k L).length = L.length := by simp [mk17]; omega
theorem mk17_all (z : Int) (L : List Int) (n : Nat) (h : L.length = n) : mk17 z n L = List.replicate n z := by
  unfold mk17
  rw [List.drop_of_length_le (by omega), List.append_nil]
theorem last_of {w : World} {B g n c : Nat} {z y : Int} (h : w.ownsRow B 5 1 (.slice (some ⟨g, 0, none⟩) (n + 1) c) (n + 1) ((List.replicate n z ++ [y]).map (Value.int .u8))) : w.cell? ⟨g, n, none⟩ = some (.int .u8 y) := by
  rw [Own.cell (xs := List.replicate n z ++ [y]) h n (by omega)]
  simp [List.getD_eq_getElem?_getD]
end Go.Proofs.YtgdmagmbkmgdfabDoor
