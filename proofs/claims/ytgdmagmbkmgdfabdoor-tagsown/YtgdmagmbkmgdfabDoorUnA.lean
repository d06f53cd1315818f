/-
  SEAT YtgdmagmbkmgdfabDoor: lists of rows that have memory of their own.
-/
import Derived.Test.YtgdmagmbkmgdfabDoorRdF
import Derived.Maps.AppendAt
namespace Go.Proofs.YtgdmagmbkmgdfabDoor
open Go.RowKit
set_option linter.unusedVariables false

/-- The mark of the list i at its place k. -/
def tl (i k : Nat) : Int := if k % 2 = 0 then (7 * (i : Int)) % 256 else bits .xor .u8 ((i : Int) % 256) 85

theorem tl_range (i k : Nat) : 0 ≤ tl i k ∧ tl i k ≤ 255 := by
  unfold tl
  split
  · omega
  · exact xor_bd _ 85 (by omega) (by omega) (by decide) (by decide)

theorem tell_any (i k : Nat) (w : World) (hi : i ≤ 1000) (hk : k ≤ 140737488355000) : Calls Tryd.prog 20 #[.int .i64 (i : Int), .int .i64 (k : Int)] w fun e w' => e = .returned (.int .u8 (tl i k)) ∧ w = w' := by
  by_cases h : k % 2 = 0
  · have e1 : (k : Int) % 2 = 0 := by omega
    have e2 : tl i k = (7 * (i : Int)) % 256 := if_pos h
    go_enter Tryd.func20, Tryd.ntmps20
    go_wp2
    go_ret
    exact ⟨by rw [e2]; rfl, rfl⟩
  · have e1 : (k : Int) % 2 = 1 := by omega
    have e2 : tl i k = bits .xor .u8 ((i : Int) % 256) 85 := if_neg h
    go_enter Tryd.func20, Tryd.ntmps20
    go_wp2
    go_ret
    exact ⟨by rw [e2]; rfl, rfl⟩

/-- append of a byte to a row that is grown of another one: the other one stands. -/
structure Grown (u w : World) (B : Nat) (vi v : Value) (n k : Nat) (F X : List Int) : Prop where
  old : w.ownsRow B 5 1 vi n (F.map (Value.int .u8))
  new : w.ownsRow B 5 1 v (n + k) ((F ++ X).map (Value.int .u8))
  place : (∃ g c, v = .slice (some ⟨g, 0, none⟩) (n + k) c ∧ vi = .slice (some ⟨g, 0, none⟩) n c) ∨ ∀ g, v.ownBlock = some g → u.heap.size ≤ g
  grow : u.grownBy w vi.ownBlock
  was : ∀ g, vi.ownBlock = some g → g < u.heap.size

theorem grownBy_out {u w w' : World} {r s : Option Nat} (h : u.grownBy w r) (k : w.grownBy w' s) (hs : ∀ g, s = some g → some g ≠ r → u.heap.size ≤ g) : u.grownBy w' r :=
  ⟨k.os.trans h.os, k.tape.trans h.tape, k.output.trans h.output, Nat.le_trans h.size k.size, fun i hi hr => by
    rw [k.block i (Nat.lt_of_lt_of_le hi h.size) (fun e => by have := hs i e.symm hr; omega)]
    exact h.block i hi hr⟩

theorem run_grow (ty : TypeId) {u w : World} {B : Nat} {vi v : Value} {n k : Nat} {F X : List Int} (h : Grown u w B vi v n k F X) (hB : B ≤ u.heap.size) (z : Int) (hz : 0 ≤ z ∧ z ≤ 255) (hn : n + k ≤ 1000000) :
    ∃ v' w', (Builtin.append_ #[25, 25] ty #[v, .slice (some ⟨w.heap.size, 0, none⟩) 1 1]).run Tryd.prog (w.alloc (.cells #[.int .u8 z] 5)) = .ok v' w' ∧ Grown u w' B vi v' n (k + 1) F (X ++ [z]) ∧ Below B w w' := by
  obtain ⟨i0, hi, hz0, hz1, hz2⟩ := info_parts info5
  obtain ⟨h1, h2, h3, h4, h5⟩ := h
  have hrd := one_reads w z hz.1 hz.2
  have hsz : B ≤ (w.alloc (.cells #[.int .u8 z] 5)).heap.size := by have := h4.size; simp; omega
  have ga : u.grownBy (w.alloc (.cells #[.int .u8 z] 5)) vi.ownBlock := grownBy_out h4 (World.grownBy_alloc w _ none) (fun g e => by cases e)
  have h1a := h1.alloc (.cells #[.int .u8 z] 5)
  have h2a := h2.alloc (.cells #[.int .u8 z] 5)
  have hbel0 : Below B w (w.alloc (.cells #[.int .u8 z] 5)) := (Below.refl B w).alloc (by have := h4.size; omega) _
  have hlast : ((F ++ X) ++ [z]) = F ++ (X ++ [z]) := List.append_assoc ..
  by_cases hv : v = .slice none 0 0
  · -- nothing was there
    obtain ⟨v', w', hr, ho, hg, _, hp⟩ := run_append_own_at (P := Tryd.prog) (w := w.alloc (.cells #[.int .u8 z] 5)) B 25 ty 5 i0 (.int .u8 0) 1 1 Tryd.underlying25 hi hz0 hz1 hz2 rfl (by decide) v (n + k) _ h2a ⟨w.heap.size, 0, none⟩ 1 1 [.int .u8 z] rfl (news_one _ _) (by simp [Value.oneCell']) (by simp [maxLen]; omega) (by omega) hsz
    subst hv
    have hvi : vi.ownBlock = none ∨ vi.ownBlock ≠ none := by cases vi.ownBlock <;> simp
    have hnk : n + k = 0 := by
      rcases h2.2 with ⟨_, h⟩ | ⟨g, c, cur, e, _⟩
      · exact h
      · cases e
    have hn0 : n = 0 := by omega
    have hown : w'.ownsRow B 5 1 vi n (F.map (Value.int .u8)) := by
      refine h1a.kept hg ?_
      simp only [Value.ownBlock]
      exact hvi
    refine ⟨v', w', hr, ⟨hown, ?_, Or.inr ?_, grownBy_out ga hg (fun g e => by cases e), h5⟩, hbel0.grown hg hsz (fun g e => by cases e)⟩
    · rw [← hlast, List.map_append]; exact ho
    · intro g e
      rcases hp with hp | hp
      · rw [hp] at e; cases e
      · rw [hp] at e; cases e
        have := h4.size
        simp
        omega
  · obtain ⟨g, c, cur, rfl, hBg, hgc, hnc, hcm, hcs, htk⟩ : ∃ g cap cur, v = .slice (some ⟨g, 0, none⟩) (n + k) cap ∧ B ≤ g ∧ w.heap[g]? = some (.cells cur 5 (0, 0)) ∧ n + k ≤ cap ∧ cap ≤ maxLen ∧ cur.size = cap * 1 ∧ cur.toList.take ((n + k) * 1) = ((F ++ X).map (Value.int .u8)) := by
      rcases h2.2 with ⟨h, _⟩ | h
      · exact absurd h hv
      · exact h
    have hgw : g < w.heap.size := by
      rcases Nat.lt_or_ge g w.heap.size with h | h
      · exact h
      · simp [Array.getElem?_eq_none h] at hgc
    by_cases hroom : n + k + 1 ≤ c
    · obtain ⟨w', r1, r2, r3⟩ := run_append_fits (P := Tryd.prog) (w.alloc (.cells #[.int .u8 z] 5)) B 25 ty 5 i0 1 Tryd.underlying25 hi hz1 g (n + k) c _ h2a ⟨w.heap.size, 0, none⟩ 1 1 [.int .u8 z] rfl (news_one _ _) (by simp [Value.oneCell']) hroom
      have hout : ∀ q, (some g : Option Nat) = some q → some q ≠ vi.ownBlock → u.heap.size ≤ q := by
        intro q e hne
        cases e
        rcases h3 with ⟨g', c', e1, e2⟩ | h3
        · cases e1
          rw [e2] at hne
          exact absurd rfl hne
        · exact h3 g rfl
      refine ⟨_, w', r1, ⟨?_, ?_, ?_, grownBy_out ga r3 hout, h5⟩, hbel0.grown r3 hsz (fun q e => by cases e; exact hBg)⟩
      · rcases h3 with ⟨g', c', e1, e2⟩ | h3
        · cases e1
          rw [e2]
          have hf := Own.front r2 (show n ≤ n + k + 1 by omega)
          have hFl : F.length = n := by have := h1.1; simpa using this
          rw [List.map_append, List.append_assoc, List.take_left' (by simp [hFl])] at hf
          exact hf
        · refine h1a.kept r3 ?_
          by_cases hb : vi.ownBlock = some g
          · have := h3 g rfl
            have := h5 g hb
            omega
          · exact Or.inr hb
      · rw [← hlast, List.map_append]; exact r2
      · rcases h3 with ⟨g', c', e1, e2⟩ | h3
        · cases e1
          exact Or.inl ⟨g, c, rfl, e2⟩
        · exact Or.inr fun q e => h3 q e
    · have hlx : (F ++ X).length = n + k := by have := h2.1; simpa using this
      have holds : ∀ j q, ((F ++ X).map (Value.int .u8))[j]? = some q → (w.alloc (.cells #[.int .u8 z] 5)).cell? ((⟨g, 0, none⟩ : Addr).add j) = some q := World.ownsRow.cells h2a (g := g) rfl
      have hr := run_append_grow (P := Tryd.prog) (w.alloc (.cells #[.int .u8 z] 5)) 25 ty 5 i0 (.int .u8 0) Tryd.underlying25 hi hz0 ⟨g, 0, none⟩ (n + k) c ((F ++ X).map (Value.int .u8)) (by rw [List.length_map, hlx, hz1, Nat.mul_one]) holds ⟨w.heap.size, 0, none⟩ 1 1 [.int .u8 z] (by simp [hz1]) (news_one _ _) (by omega) (by omega) (growslice_fits (by omega) (by rw [hz2]; omega))
      have hge := grownCap_ge (w.alloc (.cells #[.int .u8 z] 5)) (n + k + 1) c 5
      have hcm2 : grownCap (w.alloc (.cells #[.int .u8 z] 5)) (n + k + 1) c 5 ≤ maxLen := grownCap_le_maxLen _ (n + k + 1) c 5 (by simp [maxLen]; omega)
      have gb : ∀ o, (w.alloc (.cells #[.int .u8 z] 5)).grownBy ((w.alloc (.cells #[.int .u8 z] 5)).drew.alloc o) none := fun o => ⟨rfl, rfl, rfl, by simp, fun q hq _ => Below.heap_alloc (w.alloc (.cells #[.int .u8 z] 5)).drew o q hq⟩
      have hkeep : vi.ownBlock = none ∨ vi.ownBlock ≠ none := by cases vi.ownBlock <;> simp
      refine ⟨_, _, hr, ⟨h1a.kept (gb _) hkeep, ⟨?_, .inr ⟨(w.alloc (.cells #[.int .u8 z] 5)).heap.size, _, _, rfl, hsz, heap_alloc_new (w.alloc (.cells #[.int .u8 z] 5)).drew _, hge, hcm2, ?_, ?_⟩⟩, Or.inr ?_, grownBy_out ga (gb _) (fun g e => by cases e), h5⟩, hbel0.grown (gb _) hsz (fun q e => by cases e)⟩
      · rw [← hlast, List.length_map, List.length_append, hlx]; simp; rfl
      · simp only [Array.size_append, List.size_toArray, size_zeroCells, List.length_map, hlx, Value.cells]
        simp
        omega
      · simp only [Array.toList_append, List.append_assoc, Nat.mul_one]
        rw [← List.append_assoc, List.take_left' (by rw [List.length_append, List.length_map, hlx]; rfl), ← hlast]
        simp
      · intro q e
        cases e
        have := h4.size
        simp
        omega
end Go.Proofs.YtgdmagmbkmgdfabDoor
