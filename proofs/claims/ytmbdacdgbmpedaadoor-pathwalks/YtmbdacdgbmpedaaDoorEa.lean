/-
  SEAT YtmbdacdgbmpedaaDoor: rows that grow.
-/
import Derived.Test.YtmbdacdgbmpedaaDoorG
import Derived.Maps.AppendAt
import Derived.Laws.OwnMore
namespace Go.Proofs.YtmbdacdgbmpedaaDoor
open Go.RowKit
set_option linter.unusedVariables false


theorem grownBy_trans {a b c : World} {r : Option Nat} (h : a.grownBy b r) (k : b.grownBy c r) : a.grownBy c r :=
  ⟨k.os.trans h.os, k.tape.trans h.tape, k.output.trans h.output, Nat.le_trans h.size k.size, fun i hi hr => (k.block i (Nat.lt_of_lt_of_le hi h.size) hr).trans (h.block i hi hr)⟩
theorem drew_grown (w : World) (r : Option Nat) : w.grownBy w.drew r := ⟨rfl, rfl, rfl, Nat.le_refl _, fun _ _ _ => rfl⟩
def Own (w : World) (B g n cap : Nat) (xs : List ByteArray) : Prop :=
  w.ownsRow B 9 1 (.slice (some ⟨g, 0, none⟩) n cap) n (xs.map Value.string)
theorem own_shape {w : World} {B n : Nat} {v : Value} {xs : List Value} (h : w.ownsRow B 9 1 v n xs) (hn : 0 < n) : ∃ g cap, v = .slice (some ⟨g, 0, none⟩) n cap ∧ n ≤ cap ∧ cap ≤ maxLen ∧ B ≤ g ∧ g < w.heap.size := by
  rcases h.2 with ⟨_, h0⟩ | ⟨g, cap, cur, hv, hb, hg, hnc, hcm, _⟩
  · omega
  · refine ⟨g, cap, hv, hnc, hcm, hb, ?_⟩
    rcases Nat.lt_or_ge g w.heap.size with h | h
    · exact h
    · simp [Array.getElem?_eq_none h] at hg
theorem Own.set {w : World} {B g n cap : Nat} {xs : List ByteArray} (h : Own w B g n cap xs) (j : Nat) (z : ByteArray) : Own (w.setCell ⟨g, j, none⟩ (.string z)) B g n cap (xs.set j z) ∧ w.grownBy (w.setCell ⟨g, j, none⟩ (.string z)) (some g) := by
  unfold Own at *
  rw [List.map_set]
  exact World.ownsRow.stored h j (.string z)
theorem Own.len {w : World} {B g n cap : Nat} {xs : List ByteArray} (h : Own w B g n cap xs) : xs.length = n := by
  have := h.1
  simpa using this
theorem Own.cell {w : World} {B g n cap : Nat} {xs : List ByteArray} (h : Own w B g n cap xs) (j : Nat) (hj : j < n) : w.cell? ⟨g, j, none⟩ = some (.string (xs.getD j ByteArray.empty)) := by
  have hl := h.len
  have h1 := World.ownsRow.cellAt h j (by omega)
  rw [h1, List.getElem?_map, List.getElem?_eq_getElem (by omega)]
  simp [List.getD, List.getElem?_eq_getElem (show j < xs.length by omega)]
theorem Own.front {w : World} {B g n cap m : Nat} {xs : List Value} (h : w.ownsRow B 9 1 (.slice (some ⟨g, 0, none⟩) n cap) n xs) (hm : m ≤ n) : w.ownsRow B 9 1 (.slice (some ⟨g, 0, none⟩) m cap) m (xs.take m) := by
  obtain ⟨h1, h2⟩ := h
  refine ⟨by simp at h1 ⊢; omega, ?_⟩
  rcases h2 with ⟨h3, _⟩ | ⟨g', cap', cur, hv, hb, hg, hn, hc, hs, ht⟩
  · simp at h3
  · simp only [Value.slice.injEq, Option.some.injEq, Addr.mk.injEq, and_true, true_and] at hv
    obtain ⟨rfl, rfl⟩ := hv
    refine Or.inr ⟨g, cap, cur, rfl, hb, hg, by omega, hc, hs, ?_⟩
    rw [← ht, List.take_take]
    congr 1
    omega

/-- The mark of the list i. -/
def mt (i : Nat) : ByteArray := ⟨#[109, UInt8.ofNat (48 + i)]⟩

/-- append of a byte to a row that is grown of another one: the other one stands. -/
structure Grown (u w : World) (B : Nat) (vi v : Value) (n k : Nat) (F X : List ByteArray) : Prop where
  old : w.ownsRow B 9 1 vi n (F.map Value.string)
  new : w.ownsRow B 9 1 v (n + k) ((F ++ X).map Value.string)
  place : (∃ g c, v = .slice (some ⟨g, 0, none⟩) (n + k) c ∧ vi = .slice (some ⟨g, 0, none⟩) n c) ∨ ∀ g, v.ownBlock = some g → u.heap.size ≤ g
  grow : u.grownBy w vi.ownBlock
  was : ∀ g, vi.ownBlock = some g → g < u.heap.size

theorem grownBy_out {u w w' : World} {r s : Option Nat} (h : u.grownBy w r) (k : w.grownBy w' s) (hs : ∀ g, s = some g → some g ≠ r → u.heap.size ≤ g) : u.grownBy w' r :=
  ⟨k.os.trans h.os, k.tape.trans h.tape, k.output.trans h.output, Nat.le_trans h.size k.size, fun i hi hr => by
    rw [k.block i (Nat.lt_of_lt_of_le hi h.size) (fun e => by have := hs i e.symm hr; omega)]
    exact h.block i hi hr⟩

theorem run_grow (ty : TypeId) {u w : World} {B : Nat} {vi v : Value} {n k : Nat} {F X : List ByteArray} (h : Grown u w B vi v n k F X) (hB : B ≤ u.heap.size) (z : ByteArray) (hn : n + k ≤ 8796093020000) :
    ∃ v' w', (Builtin.append_ #[22, 22] ty #[v, .slice (some ⟨w.heap.size, 0, none⟩) 1 1]).run Tryd.prog (w.alloc (.cells #[.string z] 9)) = .ok v' w' ∧ Grown u w' B vi v' n (k + 1) F (X ++ [z]) ∧ Below B w w' := by
  obtain ⟨i0, hi, hz0, hz1, hz2⟩ := info_parts info9
  obtain ⟨h1, h2, h3, h4, h5⟩ := h
  have hsz : B ≤ (w.alloc (.cells #[.string z] 9)).heap.size := by have := h4.size; simp; omega
  have ga : u.grownBy (w.alloc (.cells #[.string z] 9)) vi.ownBlock := grownBy_out h4 (World.grownBy_alloc w _ none) (fun g e => by cases e)
  have h1a := h1.alloc (.cells #[.string z] 9)
  have h2a := h2.alloc (.cells #[.string z] 9)
  have hbel0 : Below B w (w.alloc (.cells #[.string z] 9)) := (Below.refl B w).alloc (by have := h4.size; omega) _
  have hlast : ((F ++ X) ++ [z]) = F ++ (X ++ [z]) := List.append_assoc ..
  by_cases hv : v = .slice none 0 0
  · -- nothing was there
    obtain ⟨v', w', hr, ho, hg, _, hp⟩ := run_append_own_at (P := Tryd.prog) (w := w.alloc (.cells #[.string z] 9)) B 22 ty 9 i0 (.string ByteArray.empty) 1 16 Tryd.underlying22 hi hz0 hz1 hz2 rfl (by decide) v (n + k) _ h2a ⟨w.heap.size, 0, none⟩ 1 1 [.string z] rfl (World.news_of_block (heap_alloc_new w _)) (by simp [Value.oneCell']) (by simp [maxLen]; omega) (by omega) hsz
    subst hv
    have hvi : vi.ownBlock = none ∨ vi.ownBlock ≠ none := by cases vi.ownBlock <;> simp
    have hnk : n + k = 0 := by
      rcases h2.2 with ⟨_, h⟩ | ⟨g, c, cur, e, _⟩
      · exact h
      · cases e
    have hn0 : n = 0 := by omega
    have hown : w'.ownsRow B 9 1 vi n (F.map Value.string) := by
      refine h1a.kept hg ?_
      simp only [Value.ownBlock]
      exact hvi
    refine ⟨v', w', hr, ⟨hown, ?_, Or.inr ?_, grownBy_out ga hg (fun g e => by cases e), h5⟩, hbel0.grown hg hsz (fun g e => by cases e)⟩
    · rw [← hlast, List.map_append]; exact ho
    · intro g e
      rcases hp with hp | hp
      · rw [hp] at e; cases e
      · rw [hp] at e; cases e
        have := h4.size
        simp
        omega
  · obtain ⟨g, c, cur, rfl, hBg, hgc, hnc, hcm, hcs, htk⟩ : ∃ g cap cur, v = .slice (some ⟨g, 0, none⟩) (n + k) cap ∧ B ≤ g ∧ w.heap[g]? = some (.cells cur 9 (0, 0)) ∧ n + k ≤ cap ∧ cap ≤ maxLen ∧ cur.size = cap * 1 ∧ cur.toList.take ((n + k) * 1) = ((F ++ X).map Value.string) := by
      rcases h2.2 with ⟨h, _⟩ | h
      · exact absurd h hv
      · exact h
    have hgw : g < w.heap.size := by
      rcases Nat.lt_or_ge g w.heap.size with h | h
      · exact h
      · simp [Array.getElem?_eq_none h] at hgc
    by_cases hroom : n + k + 1 ≤ c
    · obtain ⟨w', r1, r2, r3⟩ := run_append_fits (P := Tryd.prog) (w.alloc (.cells #[.string z] 9)) B 22 ty 9 i0 1 Tryd.underlying22 hi hz1 g (n + k) c _ h2a ⟨w.heap.size, 0, none⟩ 1 1 [.string z] rfl (World.news_of_block (heap_alloc_new w _)) (by simp [Value.oneCell']) hroom
      have hout : ∀ q, (some g : Option Nat) = some q → some q ≠ vi.ownBlock → u.heap.size ≤ q := by
        intro q e hne
        cases e
        rcases h3 with ⟨g', c', e1, e2⟩ | h3
        · cases e1
          rw [e2] at hne
          exact absurd rfl hne
        · exact h3 g rfl
      refine ⟨_, w', r1, ⟨?_, ?_, ?_, grownBy_out ga r3 hout, h5⟩, hbel0.grown r3 hsz (fun q e => by cases e; exact hBg)⟩
      · rcases h3 with ⟨g', c', e1, e2⟩ | h3
        · cases e1
          rw [e2]
          have hf := Own.front r2 (show n ≤ n + k + 1 by omega)
          have hFl : F.length = n := by have := h1.1; simpa using this
          rw [List.map_append, List.append_assoc, List.take_left' (by simp [hFl])] at hf
          exact hf
        · refine h1a.kept r3 ?_
          by_cases hb : vi.ownBlock = some g
          · have := h3 g rfl
            have := h5 g hb
            omega
          · exact Or.inr hb
      · rw [← hlast, List.map_append]; exact r2
      · rcases h3 with ⟨g', c', e1, e2⟩ | h3
        · cases e1
          exact Or.inl ⟨g, c, rfl, e2⟩
        · exact Or.inr fun q e => h3 q e
    · have hlx : (F ++ X).length = n + k := by have := h2.1; simpa using this
      have holds : ∀ j q, ((F ++ X).map Value.string)[j]? = some q → (w.alloc (.cells #[.string z] 9)).cell? ((⟨g, 0, none⟩ : Addr).add j) = some q := World.ownsRow.cells h2a (g := g) rfl
      have hr := run_append_grow (P := Tryd.prog) (w.alloc (.cells #[.string z] 9)) 22 ty 9 i0 (.string ByteArray.empty) Tryd.underlying22 hi hz0 ⟨g, 0, none⟩ (n + k) c ((F ++ X).map Value.string) (by rw [List.length_map, hlx, hz1, Nat.mul_one]) holds ⟨w.heap.size, 0, none⟩ 1 1 [.string z] (by simp [hz1]) (World.news_of_block (heap_alloc_new w _)) (by omega) (by omega) (growslice_fits (by omega) (by rw [hz2]; omega))
      have hge := grownCap_ge (w.alloc (.cells #[.string z] 9)) (n + k + 1) c 9
      have hcm2 : grownCap (w.alloc (.cells #[.string z] 9)) (n + k + 1) c 9 ≤ maxLen := grownCap_le_maxLen _ (n + k + 1) c 9 (by simp [maxLen]; omega)
      have gb : ∀ o, (w.alloc (.cells #[.string z] 9)).grownBy ((w.alloc (.cells #[.string z] 9)).drew.alloc o) none := fun o => ⟨rfl, rfl, rfl, by simp, fun q hq _ => Below.heap_alloc (w.alloc (.cells #[.string z] 9)).drew o q hq⟩
      have hkeep : vi.ownBlock = none ∨ vi.ownBlock ≠ none := by cases vi.ownBlock <;> simp
      refine ⟨_, _, hr, ⟨h1a.kept (gb _) hkeep, ⟨?_, .inr ⟨(w.alloc (.cells #[.string z] 9)).heap.size, _, _, rfl, hsz, heap_alloc_new (w.alloc (.cells #[.string z] 9)).drew _, hge, hcm2, ?_, ?_⟩⟩, Or.inr ?_, grownBy_out ga (gb _) (fun g e => by cases e), h5⟩, hbel0.grown (gb _) hsz (fun q e => by cases e)⟩
      · rw [← hlast, List.length_map, List.length_append, hlx]; simp; rfl
      · simp only [Array.size_append, List.size_toArray, size_zeroCells, List.length_map, hlx, Value.cells]
        simp
        omega
      · simp only [Array.toList_append, List.append_assoc, Nat.mul_one]
        rw [← List.append_assoc, List.take_left' (by rw [List.length_append, List.length_map, hlx]; rfl), ← hlast]
        simp
      · intro q e
        cases e
        have := h4.size
        simp
        omega
/-- m rows in a list at the block G, each in a block of its own. -/
structure Apart (w : World) (B G K m : Nat) (vs : Nat → Value) (ns : Nat → Nat) (X : Nat → List ByteArray) : Prop where
  outer : ∀ i, i < m → w.cell? ⟨G, i, none⟩ = some (vs i)
  small : ∀ i, i < m → ns i ≤ 8796093010000
  rows : ∀ i, i < m → w.ownsRow B 9 1 (vs i) (ns i) ((X i).map Value.string)
  ne : ∀ i j, i < m → j < m → i ≠ j → ∀ g, (vs i).ownBlock = some g → (vs j).ownBlock ≠ some g
  neG : ∀ i, i < m → (vs i).ownBlock ≠ some G
  hG : G < w.heap.size
  mark : ∀ i, i < 8 → w.cell? ⟨K, i, none⟩ = some (.string (mt i))
  neK : ∀ i, i < m → (vs i).ownBlock ≠ some K
  hK : K < w.heap.size

theorem Apart.move {w w' : World} {B G K m : Nat} {vs : Nat → Value} {ns : Nat → Nat} {X Y : Nat → List ByteArray} (h : Apart w B G K m vs ns X) (i : Nat) (hi : i < m) (hg : w.grownBy w' (vs i).ownBlock)
    (hr : w'.ownsRow B 9 1 (vs i) (ns i) ((Y i).map Value.string)) (hY : ∀ j, j < m → j ≠ i → Y j = X j) : Apart w' B G K m vs ns Y := by
  obtain ⟨h1, h2, h3, h4, h5, h6, h7, h8, h9⟩ := h
  refine ⟨fun j hj => ?_, h2, fun j hj => ?_, h4, h5, Nat.lt_of_lt_of_le h6 hg.size, fun j hj => ?_, h8, Nat.lt_of_lt_of_le h9 hg.size⟩
  · rw [World.cell?_of_block (hg.block G h6 (fun e => h5 i hi e.symm))]
    exact h1 j hj
  · by_cases e : j = i
    · subst e; exact hr
    · rw [hY j hj e]
      refine (h3 j hj).kept hg ?_
      cases hb : (vs j).ownBlock with
      | none => exact Or.inl rfl
      | some g => exact Or.inr (fun e2 => h4 j i hj hi e g hb e2.symm)
  · rw [World.cell?_of_block (hg.block K h9 (fun e => h8 i hi e.symm))]
    exact h7 j hj

theorem Apart.drewN {w : World} {B G K m : Nat} {vs : Nat → Value} {ns : Nat → Nat} {X : Nat → List ByteArray} (h : Apart w B G K m vs ns X) (q : Nat) : Apart (w.drewN q) B G K m vs ns X := by
  obtain ⟨h1, h2, h3, h4, h5, h6, h7, h8, h9⟩ := h
  exact ⟨fun i hi => by simpa using h1 i hi, h2, fun i hi => h3 i hi, h4, h5, h6, fun i hi => by simpa using h7 i hi, h8, h9⟩

theorem own_form {w : World} {B n : Nat} {v : Value} {xs : List Value} (h : w.ownsRow B 9 1 v n xs) : ∃ a c, v = .slice a n c := by
  rcases h.2 with ⟨hv, h0⟩ | ⟨g, cap, cur, hv, _⟩
  · exact ⟨none, 0, by rw [hv, h0]⟩
  · exact ⟨_, _, hv⟩

/-- The row i with its first k marks. -/
def fillT (i k : Nat) (xs : List ByteArray) : List ByteArray := List.replicate k (mt i) ++ xs.drop k
theorem fillT_step (i k : Nat) (xs : List ByteArray) (h : k < xs.length) : (fillT i k xs).set k (mt i) = fillT i (k + 1) xs := by
  unfold fillT
  rw [List.set_append_right _ _ (by simp), List.length_replicate, Nat.sub_self, List.drop_eq_getElem_cons h, List.set_cons_zero, List.replicate_succ']
  simp
def markT (i n : Nat) : List ByteArray := List.replicate n (mt i)
theorem fillT_all (i n : Nat) (xs : List ByteArray) (h : xs.length = n) : fillT i n xs = markT i n := by
  unfold fillT markT
  rw [List.drop_of_length_le (by omega), List.append_nil]
theorem markT_succ (i n : Nat) : markT i (n + 1) = markT i n ++ [mt i] := by simp [markT, List.replicate_succ']
theorem markT_length (i n : Nat) : (markT i n).length = n := by simp [markT]
theorem markT_getD (i n k : Nat) (h : k < n) : (markT i n).getD k ByteArray.empty = mt i := by simp [markT, List.getD_eq_getElem?_getD, h]
theorem markT_add (i n k : Nat) : markT i n ++ markT i k = markT i (n + k) := by simp [markT]

/-- The rows when the first i are filled. -/
def part1 (ns : Nat → Nat) (X : Nat → List ByteArray) (i : Nat) : Nat → List ByteArray := fun j => if j < i then markT j (ns j) else X j
theorem grown_start {w : World} {B n : Nat} {v : Value} {F : List ByteArray} (h : w.ownsRow B 9 1 v n (F.map Value.string)) : Grown w w B v v n 0 F [] := by
  refine ⟨h, by simpa using h, ?_, World.grownBy.refl _ _, fun g hg => (h.lt g hg).2⟩
  rcases h.2 with ⟨rfl, _⟩ | ⟨g, cap, cur, rfl, _⟩
  · exact Or.inr fun g e => by cases e
  · exact Or.inl ⟨g, cap, rfl, rfl⟩

theorem wpList_grow {u w : World} {ops : Array Oper} {rest : List Oper} {o : Oper} {a : Act} {Q : Exit → Act → World → Prop} (hgd : o.guard = none) (s x : Operand)
    (ho : o.op = .call { callee := .builtin .append, args := #[s, x], argTypes := #[22, 22] })
    {B : Nat} {vi v : Value} {n k : Nat} {F X : List ByteArray} (h : Grown u w B vi v n k F X) (hB : B ≤ u.heap.size) (z : ByteArray) (hn : n + k ≤ 8796093020000)
    (hs : a.eval s = v) (hx : a.eval x = .slice (some ⟨w.heap.size, 0, none⟩) 1 1)
    (hk : ∀ v' w', Grown u w' B vi v' n (k + 1) F (X ++ [z]) → Below B w w' → wpList Tryd.prog ops Q rest (a.put o.dst v') w') : wpList Tryd.prog ops Q (o :: rest) a (w.alloc (.cells #[.string z] 9)) := by
  obtain ⟨v', w', hr, h1, h2⟩ := run_grow o.type h hB z hn
  refine wpList_plain hgd fun K hK => ?_
  unfold Oper.wp
  simp [execOp, ho, resolve, invoke, builtin, hs, hx, hr, Result.andThen]
  exact hK _ _ (hk v' w' h1 h2)

end Go.Proofs.YtmbdacdgbmpedaaDoor
