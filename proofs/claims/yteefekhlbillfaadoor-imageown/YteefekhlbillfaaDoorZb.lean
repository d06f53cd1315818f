/-
  SEAT YteefekhlbillfaaDoor: Zb, of several texts.
-/
import Derived.Test.YteefekhlbillfaaDoorZa
import Derived.Test.YteefekhlbillfaaDoorE
import Derived.Maps.AppendAt
import Derived.Test.YteefekhlbillfaaDoorK
namespace Go.Proofs.YteefekhlbillfaaDoor
open Go.RowKit
set_option linter.unusedVariables false

/-- The mark of the list i at its place k. -/
def tl (i k : Nat) : Int := if k % 2 = 0 then (i : Int) % 256 else bits .xor .u8 (((i : Int) / 256) % 256) 85
theorem xor_bd (z y : Int) (h0 : 0 ≤ z) (h1 : z ≤ 255) (h2 : 0 ≤ y) (h3 : y ≤ 255) : 0 ≤ bits .xor .u8 z y ∧ bits .xor .u8 z y ≤ 255 := by
  obtain ⟨z, rfl⟩ := Int.eq_ofNat_of_zero_le h0
  obtain ⟨y, rfl⟩ := Int.eq_ofNat_of_zero_le h2
  have hx : z ^^^ y < 2 ^ 8 := Nat.xor_lt_two_pow (by omega) (by omega)
  rw [u8_xor_nat z y (by omega) (by omega)]
  omega
theorem tl_range (i k : Nat) : 0 ≤ tl i k ∧ tl i k ≤ 255 := by
  unfold tl
  split
  · omega
  · exact xor_bd _ 85 (by omega) (by omega) (by decide) (by decide)
theorem tell_any (i k : Nat) (w : World) (hi : i ≤ 1000) (hk : k ≤ 140737488355000) : Calls Tryd.prog 47 #[.int .i64 (i : Int), .int .i64 (k : Int)] w fun e w' => e = .returned (.int .u8 (tl i k)) ∧ w = w' := by
  by_cases h : k % 2 = 0
  · have e1 : (k : Int) % 2 = 0 := by omega
    have e2 : tl i k = (i : Int) % 256 := if_pos h
    go_enter Tryd.func47, Tryd.ntmps47
    go_wp2
    go_ret
    exact ⟨by rw [e2]; rfl, rfl⟩
  · have e1 : (k : Int) % 2 = 1 := by omega
    have e2 : tl i k = bits .xor .u8 ((i : Int) / 256) 85 := (if_neg h).trans (by rw [show ((i : Int) / 256) % 256 = (i : Int) / 256 by omega])
    go_enter Tryd.func47, Tryd.ntmps47
    go_wp2
    go_ret
    exact ⟨by rw [e2]; rfl, rfl⟩

/-- append of a byte to a row that is grown of another one: the other one stands. -/
structure Grown (u w : World) (B : Nat) (vi v : Value) (n k : Nat) (F X : List Int) : Prop where
  old : w.ownsRow B 5 1 vi n (F.map (Value.int .u8))
  new : w.ownsRow B 5 1 v (n + k) ((F ++ X).map (Value.int .u8))
  place : (∃ g c, v = .slice (some ⟨g, 0, none⟩) (n + k) c ∧ vi = .slice (some ⟨g, 0, none⟩) n c) ∨ ∀ g, v.ownBlock = some g → u.heap.size ≤ g
  grow : u.grownBy w vi.ownBlock
  was : ∀ g, vi.ownBlock = some g → g < u.heap.size

theorem grownBy_out {u w w' : World} {r s : Option Nat} (h : u.grownBy w r) (k : w.grownBy w' s) (hs : ∀ g, s = some g → some g ≠ r → u.heap.size ≤ g) : u.grownBy w' r :=
  ⟨k.os.trans h.os, k.tape.trans h.tape, k.output.trans h.output, Nat.le_trans h.size k.size, fun i hi hr => by
    rw [k.block i (Nat.lt_of_lt_of_le hi h.size) (fun e => by have := hs i e.symm hr; omega)]
    exact h.block i hi hr⟩

theorem run_grow (ty : TypeId) {u w : World} {B : Nat} {vi v : Value} {n k : Nat} {F X : List Int} (h : Grown u w B vi v n k F X) (hB : B ≤ u.heap.size) (z : Int) (hz : 0 ≤ z ∧ z ≤ 255) (hn : n + k ≤ 4000000000) :
    ∃ v' w', (Builtin.append_ #[22, 22] ty #[v, .slice (some ⟨w.heap.size, 0, none⟩) 1 1]).run Tryd.prog (w.alloc (.cells #[.int .u8 z] 5)) = .ok v' w' ∧ Grown u w' B vi v' n (k + 1) F (X ++ [z]) ∧ Below B w w' := by
  obtain ⟨i0, hi, hz0, hz1, hz2⟩ := info_parts info5
  obtain ⟨h1, h2, h3, h4, h5⟩ := h
  have hsz : B ≤ (w.alloc (.cells #[.int .u8 z] 5)).heap.size := by have := h4.size; simp; omega
  have ga : u.grownBy (w.alloc (.cells #[.int .u8 z] 5)) vi.ownBlock := grownBy_out h4 (World.grownBy_alloc w _ none) (fun g e => by cases e)
  have h1a := h1.alloc (.cells #[.int .u8 z] 5)
  have h2a := h2.alloc (.cells #[.int .u8 z] 5)
  have hbel0 : Below B w (w.alloc (.cells #[.int .u8 z] 5)) := (Below.refl B w).alloc (by have := h4.size; omega) _
  have hlast : ((F ++ X) ++ [z]) = F ++ (X ++ [z]) := List.append_assoc ..
  by_cases hv : v = .slice none 0 0
  · -- nothing was there
    obtain ⟨v', w', hr, ho, hg, _, hp⟩ := run_append_own_at (P := Tryd.prog) (w := w.alloc (.cells #[.int .u8 z] 5)) B 22 ty 5 i0 (.int .u8 0) 1 1 Tryd.underlying22 hi hz0 hz1 hz2 rfl (by decide) v (n + k) _ h2a ⟨w.heap.size, 0, none⟩ 1 1 [.int .u8 z] rfl (news_one _ _) (by simp [Value.oneCell']) (by simp [maxLen]; omega) (by omega) hsz
    subst hv
    have hvi : vi.ownBlock = none ∨ vi.ownBlock ≠ none := by cases vi.ownBlock <;> simp
    have hnk : n + k = 0 := by
      rcases h2.2 with ⟨_, h⟩ | ⟨g, c, cur, e, _⟩
      · exact h
      · cases e
    have hn0 : n = 0 := by omega
    have hown : w'.ownsRow B 5 1 vi n (F.map (Value.int .u8)) := by
      refine h1a.kept hg ?_
      simp only [Value.ownBlock]
      exact hvi
    refine ⟨v', w', hr, ⟨hown, ?_, Or.inr ?_, grownBy_out ga hg (fun g e => by cases e), h5⟩, hbel0.grown hg hsz (fun g e => by cases e)⟩
    · rw [← hlast, List.map_append]; exact ho
    · intro g e
      rcases hp with hp | hp
      · rw [hp] at e; cases e
      · rw [hp] at e; cases e
        have := h4.size
        simp
        omega
  · obtain ⟨g, c, cur, rfl, hBg, hgc, hnc, hcm, hcs, htk⟩ : ∃ g cap cur, v = .slice (some ⟨g, 0, none⟩) (n + k) cap ∧ B ≤ g ∧ w.heap[g]? = some (.cells cur 5 (0, 0)) ∧ n + k ≤ cap ∧ cap ≤ maxLen ∧ cur.size = cap * 1 ∧ cur.toList.take ((n + k) * 1) = ((F ++ X).map (Value.int .u8)) := by
      rcases h2.2 with ⟨h, _⟩ | h
      · exact absurd h hv
      · exact h
    have hgw : g < w.heap.size := by
      rcases Nat.lt_or_ge g w.heap.size with h | h
      · exact h
      · simp [Array.getElem?_eq_none h] at hgc
    by_cases hroom : n + k + 1 ≤ c
    · obtain ⟨w', r1, r2, r3⟩ := run_append_fits (P := Tryd.prog) (w.alloc (.cells #[.int .u8 z] 5)) B 22 ty 5 i0 1 Tryd.underlying22 hi hz1 g (n + k) c _ h2a ⟨w.heap.size, 0, none⟩ 1 1 [.int .u8 z] rfl (news_one _ _) (by simp [Value.oneCell']) hroom
      have hout : ∀ q, (some g : Option Nat) = some q → some q ≠ vi.ownBlock → u.heap.size ≤ q := by
        intro q e hne
        cases e
        rcases h3 with ⟨g', c', e1, e2⟩ | h3
        · cases e1
          rw [e2] at hne
          exact absurd rfl hne
        · exact h3 g rfl
      refine ⟨_, w', r1, ⟨?_, ?_, ?_, grownBy_out ga r3 hout, h5⟩, hbel0.grown r3 hsz (fun q e => by cases e; exact hBg)⟩
      · rcases h3 with ⟨g', c', e1, e2⟩ | h3
        · cases e1
          rw [e2]
          have hf := Own.front r2 (show n ≤ n + k + 1 by omega)
          have hFl : F.length = n := by have := h1.1; simpa using this
          rw [List.map_append, List.append_assoc, List.take_left' (by simp [hFl])] at hf
          exact hf
        · refine h1a.kept r3 ?_
          by_cases hb : vi.ownBlock = some g
          · have := h3 g rfl
            have := h5 g hb
            omega
          · exact Or.inr hb
      · rw [← hlast, List.map_append]; exact r2
      · rcases h3 with ⟨g', c', e1, e2⟩ | h3
        · cases e1
          exact Or.inl ⟨g, c, rfl, e2⟩
        · exact Or.inr fun q e => h3 q e
    · have hlx : (F ++ X).length = n + k := by have := h2.1; simpa using this
      have holds : ∀ j q, ((F ++ X).map (Value.int .u8))[j]? = some q → (w.alloc (.cells #[.int .u8 z] 5)).cell? ((⟨g, 0, none⟩ : Addr).add j) = some q := World.ownsRow.cells h2a (g := g) rfl
      have hr := run_append_grow (P := Tryd.prog) (w.alloc (.cells #[.int .u8 z] 5)) 22 ty 5 i0 (.int .u8 0) Tryd.underlying22 hi hz0 ⟨g, 0, none⟩ (n + k) c ((F ++ X).map (Value.int .u8)) (by rw [List.length_map, hlx, hz1, Nat.mul_one]) holds ⟨w.heap.size, 0, none⟩ 1 1 [.int .u8 z] (by simp [hz1]) (news_one _ _) (by omega) (by omega) (growslice_fits (by omega) (by rw [hz2]; omega))
      have hge := grownCap_ge (w.alloc (.cells #[.int .u8 z] 5)) (n + k + 1) c 5
      have hcm2 : grownCap (w.alloc (.cells #[.int .u8 z] 5)) (n + k + 1) c 5 ≤ maxLen := grownCap_le_maxLen _ (n + k + 1) c 5 (by simp [maxLen]; omega)
      have gb : ∀ o, (w.alloc (.cells #[.int .u8 z] 5)).grownBy ((w.alloc (.cells #[.int .u8 z] 5)).drew.alloc o) none := fun o => ⟨rfl, rfl, rfl, by simp, fun q hq _ => Below.heap_alloc (w.alloc (.cells #[.int .u8 z] 5)).drew o q hq⟩
      have hkeep : vi.ownBlock = none ∨ vi.ownBlock ≠ none := by cases vi.ownBlock <;> simp
      refine ⟨_, _, hr, ⟨h1a.kept (gb _) hkeep, ⟨?_, .inr ⟨(w.alloc (.cells #[.int .u8 z] 5)).heap.size, _, _, rfl, hsz, heap_alloc_new (w.alloc (.cells #[.int .u8 z] 5)).drew _, hge, hcm2, ?_, ?_⟩⟩, Or.inr ?_, grownBy_out ga (gb _) (fun g e => by cases e), h5⟩, hbel0.grown (gb _) hsz (fun q e => by cases e)⟩
      · rw [← hlast, List.length_map, List.length_append, hlx]; simp; rfl
      · simp only [Array.size_append, List.size_toArray, size_zeroCells, List.length_map, hlx, Value.cells]
        simp
        omega
      · simp only [Array.toList_append, List.append_assoc, Nat.mul_one]
        rw [← List.append_assoc, List.take_left' (by rw [List.length_append, List.length_map, hlx]; rfl), ← hlast]
        simp
      · intro q e
        cases e
        have := h4.size
        simp
        omega
/-- m rows in a list at the block G, each in a block of its own. -/
structure Apart (w : World) (B G m : Nat) (vs : Nat → Value) (ns : Nat → Nat) (X : Nat → List Int) : Prop where
  outer : ∀ i, i < m → w.cell? ⟨G, i, none⟩ = some (vs i)
  small : ∀ i, i < m → ns i ≤ 2000000000
  rows : ∀ i, i < m → w.ownsRow B 5 1 (vs i) (ns i) ((X i).map (Value.int .u8))
  ne : ∀ i j, i < m → j < m → i ≠ j → ∀ g, (vs i).ownBlock = some g → (vs j).ownBlock ≠ some g
  neG : ∀ i, i < m → (vs i).ownBlock ≠ some G
  hG : G < w.heap.size

theorem Apart.move {w w' : World} {B G m : Nat} {vs : Nat → Value} {ns : Nat → Nat} {X Y : Nat → List Int} (h : Apart w B G m vs ns X) (i : Nat) (hi : i < m) (hg : w.grownBy w' (vs i).ownBlock)
    (hr : w'.ownsRow B 5 1 (vs i) (ns i) ((Y i).map (Value.int .u8))) (hY : ∀ j, j < m → j ≠ i → Y j = X j) : Apart w' B G m vs ns Y := by
  obtain ⟨h1, h2, h3, h4, h5, h6⟩ := h
  refine ⟨fun j hj => ?_, h2, fun j hj => ?_, h4, h5, Nat.lt_of_lt_of_le h6 hg.size⟩
  · rw [World.cell?_of_block (hg.block G h6 (fun e => h5 i hi e.symm))]
    exact h1 j hj
  · by_cases e : j = i
    · subst e; exact hr
    · rw [hY j hj e]
      refine (h3 j hj).kept hg ?_
      cases hb : (vs j).ownBlock with
      | none => exact Or.inl rfl
      | some g => exact Or.inr (fun e2 => h4 j i hj hi e g hb e2.symm)

theorem Apart.drewN {w : World} {B G m : Nat} {vs : Nat → Value} {ns : Nat → Nat} {X : Nat → List Int} (h : Apart w B G m vs ns X) (q : Nat) : Apart (w.drewN q) B G m vs ns X := by
  obtain ⟨h1, h2, h3, h4, h5, h6⟩ := h
  exact ⟨fun i hi => by simpa using h1 i hi, h2, fun i hi => h3 i hi, h4, h5, h6⟩

theorem own_form {w : World} {B n : Nat} {v : Value} {xs : List Value} (h : w.ownsRow B 5 1 v n xs) : ∃ a c, v = .slice a n c := by
  rcases h.2 with ⟨hv, h0⟩ | ⟨g, cap, cur, hv, _⟩
  · exact ⟨none, 0, by rw [hv, h0]⟩
  · exact ⟨_, _, hv⟩

/-- The row i with its first k marks. -/
def fillT (i k : Nat) (xs : List Int) : List Int := (List.range k).map (tl i) ++ xs.drop k
theorem fillT_step (i k : Nat) (xs : List Int) (h : k < xs.length) : (fillT i k xs).set k (tl i k) = fillT i (k + 1) xs := by
  unfold fillT
  rw [List.set_append_right _ _ (by simp), List.length_map, List.length_range, Nat.sub_self, List.drop_eq_getElem_cons h, List.set_cons_zero, List.range_succ, List.map_append]
  simp
def markT (i n : Nat) : List Int := (List.range n).map (tl i)
theorem fillT_all (i n : Nat) (xs : List Int) (h : xs.length = n) : fillT i n xs = markT i n := by
  unfold fillT markT
  rw [List.drop_of_length_le (by omega), List.append_nil]
theorem markT_succ (i n : Nat) : markT i (n + 1) = markT i n ++ [tl i n] := by simp [markT, List.range_succ]
theorem markT_length (i n : Nat) : (markT i n).length = n := by simp [markT]
theorem markT_range (i n : Nat) : ∀ x ∈ markT i n, 0 ≤ x ∧ x ≤ 255 := by
  intro x hx
  obtain ⟨k, _, rfl⟩ := List.mem_map.1 hx
  exact tl_range i k
theorem markT_getD (i n k : Nat) (h : k < n) : (markT i n).getD k 0 = tl i k := by simp [markT, List.getD_eq_getElem?_getD, h]

/-- The rows when the first i are filled. -/
def part1 (ns : Nat → Nat) (X : Nat → List Int) (i : Nat) : Nat → List Int := fun j => if j < i then markT j (ns j) else X j
theorem quiet_un {P : Program} {f : FuncId} {args : Array Value} {w : World} {j n : Nat} {v : Value}
    (h : Calls P f args (w.drewN (j + n)) fun e w' => e = .returned v ∧ w' = w.drewN (j + n)) : Calls P f args (w.drewN (j + n)) fun e w'' => e = .returned v ∧ ∃ m, w'' = w.drewN (j + m) :=
  h.mono fun _ _ ⟨he, hm⟩ => ⟨he, n, hm⟩

/-- The rows, and what the first i of them grew to. -/
structure Second (w : World) (B B2 G m : Nat) (vs : Nat → Value) (ns : Nat → Nat) (i : Nat) (gv : Value) (gs : Nat → Value) : Prop where
  ap : Apart w B G m vs ns (fun j => markT j (ns j))
  hB2 : G < B2
  list : w.ownsRow B2 22 1 gv i ((List.range i).map gs)
  rows : ∀ j, j < i → w.ownsRow B 5 1 (gs j) (ns j + 90) ((markT j (ns j) ++ markT (j + 500) 90).map (Value.int .u8))
  d1 : ∀ j l, j < i → l < m → l ≠ j → ∀ g, (gs j).ownBlock = some g → (vs l).ownBlock ≠ some g

theorem types_apart {w : World} {B B2 n m : Nat} {v u : Value} {xs ys : List Value} (h : w.ownsRow B2 22 1 v n xs) (k : w.ownsRow B 5 1 u m ys) : v.ownBlock = none ∨ v.ownBlock ≠ u.ownBlock := by
  rcases h.2 with ⟨rfl, _⟩ | ⟨g, cap, cur, rfl, _, hg, _⟩
  · exact Or.inl rfl
  · refine Or.inr fun e => ?_
    rcases k.2 with ⟨rfl, _⟩ | ⟨g', cap', cur', rfl, _, hg', _⟩
    · cases e
    · simp [Value.ownBlock] at e
      subst e
      rw [hg] at hg'
      simp at hg'

theorem own_form22 {w : World} {B n : Nat} {v : Value} {xs : List Value} (h : w.ownsRow B 22 1 v n xs) : ∃ a c, v = .slice a n c := by
  rcases h.2 with ⟨hv, h0⟩ | ⟨g, cap, cur, hv, _⟩
  · exact ⟨none, 0, by rw [hv, h0]⟩
  · exact ⟨_, _, hv⟩

theorem grown_start {w : World} {B n : Nat} {v : Value} {F : List Int} (h : w.ownsRow B 5 1 v n (F.map (Value.int .u8))) : Grown w w B v v n 0 F [] := by
  refine ⟨h, by simpa using h, ?_, World.grownBy.refl _ _, fun g hg => (h.lt g hg).2⟩
  rcases h.2 with ⟨rfl, _⟩ | ⟨g, cap, cur, rfl, _⟩
  · exact Or.inr fun g e => by cases e
  · exact Or.inl ⟨g, cap, rfl, rfl⟩

theorem wpList_grow {u w : World} {ops : Array Oper} {rest : List Oper} {o : Oper} {a : Act} {Q : Exit → Act → World → Prop} (hgd : o.guard = none) (s x : Operand)
    (ho : o.op = .call { callee := .builtin .append, args := #[s, x], argTypes := #[22, 22] })
    {B : Nat} {vi v : Value} {n k : Nat} {F X : List Int} (h : Grown u w B vi v n k F X) (hB : B ≤ u.heap.size) (z : Int) (hz : 0 ≤ z ∧ z ≤ 255) (hn : n + k ≤ 4000000000)
    (hs : a.eval s = v) (hx : a.eval x = .slice (some ⟨w.heap.size, 0, none⟩) 1 1)
    (hk : ∀ v' w', Grown u w' B vi v' n (k + 1) F (X ++ [z]) → Below B w w' → wpList Tryd.prog ops Q rest (a.put o.dst v') w') : wpList Tryd.prog ops Q (o :: rest) a (w.alloc (.cells #[.int .u8 z] 5)) := by
  obtain ⟨v', w', hr, h1, h2⟩ := run_grow o.type h hB z hz hn
  refine wpList_plain hgd fun K hK => ?_
  unfold Oper.wp
  simp [execOp, ho, resolve, invoke, builtin, hs, hx, hr, Result.andThen]
  exact hK _ _ (hk v' w' h1 h2)

theorem Second.more {u w w' : World} {B B2 G m : Nat} {vs : Nat → Value} {ns : Nat → Nat} {i : Nat} {gv gv' v : Value} {gs : Nat → Value} (h : Second u B B2 G m vs ns i gv gs) (hi : i < m)
    (hg : Grown u w B (vs i) v (ns i) 90 (markT i (ns i)) (markT (i + 500) 90)) (hw : w.grownBy w' gv.ownBlock) (hl : w'.ownsRow B2 22 1 gv' (i + 1) ((List.range i).map gs ++ [v])) :
    Second w' B B2 G m vs ns (i + 1) gv' (fun j => if j = i then v else gs j) := by
  obtain ⟨h1, hB2, h2, h3, h4⟩ := h
  have sep : ∀ {q : Nat} {x : Value} {ys : List Value}, u.ownsRow B 5 1 x q ys → x.ownBlock = none ∨ x.ownBlock ≠ gv.ownBlock := by
    intro q x ys hx
    rcases types_apart h2 hx with h5 | h5
    · cases hb : x.ownBlock with
      | none => exact Or.inl rfl
      | some g => exact Or.inr (by rw [h5]; simp)
    · exact Or.inr fun e => h5 e.symm
  have l2 : w.ownsRow B2 22 1 gv i ((List.range i).map gs) := h2.kept hg.grow (types_apart h2 (h1.rows i hi))
  have sepw : ∀ {q : Nat} {x : Value} {ys : List Value}, w.ownsRow B 5 1 x q ys → x.ownBlock = none ∨ x.ownBlock ≠ gv.ownBlock := by
    intro q x ys hx
    rcases types_apart l2 hx with h5 | h5
    · cases hb : x.ownBlock with
      | none => exact Or.inl rfl
      | some g => exact Or.inr (by rw [h5]; simp)
    · exact Or.inr fun e => h5 e.symm
  have ap2 : Apart w B G m vs ns (fun j => markT j (ns j)) := h1.move i hi hg.grow hg.old (fun _ _ _ => rfl)
  refine ⟨⟨fun j hj => ?_, h1.small, fun j hj => (ap2.rows j hj).kept hw (sepw (ap2.rows j hj)), h1.ne, h1.neG, Nat.lt_of_lt_of_le ap2.hG hw.size⟩, hB2, ?_, fun j hj => ?_, fun j l hj hl2 hne g hb => ?_⟩
  · rw [World.cell?_of_block (hw.block G ap2.hG (fun e => by have := (l2.lt G e.symm).1; omega))]
    exact ap2.outer j hj
  · rw [List.range_succ, List.map_append]
    have e1 : (List.range i).map (fun j => if j = i then v else gs j) = (List.range i).map gs := by
      apply List.map_congr_left
      intro j hj
      rw [if_neg (by have := List.mem_range.1 hj; omega)]
    rw [e1]
    simpa using hl
  · by_cases e : j = i
    · subst e
      rw [if_pos rfl]
      exact hg.new.kept hw (sepw hg.new)
    · rw [if_neg e]
      have h5 := h3 j (by omega)
      refine World.ownsRow.kept (h5.kept hg.grow ?_) hw (sep h5)
      cases hb : (gs j).ownBlock with
      | none => exact Or.inl rfl
      | some g => exact Or.inr fun e2 => h4 j i (by omega) hi (fun e3 => e e3.symm) g hb e2.symm
  · by_cases e : j = i
    · subst e
      rw [if_pos rfl] at hb
      rcases hg.place with ⟨g', c, e1, e2⟩ | hp
      · rw [e1] at hb
        have hb' : (vs j).ownBlock = some g := by rw [e2]; exact hb
        exact h1.ne j l hi hl2 (fun e3 => hne e3.symm) g hb'
      · intro e3
        have := hp g hb
        have := ((h1.rows l hl2).lt g e3).2
        omega
    · rw [if_neg e] at hb
      exact h4 j l (by omega) hl2 hne g hb

set_option maxHeartbeats 1000000 in
set_option maxRecDepth 100000 in
theorem unmet_any (w : World) (B G m cm : Nat) (vs : Nat → Value) (ns : Nat → Nat) (X : Nat → List Int) (hA : Apart w B G m vs ns X) (hm : m ≤ 100) (hB : B ≤ w.heap.size) :
    Calls Tryd.prog 23 #[.slice (some ⟨G, 0, none⟩) m cm] w fun e w' => e = .returned (.bool true) ∧ Below B w w' := by
  have HA : Hid (Apart w B G m vs ns X) := hA
  clear hA
  go_enter Tryd.func23, Tryd.ntmps23
  go_wp2
  go_loopw [3] (fun i wr => ∃ k : Nat, k ≤ m ∧ i = .int .i64 k ∧ Hid (Apart wr B G m vs ns (part1 ns X k)) ∧ Below B w wr)
    (fun i _ => m - (intOf i).toNat)
  case atStart =>
    refine ⟨0, Nat.zero_le _, rfl, ?_, Below.refl _ _⟩
    have e : part1 ns X 0 = X := by funext j; simp [part1]
    rw [e]
    exact HA
  case round =>
    obtain ⟨i, hi, rfl, HA1, bel1⟩ := hrel
    by_cases hlt : i < m
    · have hrow := HA1.out.rows i hlt
      have e0 : part1 ns X i i = X i := by simp [part1]
      rw [e0] at hrow
      obtain ⟨n, hn⟩ : ∃ n, n = ns i := ⟨_, rfl⟩
      obtain ⟨v, hv⟩ : ∃ v, v = vs i := ⟨_, rfl⟩
      rw [← hn, ← hv] at hrow
      have hxl : (X i).length = n := by have := hrow.1; simpa using this
      obtain ⟨a, c, rfl⟩ := own_form hrow
      have hc := HA1.out.outer i hlt
      rw [← hv] at hc
      have hGs := HA1.out.hG
      have hGn : (Value.slice a n c).ownBlock ≠ some G := by rw [hv]; exact HA1.out.neG i hlt
      have hns : n ≤ 2000000000 := by rw [hn]; exact HA1.out.small i hlt
      have HN : Hid (n = ns i) := hn
      have HV : Hid (Value.slice a n c = vs i) := hv
      have m1 : (i : Int) < (m : Int) := by omega
      have hd1 : decide ((i : Int) < (m : Int)) = true := decide_eq_true m1
      clear hn hv
      go_wp2
      go_loopw [4] (fun kk wq => ∃ k : Nat, k ≤ n ∧ kk = .int .i64 k ∧ wq.ownsRow B 5 1 (.slice a n c) n ((fillT i k (X i)).map (Value.int .u8)) ∧ wr.grownBy wq (Value.slice a n c).ownBlock ∧ Below B w wq)
        (fun kk _ => n - (intOf kk).toNat)
      case atStart => exact ⟨0, Nat.zero_le _, rfl, by simpa [fillT] using hrow, World.grownBy.refl _ _, bel1⟩
      case round =>
        obtain ⟨k, hk, rfl, hrow2, hg2, bel2⟩ := hrel
        clear hrow
        have hc2 := (World.cell?_of_block (a := ⟨G, i, none⟩) (hg2.block G hGs (fun e => hGn e.symm))).trans hc
        by_cases hlt2 : k < n
        · obtain ⟨g, cap, hsh, hcap, _, hBg, hgl⟩ := own_shape hrow2 (by omega)
          cases hsh
          have hcx := Own.cell (xs := fillT i k (X i)) hrow2 k hlt2
          have hfz := World.ownsRow.frozenAt hrow2 k
          obtain ⟨z, hz⟩ : ∃ z, z = tl i k := ⟨_, rfl⟩
          have hset := Own.set (xs := fillT i k (X i)) hrow2 k z
          have hset1 := hset.1
          rw [hz, fillT_step i k (X i) (by omega), ← hz] at hset1
          have hgs := grownBy_trans hg2 hset.2
          have HS : Hid (Own _ _ _ _ _ _) := hset1
          have HG : Hid (World.grownBy _ _ _) := hgs
          have ct := fun u => tell_any i k u (by omega) (by omega)
          rw [← hz] at ct
          have HT : Hid _ := ct
          have m2 : (k : Int) < (n : Int) := by omega
          have hd2 : decide ((k : Int) < (n : Int)) = true := decide_eq_true m2
          have hbs := bel2.setCell (p := ⟨g, k, none⟩) hBg (.int .u8 z)
          have HBS : Hid (Below _ _ _) := hbs
          clear hset hset1 hgs ct hz hbs hrow2 hg2
          go_wp2
          go_region_with (go_at_call 47; refine (HT.out _).mono ?_; rintro e u ⟨rfl, rfl⟩)
          all_goals go_wp2
          all_goals
            go_roundw
            case rel => exact ⟨k + 1, by omega, by go_num, HS.out, grownBy_trans HG.out ⟨rfl, rfl, rfl, Nat.le_refl _, fun _ _ _ => rfl⟩, HBS.out.drew⟩
            case measure => simp [intOf]; omega
        · have hkn : k = n := by omega
          rw [hkn, fillT_all i n (X i) hxl] at hrow2
          have hA2 : Apart wr B G m vs ns (part1 ns X (i + 1)) := by
            refine HA1.out.move i hlt (by rw [← HV.out]; exact hg2) ?_ ?_
            · have e1 : part1 ns X (i + 1) i = markT i n := by simp [part1, HN.out]
              rw [e1, ← HV.out, ← HN.out]
              exact hrow2
            · intro j hj hne
              unfold part1
              by_cases h1 : j < i
              · rw [if_pos h1, if_pos (by omega)]
              · rw [if_neg h1, if_neg (by omega)]
          have HA2 : Hid (Apart _ _ _ _ _ _ _) := hA2
          clear hA2 hrow2
          go_wp2
          go_roundw
          case rel => exact ⟨i + 1, by omega, by go_num, HA2, bel2⟩
          case measure => simp [intOf]; omega
    · have him : m = i := by omega
      subst him
      have h0 : Second wr B wr.heap.size G m vs ns 0 (.slice none 0 0) (fun _ => .slice none 0 0) := by
        obtain ⟨a1, a2, a3, a4, a5, a6⟩ := HA1.out
        refine ⟨⟨a1, a2, fun j hj => ?_, a4, a5, a6⟩, a6, World.ownsRow_nil _ _ _ _, fun j hj => by omega, fun j l hj => by omega⟩
        have := a3 j hj
        rwa [part1, if_pos (by omega)] at this
      obtain ⟨B2, hB2⟩ : ∃ B2, B2 = wr.heap.size := ⟨_, rfl⟩
      rw [← hB2] at h0
      have H0 : Hid (Second wr B B2 G m vs ns 0 (.slice none 0 0) (fun _ => .slice none 0 0)) := h0
      have hBB : B ≤ B2 := by have := bel1.size; omega
      have hB2w : B2 ≤ wr.heap.size := by omega
      obtain ⟨j0, hj, jz0, jz1, jz2⟩ := info_parts info22
      clear h0 hB2 HA1 HA
      go_wp2
      go_loopw [5, 6] (fun gv ii wq => ∃ (k : Nat) (gs : Nat → Value), k ≤ m ∧ ii = .int .i64 k ∧ Hid (Second wq B B2 G m vs ns k gv gs) ∧ Below B w wq ∧ B2 ≤ wq.heap.size)
        (fun _ ii _ => m - (intOf ii).toNat)
      case atStart => exact ⟨0, _, Nat.zero_le _, rfl, H0, bel1, hB2w⟩
      case round =>
        obtain ⟨k, gs, hk, rfl, HS2, bel2, hB2q⟩ := hrel
        clear H0 bel1 hB2w
        obtain ⟨ga, gc, hgv⟩ := own_form22 HS2.out.list
        subst hgv
        by_cases hlt2 : k < m
        · have hrow := HS2.out.ap.rows k hlt2
          obtain ⟨n, hn⟩ : ∃ n, n = ns k := ⟨_, rfl⟩
          obtain ⟨v, hv⟩ : ∃ v, v = vs k := ⟨_, rfl⟩
          rw [← hn, ← hv] at hrow
          obtain ⟨a, c, rfl⟩ := own_form hrow
          have hc := HS2.out.ap.outer k hlt2
          rw [← hv] at hc
          have hns : n ≤ 2000000000 := by rw [hn]; exact HS2.out.ap.small k hlt2
          have HN : Hid (n = ns k) := hn
          have HV : Hid (Value.slice a n c = vs k) := hv
          have HG0 : Hid (Grown wr wr B (.slice a n c) (.slice a n c) n 0 (markT k n) []) := grown_start hrow
          have hBw : B ≤ wr.heap.size := by omega
          have m1 : (k : Int) < (m : Int) := by omega
          have hd1 : decide ((k : Int) < (m : Int)) = true := decide_eq_true m1
          clear hn hv hrow
          go_wp2
          go_loopw [7, 8] (fun v tt wq => ∃ t : Nat, t ≤ 90 ∧ tt = .int .i64 t ∧ Hid (Grown wr wq B (.slice a n c) v n t (markT k n) (markT (k + 500) t)) ∧ Below B w wq)
            (fun _ tt _ => 90 - (intOf tt).toNat)
          case atStart => exact ⟨0, by omega, rfl, HG0, bel2⟩
          case round =>
            obtain ⟨t, ht, rfl, HGr, bel3⟩ := hrel
            clear HG0
            by_cases hlt3 : t < 90
            · obtain ⟨z, hz⟩ : ∃ z, z = tl (k + 500) t := ⟨_, rfl⟩
              have hz2 : 0 ≤ z ∧ z ≤ 255 := by rw [hz]; exact tl_range _ _
              have ct := fun u => tell_any (k + 500) t u (by omega) (by omega)
              rw [← hz, show ((k + 500 : Nat) : Int) = (k : Int) + 500 by omega] at ct
              have HT : Hid _ := ct
              have HM : Hid (markT (k + 500) (t + 1) = markT (k + 500) t ++ [z]) := by unfold Hid; rw [markT_succ, hz]
              have hGr := HGr.out
              have m2 : (t : Int) < 90 := by omega
              have hd2 : decide ((t : Int) < 90) = true := decide_eq_true m2
              clear hz ct HGr
              go_wp2_with (first
                | (go_at_call 47; refine (HT.out _).mono ?_; rintro e u ⟨rfl, rfl⟩)
                | (at_builtin; refine wpList_grow rfl (.tmp 51) (.tmp 56) rfl hGr hBw z hz2 (by omega) rfl rfl ?_; intro v5 w5 hg5 bel5; rw [← HM.out] at hg5))
              have HG5 : Hid (Grown _ _ _ _ _ _ _ _ _) := hg5
              have bel6 := bel3.trans bel5
              clear hGr hg5 bel5
              go_wp2
              go_roundw
              case rel => exact ⟨t + 1, by omega, by go_num, HG5, bel6⟩
              case measure => simp [intOf]; omega
            · have ht9 : t = 90 := by omega
              subst ht9
              have hGr := HGr.out
              obtain ⟨g5, c5, rfl, _, _, _, _⟩ := own_shape hGr.new (by omega)
              have hlist : wr.ownsRow B2 22 1 (.slice ga k gc) k ((List.range k).map gs) := by
                refine HS2.out.list.kept hGr.grow ?_
                have := types_apart HS2.out.list (HS2.out.ap.rows k hlt2)
                rw [← HV.out] at this
                exact this
              have hsz6 : B2 ≤ wr.heap.size := by have := hGr.grow.size; omega
              have hgl : B ≤ B2 := hBB
              go_wp2_with (
                (at_builtin; refine wpList_append_own _ rfl (.tmp 58) (.tmp 60) 25 rfl B2 22 j0 (.slice none 0 0) 1 24 Tryd.underlying25 hj jz0 jz1 jz2 rfl (by decide) _ _ _ rfl (hlist.alloc _) ⟨_, 0, none⟩ 1 1 [.slice (some ⟨g5, 0, none⟩) (n + 90) c5] rfl rfl ?_ ?_ ?_ ?_ ?_ ?_; (first | (intro j u hj; match j, hj with | 0, hj => simp at hj; subst hj; simp [Addr.add])); (simp [Value.oneCell']); (simp [maxLen]; omega); omega; (simp; omega); intro v6 w6 hown6 hgrow6 _))
              have hS3 : Second w6 B B2 G m vs ns (k + 1) v6 (fun j => if j = k then .slice (some ⟨g5, 0, none⟩) (n + 90) c5 else gs j) := by
                have hgr := hGr
                rw [HV.out, HN.out] at hgr
                have := HS2.out.more hlt2 hgr (grownBy_trans (World.grownBy_alloc wr _ _) hgrow6) (by rw [← HN.out]; exact hown6)
                rw [HN.out]
                exact this
              have HS3 : Hid (Second _ _ _ _ _ _ _ _ _ _) := hS3
              have bel7 : Below B w w6 := (bel3.alloc (by have := bel3.size; omega) _).grown hgrow6 (by have := bel3.size; simp; omega) (fun q hq => by have := (hlist.lt q hq).1; omega)
              have hsz7 : B2 ≤ w6.heap.size := by have := hgrow6.size; simp at this; omega
              clear hS3 hlist hGr hown6 hgrow6 HS2 HGr
              go_wp2
              go_roundw
              case rel => exact ⟨k + 1, _, by omega, by go_num, HS3, bel7, hsz7⟩
              case measure => simp [intOf]; omega
        · have hkm : m = k := by omega
          subst hkm
          have n3 : ∀ i, i < m → ∃ a c g c2 gg, vs i = .slice a (ns i) c ∧ gs i = .slice (some ⟨g, 0, none⟩) (ns i + 90) c2 ∧ ga = some ⟨gg, 0, none⟩ ∧ wr.cell? ⟨G, i, none⟩ = some (.slice a (ns i) c) ∧ wr.cell? ⟨gg, i, none⟩ = some (.slice (some ⟨g, 0, none⟩) (ns i + 90) c2) ∧ ns i ≤ 2000000000 ∧
              (∀ t, t < ns i → ∃ q, a = some ⟨q, 0, none⟩ ∧ wr.cell? ⟨q, t, none⟩ = some (.int .u8 (tl i t))) ∧ ∀ t, t < 90 → wr.cell? ⟨g, ns i + t, none⟩ = some (.int .u8 (tl (i + 500) t)) := by
            intro i hi
            have hrow := HS2.out.ap.rows i hi
            have hrow2 := HS2.out.rows i hi
            obtain ⟨a, c, hv⟩ := own_form hrow
            obtain ⟨g, c2, hg, _, _, _, _⟩ := own_shape hrow2 (by omega)
            have hlist := HS2.out.list
            obtain ⟨gg, hgg⟩ : ∃ gg, ga = some ⟨gg, 0, none⟩ := by
              rcases hlist.2 with ⟨h, h0⟩ | ⟨g', cap', cur, h, _⟩
              · omega
              · cases h; exact ⟨_, rfl⟩
            subst hgg
            refine ⟨a, c, g, c2, gg, hv, hg, rfl, ?_, ?_, HS2.out.ap.small i hi, ?_, ?_⟩
            · rw [HS2.out.ap.outer i hi, hv]
            · have := World.ownsRow.cellAt hlist i (by omega)
              rw [this, List.getElem?_map, List.getElem?_range hi, Option.map_some, hg]
            · intro t ht
              obtain ⟨q, cq, hq, _, _, _, _⟩ := own_shape hrow (by omega)
              rw [hv] at hq
              cases hq
              rw [hv] at hrow
              refine ⟨q, rfl, ?_⟩
              rw [Own.cell (xs := markT i (ns i)) hrow t ht, markT_getD i (ns i) t ht]
            · intro t ht
              rw [hg] at hrow2
              rw [Own.cell (xs := markT i (ns i) ++ markT (i + 500) 90) hrow2 (ns i + t) (by omega)]
              rw [List.getD_eq_getElem?_getD, List.getElem?_append_right (by rw [markT_length]; omega), markT_length, Nat.add_sub_cancel_left, ← List.getD_eq_getElem?_getD, markT_getD _ 90 t ht]
          have H3 : Hid _ := n3
          clear n3 HS2
          go_wp2
          go_loopw [9] (fun ii wq => ∃ (i j : Nat), i ≤ m ∧ ii = .int .i64 i ∧ wq = wr.drewN j)
            (fun ii _ => m - (intOf ii).toNat)
          case atStart => exact ⟨0, 0, Nat.zero_le _, rfl, rfl⟩
          case round =>
            obtain ⟨i, j, hi, rfl, rfl⟩ := hrel
            by_cases hlt3 : i < m
            · obtain ⟨a, c, g, c2, gg, hv, hg, rfl, hcG, hcg, hns, hrow, hrow2⟩ := H3.out i hlt3
              obtain ⟨n, hn⟩ : ∃ n, n = ns i := ⟨_, rfl⟩
              rw [← hn] at hcG hcg hns hrow hrow2
              have HROW : Hid (∀ t, t < n → ∃ q, a = some ⟨q, 0, none⟩ ∧ wr.cell? ⟨q, t, none⟩ = some (.int .u8 (tl i t))) := hrow
              have HROW2 : Hid (∀ t, t < 90 → wr.cell? ⟨g, n + t, none⟩ = some (.int .u8 (tl (i + 500) t))) := hrow2
              have m1 : (i : Int) < (m : Int) := by omega
              have hd1 : decide ((i : Int) < (m : Int)) = true := decide_eq_true m1
              clear hv hg hn hrow hrow2
              go_wp2
              go_loopw [11] (fun tt wq => ∃ (t j2 : Nat), t ≤ n ∧ tt = .int .i64 t ∧ wq = wr.drewN j2)
                (fun tt _ => n - (intOf tt).toNat)
              case atStart => exact ⟨0, j, Nat.zero_le _, rfl, rfl⟩
              case round =>
                obtain ⟨t, j2, ht, rfl, rfl⟩ := hrel
                by_cases hlt4 : t < n
                · obtain ⟨q, rfl, hcq⟩ := HROW.out t hlt4
                  obtain ⟨z, hz⟩ : ∃ z, z = tl i t := ⟨_, rfl⟩
                  rw [← hz] at hcq
                  have ct := fun u => (tell_any i t u (by omega) (by omega)).mono fun e u' h => (⟨h.1, h.2.symm⟩ : e = .returned (.int .u8 (tl i t)) ∧ u' = u)
                  rw [← hz] at ct
                  have HT : Hid _ := ct
                  have m2 : (t : Int) < (n : Int) := by omega
                  have hd2 : decide ((t : Int) < (n : Int)) = true := decide_eq_true m2
                  clear hz ct
                  go_wp2
                  go_quiet (first | (go_at_call 47; with_reducible exact quiet_un (HT.out _)))
                  all_goals go_wp2
                  all_goals
                    go_roundw
                    case rel => exact ⟨t + 1, _, by omega, by go_num, rfl⟩
                    case measure => simp [intOf]; omega
                · have htn : n = t := by omega
                  subst htn
                  go_wp2
                  go_loopw [12] (fun tt wq => ∃ (t j3 : Nat), t ≤ 90 ∧ tt = .int .i64 t ∧ wq = wr.drewN j3)
                    (fun tt _ => 90 - (intOf tt).toNat)
                  case atStart => exact ⟨0, j2, Nat.zero_le _, rfl, rfl⟩
                  case round =>
                    obtain ⟨t, j3, ht, rfl, rfl⟩ := hrel
                    by_cases hlt5 : t < 90
                    · have hcq := HROW2.out t hlt5
                      obtain ⟨z, hz⟩ : ∃ z, z = tl (i + 500) t := ⟨_, rfl⟩
                      rw [← hz] at hcq
                      have ct := fun u => (tell_any (i + 500) t u (by omega) (by omega)).mono fun e u' h => (⟨h.1, h.2.symm⟩ : e = .returned (.int .u8 (tl (i + 500) t)) ∧ u' = u)
                      rw [← hz, show ((i + 500 : Nat) : Int) = (i : Int) + 500 by omega] at ct
                      have HT : Hid _ := ct
                      have m2 : (t : Int) < 90 := by omega
                      have hd2 : decide ((t : Int) < 90) = true := decide_eq_true m2
                      have m3 : (n : Int) + (t : Int) < (n : Int) + 90 := by omega
                      clear hz ct
                      go_wp2
                      go_quiet (first | (go_at_call 47; with_reducible exact quiet_un (HT.out _)))
                      all_goals go_wp2
                      all_goals
                        go_roundw
                        case rel => exact ⟨t + 1, _, by omega, by go_num, rfl⟩
                        case measure => simp [intOf]; omega
                    · have ht9 : t = 90 := by omega
                      subst ht9
                      go_wp2
                      go_roundw
                      case rel => exact ⟨i + 1, j3, by omega, by go_num, rfl⟩
                      case measure => simp [intOf]; omega
            · have him2 : m = i := by omega
              subst him2
              go_wp2
              go_ret
              exact ⟨rfl, below_drewN bel2 _⟩
def FarG {α : Type} (p q : Value × List α) : Prop := ∀ g, p.1.ownBlock = some g → q.1.ownBlock ≠ some g
/-- Rows, each in a block of its own. -/
structure LiveG {α : Type} (enc : List α → List Value) (e : TypeId) (sz : Nat) (w : World) (B : Nat) (R : List (Value × List α)) : Prop where
  rows : ∀ p ∈ R, w.ownsRow B e sz p.1 p.2.length (enc p.2)
  far : R.Pairwise FarG

theorem rowG_below {w w' : World} {B n sz : Nat} {v : Value} {xs : List Value} {e : TypeId} (h : w.ownsRow B e sz v n xs) (hb : Below w.heap.size w w') : w'.ownsRow B e sz v n xs := by
  obtain ⟨h1, h2⟩ := h
  refine ⟨h1, ?_⟩
  rcases h2 with h2 | ⟨g', cap', cur, hv, hg, hh, r⟩
  · exact Or.inl h2
  · exact Or.inr ⟨g', cap', cur, hv, hg, (hb.block g' (Array.getElem?_eq_some_iff.1 hh).1).trans hh, r⟩
theorem LiveG.nil {α : Type} {enc : List α → List Value} {e : TypeId} {sz : Nat} (w : World) (B : Nat) : LiveG enc e sz w B [] := ⟨fun p hp => (by cases hp), List.Pairwise.nil⟩
theorem LiveG.below {α : Type} {enc : List α → List Value} {e : TypeId} {sz : Nat} {w w' : World} {B : Nat} {R : List (Value × List α)} (h : LiveG enc e sz w B R) (hb : Below w.heap.size w w') : LiveG enc e sz w' B R :=
  ⟨fun p hp => rowG_below (h.rows p hp) hb, h.far⟩
theorem LiveG.add {α : Type} {enc : List α → List Value} {e : TypeId} {sz : Nat} {w w' : World} {B n : Nat} {R : List (Value × List α)} {v : Value} {xs : List α} (h : LiveG enc e sz w B R) (hb : Below w.heap.size w w') (hB : B ≤ w.heap.size) (hl : xs.length = n)
    (hr : w'.ownsRow w.heap.size e sz v n (enc xs)) : LiveG enc e sz w' B ((v, xs) :: R) := by
  subst hl
  refine ⟨fun p hp => ?_, List.pairwise_cons.2 ⟨fun q hq g h1 h2 => ?_, h.far⟩⟩
  · rcases List.mem_cons.1 hp with rfl | hp
    · exact ownsRow_base hr hB
    · exact rowG_below (h.rows p hp) hb
  · have a1 := (hr.lt g h1).1
    have a2 := ((h.rows q hq).lt g h2).2
    omega
/-- One row is changed in its place. -/
theorem LiveG.set {α : Type} {enc : List α → List Value} {e : TypeId} {sz : Nat} {w w' : World} {B n : Nat} (R1 R2 : List (Value × List α)) {v : Value} {xs ys : List α} (h : LiveG enc e sz w B (R1 ++ (v, xs) :: R2)) (hg : w.grownBy w' v.ownBlock) (hl : ys.length = n)
    (hr : w'.ownsRow B e sz v n (enc ys)) : LiveG enc e sz w' B (R1 ++ (v, ys) :: R2) := by
  subst hl
  have hf := h.far
  rw [List.pairwise_append, List.pairwise_cons] at hf
  obtain ⟨f1, ⟨f2, f3⟩, f4⟩ := hf
  have keep : ∀ p ∈ R1 ++ (v, xs) :: R2, FarG p (v, xs) ∨ FarG (v, xs) p → w'.ownsRow B e sz p.1 p.2.length (enc p.2) := fun p hp hfar => by
    refine (h.rows p hp).kept hg ?_
    cases hb : p.1.ownBlock with
    | none => exact Or.inl rfl
    | some g =>
      refine Or.inr fun e9 => ?_
      rcases hfar with hfar | hfar
      · exact hfar g hb e9.symm
      · exact hfar g e9.symm hb
  refine ⟨fun p hp => ?_, ?_⟩
  · rcases List.mem_append.1 hp with hp | hp
    · exact keep p (List.mem_append.2 (Or.inl hp)) (Or.inl (f4 p hp (v, xs) List.mem_cons_self))
    · rcases List.mem_cons.1 hp with rfl | hp
      · exact hr
      · exact keep p (List.mem_append.2 (Or.inr (List.mem_cons_of_mem _ hp))) (Or.inr (f2 p hp))
  · rw [List.pairwise_append, List.pairwise_cons]
    exact ⟨f1, ⟨fun q hq => f2 q hq, f3⟩, fun p hp q hq => by
      rcases List.mem_cons.1 hq with rfl | hq
      · exact f4 p hp (v, xs) List.mem_cons_self
      · exact f4 p hp q (List.mem_cons_of_mem _ hq)⟩
/-- What changes a block of another type leaves the rows. -/
theorem LiveG.other {α : Type} {enc : List α → List Value} {e : TypeId} {sz : Nat} {w w' : World} {B : Nat} {R : List (Value × List α)} (h : LiveG enc e sz w B R) {g : Nat} (hg : w.grownBy w' (some g)) {cs : Array Value} {e' : TypeId} (hb : w.heap[g]? = some (.cells cs e' (0, 0))) (hne : e' ≠ e) : LiveG enc e sz w' B R :=
  ⟨fun p hp => by
    have hr := h.rows p hp
    refine hr.kept hg ?_
    rcases hr.2 with ⟨hv, _⟩ | ⟨g', cap, cur, hv, _, hg', _⟩
    · rw [hv]; exact Or.inl rfl
    · rw [hv]
      refine Or.inr fun e9 => ?_
      have e8 : g' = g := Option.some.inj e9
      rw [e8, hb] at hg'
      injection hg' with hg'
      injection hg' with _ h8 _
      exact hne h8, h.far⟩
theorem LiveG.sub {α : Type} {enc : List α → List Value} {e : TypeId} {sz : Nat} {w : World} {B : Nat} {R P : List (Value × List α)} (h : LiveG enc e sz w B R) (hs : P.Sublist R) : LiveG enc e sz w B P := ⟨fun p hp => h.rows p (hs.subset hp), h.far.sublist hs⟩
theorem LiveG.own {α : Type} {enc : List α → List Value} {e : TypeId} {sz : Nat} {w : World} {B n : Nat} {R : List (Value × List α)} {v : Value} {xs : List α} (h : LiveG enc e sz w B R) (hm : (v, xs) ∈ R) (hl : xs.length = n) : w.ownsRow B e sz v n (enc xs) := by
  subst hl
  exact h.rows _ hm
theorem LiveG.drewN {α : Type} {enc : List α → List Value} {e : TypeId} {sz : Nat} {w : World} {B : Nat} {R : List (Value × List α)} (h : LiveG enc e sz w B R) (k : Nat) : LiveG enc e sz (w.drewN k) B R := ⟨fun p hp => h.rows p hp, h.far⟩

abbrev encY : List Int → List Value := List.map (Value.int .u8)
abbrev encM : List Bool → List Value := List.map Value.bool
/-- A list of rows of bytes whose rows all lie apart. -/
theorem live_apart {w : World} {B : Nat} {P : List (Value × List Int)} (h : LiveG encY 5 1 w B P) (hsm : ∀ p ∈ P, p.2.length ≤ 2000000000) (m : Nat) (hm : P.length = m) (cs : Array Value) (hcs : cs.toList = P.map (·.1)) :
    Apart (w.alloc (.cells cs 22)) B w.heap.size m (fun i => (P.getD i (.slice none 0 0, [])).1) (fun i => (P.getD i (.slice none 0 0, [])).2.length) (fun i => (P.getD i (.slice none 0 0, [])).2) := by
  subst hm
  have hget : ∀ i, (hi : i < P.length) → P.getD i (.slice none 0 0, []) = P[i] := fun i hi => by rw [List.getD_eq_getElem?_getD, List.getElem?_eq_getElem hi]; rfl
  refine ⟨fun i hi => ?_, fun i hi => ?_, fun i hi => ?_, fun i j hi hj hne g hg hg2 => ?_, fun i hi hg => ?_, by simp⟩
  · have h9 := heap_alloc_new w (.cells cs 22)
    simp only [World.cell?, h9]
    rw [← Array.getElem?_toList, hcs, List.getElem?_map, List.getElem?_eq_getElem hi]
    simp only [hget i hi, Option.map_some]
    rfl
  · simp only [hget i hi]
    exact hsm _ (List.getElem_mem hi)
  · simp only [hget i hi]
    exact (h.rows _ (List.getElem_mem hi)).alloc _
  · simp only [hget i hi] at hg
    simp only [hget j hj] at hg2
    have hp := List.pairwise_iff_getElem.1 h.far
    rcases Nat.lt_or_gt_of_ne hne with h1 | h1
    · exact hp i j hi hj h1 g hg hg2
    · exact hp j i hj hi h1 g hg2 hg
  · simp only [hget i hi] at hg
    exact Nat.lt_irrefl _ ((h.rows _ (List.getElem_mem hi)).lt _ hg).2
end Go.Proofs.YteefekhlbillfaaDoor
