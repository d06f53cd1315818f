/-
  SEAT YtdiifegljonojaaGreatDoor: ParcelOwn, of several texts.
-/
import Derived.Test.YtdiifegljonojaaGreatDoorXi
import Derived.Maps.AppendAt
import Derived.BigRegion
import Derived.Test.YtdiifegljonojaaGreatDoorZc
import Derived.Test.YtdiifegljonojaaGreatDoorCards
import Derived.Test.YtdiifegljonojaaGreatDoorTie
import Derived.ProofKit
import Derived.OpenShut
import Derived.ShutString
import Derived.ChangeOld
import Derived.SizedLaws
import Derived.Deep.DeepHandedRow
import Derived.Lib.LaidTab
import Derived.Lib.SmallJoins
import Derived.Stop.LaidErr
namespace Go.Proofs.YtdiifegljonojaaGreatDoor
open Go.RowKit
set_option linter.unusedVariables false

theorem info25 : (Tryz.prog.info? 25).map (fun i => (i.zero, i.size, i.bytes)) = some (some (.slice none 0 0), 1, 24) := by kernel_rfl

theorem row_blk {w : World} {B sz n : Nat} {e : TypeId} {v : Value} {xs : List Value} (h : w.ownsRow B e sz v n xs) : ∀ g, v.ownBlock = some g → B ≤ g ∧ ∃ cs : Array Value, w.heap[g]? = some (Obj.cells cs e (0, 0)) := by
  intro g hg
  rcases h.2 with ⟨hv, _⟩ | ⟨g', cap, cur, hv, hB, hc, _⟩
  · rw [hv] at hg; cases hg
  · rw [hv] at hg
    cases hg
    exact ⟨hB, cur, hc⟩
/-- What lies below B, and every block that is no row of bytes, stays. -/
structure Kb (B : Nat) (w w' : World) : Prop where
  bel : Below B w w'
  oth : ∀ (i : Nat) (cs : Array Value) (e : TypeId), e ≠ 5 → w.heap[i]? = some (Obj.cells cs e (0, 0)) → w'.heap[i]? = some (Obj.cells cs e (0, 0))
theorem Kb.refl (B : Nat) (w : World) : Kb B w w := ⟨Below.refl _ _, fun _ _ _ _ h => h⟩
theorem Kb.size {B : Nat} {w u : World} (h : Kb B w u) : w.heap.size ≤ u.heap.size := h.bel.size
theorem Kb.trans {B : Nat} {w u v : World} (h : Kb B w u) (k : Kb B u v) : Kb B w v := ⟨h.bel.trans k.bel, fun i cs e he hi => k.oth i cs e he (h.oth i cs e he hi)⟩
theorem Kb.up {B : Nat} {w u v : World} (h : Kb B w u) (hb : Below u.heap.size u v) (hB : B ≤ u.heap.size) : Kb B w v :=
  ⟨h.bel.trans (hb.mono hB), fun i cs e he hi => (hb.block i (Array.getElem?_eq_some_iff.1 (h.oth i cs e he hi)).1).trans (h.oth i cs e he hi)⟩
theorem Kb.alloc {B : Nat} {w u : World} (h : Kb B w u) (hB : B ≤ u.heap.size) (o : Obj) : Kb B w (u.alloc o) := h.up (below_alloc u o) hB
theorem Kb.grow {B : Nat} {w u v : World} {r : Option Nat} (h : Kb B w u) (hg : u.grownBy v r) (hB : B ≤ u.heap.size) (hr : ∀ g, r = some g → B ≤ g ∧ (w.heap.size ≤ g ∨ ∃ cs : Array Value, u.heap[g]? = some (Obj.cells cs 5 (0, 0)))) : Kb B w v :=
  ⟨h.bel.grown hg hB (fun g hg => (hr g hg).1), fun i cs e he hi => by
    have h1 := h.oth i cs e he hi
    by_cases hri : r = some i
    · rcases (hr i hri).2 with h2 | ⟨cs', h2⟩
      · have := (Array.getElem?_eq_some_iff.1 hi).1
        omega
      · rw [h1] at h2
        cases h2
        exact absurd rfl he
    · exact (hg.block i (Array.getElem?_eq_some_iff.1 h1).1 (fun e => hri e.symm)).trans h1⟩
theorem Kb.setC {B : Nat} {w u : World} {g k : Nat} (h : Kb B w u) (hB : B ≤ u.heap.size) (hg : B ≤ g) (hc : ∃ cs : Array Value, u.heap[g]? = some (Obj.cells cs 5 (0, 0))) (x : Value) : Kb B w (u.setCell ⟨g, k, none⟩ x) :=
  h.grow (set_grown u g k x) hB (fun q hq => by cases hq; exact ⟨hg, Or.inr hc⟩)
theorem Kb.drew {B : Nat} {w u : World} (h : Kb B w u) : Kb B w u.drew := ⟨h.bel.drew, fun i cs e he hi => h.oth i cs e he hi⟩
theorem Kb.drewN {B : Nat} {w u : World} (h : Kb B w u) (k : Nat) : Kb B w (u.drewN k) := ⟨below_drewN h.bel k, fun i cs e he hi => h.oth i cs e he hi⟩

/-- The mark of the list i at its place k. -/
def tl (i k : Nat) : Int := if k % 2 = 0 then (i : Int) % 256 else bits .xor .u8 (((i : Int) / 256) % 256) 85
theorem xor_bd (z y : Int) (h0 : 0 ≤ z) (h1 : z ≤ 255) (h2 : 0 ≤ y) (h3 : y ≤ 255) : 0 ≤ bits .xor .u8 z y ∧ bits .xor .u8 z y ≤ 255 := by
  obtain ⟨z, rfl⟩ := Int.eq_ofNat_of_zero_le h0
  obtain ⟨y, rfl⟩ := Int.eq_ofNat_of_zero_le h2
  have hx : z ^^^ y < 2 ^ 8 := Nat.xor_lt_two_pow (by omega) (by omega)
  rw [u8_xor_nat z y (by omega) (by omega)]
  omega
theorem tl_range (i k : Nat) : 0 ≤ tl i k ∧ tl i k ≤ 255 := by
  unfold tl
  split
  · omega
  · exact xor_bd _ 85 (by omega) (by omega) (by decide) (by decide)
theorem tell_any (i k : Nat) (w : World) (hi : i ≤ 1000000000) (hk : k ≤ 140737488355000) : Calls Tryz.prog 26 #[.int .i64 (i : Int), .int .i64 (k : Int)] w fun e w' => e = .returned (.int .u8 (tl i k)) ∧ w = w' := by
  by_cases h : k % 2 = 0
  · have e1 : (k : Int) % 2 = 0 := by omega
    have e2 : tl i k = (i : Int) % 256 := if_pos h
    go_enter Tryz.func26, Tryz.ntmps26
    go_wp2
    go_ret
    exact ⟨by rw [e2]; rfl, rfl⟩
  · have e1 : (k : Int) % 2 = 1 := by omega
    have e2 : tl i k = bits .xor .u8 (((i : Int) / 256) % 256) 85 := if_neg h
    go_enter Tryz.func26, Tryz.ntmps26
    go_wp2
    go_ret
    exact ⟨by rw [e2]; rfl, rfl⟩

/-- append of a byte to a row that is grown of another one: the other one stands. -/
structure Grown (u w : World) (B : Nat) (vi v : Value) (n k : Nat) (F X : List Int) : Prop where
  old : w.ownsRow B 5 1 vi n (F.map (Value.int .u8))
  new : w.ownsRow B 5 1 v (n + k) ((F ++ X).map (Value.int .u8))
  place : (∃ g c, v = .slice (some ⟨g, 0, none⟩) (n + k) c ∧ vi = .slice (some ⟨g, 0, none⟩) n c) ∨ ∀ g, v.ownBlock = some g → u.heap.size ≤ g
  grow : u.grownBy w vi.ownBlock
  was : ∀ g, vi.ownBlock = some g → g < u.heap.size

theorem grownBy_out {u w w' : World} {r s : Option Nat} (h : u.grownBy w r) (k : w.grownBy w' s) (hs : ∀ g, s = some g → some g ≠ r → u.heap.size ≤ g) : u.grownBy w' r :=
  ⟨k.os.trans h.os, k.tape.trans h.tape, k.output.trans h.output, Nat.le_trans h.size k.size, fun i hi hr => by
    rw [k.block i (Nat.lt_of_lt_of_le hi h.size) (fun e => by have := hs i e.symm hr; omega)]
    exact h.block i hi hr⟩

theorem run_grow (ty : TypeId) {u w : World} {B : Nat} {vi v : Value} {n k : Nat} {F X : List Int} (h : Grown u w B vi v n k F X) (hB : B ≤ u.heap.size) (z : Int) (hz : 0 ≤ z ∧ z ≤ 255) (hn : n + k ≤ 4000000000) :
    ∃ v' w', (Builtin.append_ #[25, 25] ty #[v, .slice (some ⟨w.heap.size, 0, none⟩) 1 1]).run Tryz.prog (w.alloc (.cells #[.int .u8 z] 5)) = .ok v' w' ∧ Grown u w' B vi v' n (k + 1) F (X ++ [z]) ∧ Kb B w w' := by
  obtain ⟨i0, hi, hz0, hz1, hz2⟩ := info_parts info5
  obtain ⟨h1, h2, h3, h4, h5⟩ := h
  have hsz : B ≤ (w.alloc (.cells #[.int .u8 z] 5)).heap.size := by have := h4.size; simp; omega
  have ga : u.grownBy (w.alloc (.cells #[.int .u8 z] 5)) vi.ownBlock := grownBy_out h4 (World.grownBy_alloc w _ none) (fun g e => by cases e)
  have h1a := h1.alloc (.cells #[.int .u8 z] 5)
  have h2a := h2.alloc (.cells #[.int .u8 z] 5)
  have hbel0 : Kb B w (w.alloc (.cells #[.int .u8 z] 5)) := (Kb.refl B w).alloc (by have := h4.size; omega) _
  have hlast : ((F ++ X) ++ [z]) = F ++ (X ++ [z]) := List.append_assoc ..
  by_cases hv : v = .slice none 0 0
  · -- nothing was there
    obtain ⟨v', w', hr, ho, hg, _, hp⟩ := run_append_own_at (P := Tryz.prog) (w := w.alloc (.cells #[.int .u8 z] 5)) B 25 ty 5 i0 (.int .u8 0) 1 1 Tryz.underlying25 hi hz0 hz1 hz2 rfl (by decide) v (n + k) _ h2a ⟨w.heap.size, 0, none⟩ 1 1 [.int .u8 z] rfl (news_one _ _) (by simp [Value.oneCell']) (by simp [maxLen]; omega) (by omega) hsz
    subst hv
    have hvi : vi.ownBlock = none ∨ vi.ownBlock ≠ none := by cases vi.ownBlock <;> simp
    have hnk : n + k = 0 := by
      rcases h2.2 with ⟨_, h⟩ | ⟨g, c, cur, e, _⟩
      · exact h
      · cases e
    have hn0 : n = 0 := by omega
    have hown : w'.ownsRow B 5 1 vi n (F.map (Value.int .u8)) := by
      refine h1a.kept hg ?_
      simp only [Value.ownBlock]
      exact hvi
    refine ⟨v', w', hr, ⟨hown, ?_, Or.inr ?_, grownBy_out ga hg (fun g e => by cases e), h5⟩, hbel0.grow hg hsz (fun g e => by cases e)⟩
    · rw [← hlast, List.map_append]; exact ho
    · intro g e
      rcases hp with hp | hp
      · rw [hp] at e; cases e
      · rw [hp] at e; cases e
        have := h4.size
        simp
        omega
  · obtain ⟨g, c, cur, rfl, hBg, hgc, hnc, hcm, hcs, htk⟩ : ∃ g cap cur, v = .slice (some ⟨g, 0, none⟩) (n + k) cap ∧ B ≤ g ∧ w.heap[g]? = some (.cells cur 5 (0, 0)) ∧ n + k ≤ cap ∧ cap ≤ maxLen ∧ cur.size = cap * 1 ∧ cur.toList.take ((n + k) * 1) = ((F ++ X).map (Value.int .u8)) := by
      rcases h2.2 with ⟨h, _⟩ | h
      · exact absurd h hv
      · exact h
    have hgw : g < w.heap.size := by
      rcases Nat.lt_or_ge g w.heap.size with h | h
      · exact h
      · simp [Array.getElem?_eq_none h] at hgc
    by_cases hroom : n + k + 1 ≤ c
    · obtain ⟨w', r1, r2, r3⟩ := run_append_fits (P := Tryz.prog) (w.alloc (.cells #[.int .u8 z] 5)) B 25 ty 5 i0 1 Tryz.underlying25 hi hz1 g (n + k) c _ h2a ⟨w.heap.size, 0, none⟩ 1 1 [.int .u8 z] rfl (news_one _ _) (by simp [Value.oneCell']) hroom
      have hout : ∀ q, (some g : Option Nat) = some q → some q ≠ vi.ownBlock → u.heap.size ≤ q := by
        intro q e hne
        cases e
        rcases h3 with ⟨g', c', e1, e2⟩ | h3
        · cases e1
          rw [e2] at hne
          exact absurd rfl hne
        · exact h3 g rfl
      refine ⟨_, w', r1, ⟨?_, ?_, ?_, grownBy_out ga r3 hout, h5⟩, hbel0.grow r3 hsz (fun q e => by cases e; exact ⟨hBg, Or.inr (row_blk h2a g rfl).2⟩)⟩
      · rcases h3 with ⟨g', c', e1, e2⟩ | h3
        · cases e1
          rw [e2]
          have hf := Own.front r2 (show n ≤ n + k + 1 by omega)
          have hFl : F.length = n := by have := h1.1; simpa using this
          rw [List.map_append, List.append_assoc, List.take_left' (by simp [hFl])] at hf
          exact hf
        · refine h1a.kept r3 ?_
          by_cases hb : vi.ownBlock = some g
          · have := h3 g rfl
            have := h5 g hb
            omega
          · exact Or.inr hb
      · rw [← hlast, List.map_append]; exact r2
      · rcases h3 with ⟨g', c', e1, e2⟩ | h3
        · cases e1
          exact Or.inl ⟨g, c, rfl, e2⟩
        · exact Or.inr fun q e => h3 q e
    · have hlx : (F ++ X).length = n + k := by have := h2.1; simpa using this
      have holds : ∀ j q, ((F ++ X).map (Value.int .u8))[j]? = some q → (w.alloc (.cells #[.int .u8 z] 5)).cell? ((⟨g, 0, none⟩ : Addr).add j) = some q := World.ownsRow.cells h2a (g := g) rfl
      have hr := run_append_grow (P := Tryz.prog) (w.alloc (.cells #[.int .u8 z] 5)) 25 ty 5 i0 (.int .u8 0) Tryz.underlying25 hi hz0 ⟨g, 0, none⟩ (n + k) c ((F ++ X).map (Value.int .u8)) (by rw [List.length_map, hlx, hz1, Nat.mul_one]) holds ⟨w.heap.size, 0, none⟩ 1 1 [.int .u8 z] (by simp [hz1]) (news_one _ _) (by omega) (by omega) (growslice_fits (by omega) (by rw [hz2]; omega))
      have hge := grownCap_ge (w.alloc (.cells #[.int .u8 z] 5)) (n + k + 1) c 5
      have hcm2 : grownCap (w.alloc (.cells #[.int .u8 z] 5)) (n + k + 1) c 5 ≤ maxLen := grownCap_le_maxLen _ (n + k + 1) c 5 (by simp [maxLen]; omega)
      have gb : ∀ o, (w.alloc (.cells #[.int .u8 z] 5)).grownBy ((w.alloc (.cells #[.int .u8 z] 5)).drew.alloc o) none := fun o => ⟨rfl, rfl, rfl, by simp, fun q hq _ => Below.heap_alloc (w.alloc (.cells #[.int .u8 z] 5)).drew o q hq⟩
      have hkeep : vi.ownBlock = none ∨ vi.ownBlock ≠ none := by cases vi.ownBlock <;> simp
      refine ⟨_, _, hr, ⟨h1a.kept (gb _) hkeep, ⟨?_, .inr ⟨(w.alloc (.cells #[.int .u8 z] 5)).heap.size, _, _, rfl, hsz, heap_alloc_new (w.alloc (.cells #[.int .u8 z] 5)).drew _, hge, hcm2, ?_, ?_⟩⟩, Or.inr ?_, grownBy_out ga (gb _) (fun g e => by cases e), h5⟩, hbel0.grow (gb _) hsz (fun q e => by cases e)⟩
      · rw [← hlast, List.length_map, List.length_append, hlx]; simp; rfl
      · simp only [Array.size_append, List.size_toArray, size_zeroCells, List.length_map, hlx, Value.cells]
        simp
        omega
      · simp only [Array.toList_append, List.append_assoc, Nat.mul_one]
        rw [← List.append_assoc, List.take_left' (by rw [List.length_append, List.length_map, hlx]; rfl), ← hlast]
        simp
      · intro q e
        cases e
        have := h4.size
        simp
        omega
/-- m rows in a list at the block G, each in a block of its own. -/
structure Apart (w : World) (B G m : Nat) (vs : Nat → Value) (ns : Nat → Nat) (X : Nat → List Int) : Prop where
  outer : ∀ i, i < m → w.cell? ⟨G, i, none⟩ = some (vs i)
  small : ∀ i, i < m → ns i ≤ 2000000000
  rows : ∀ i, i < m → w.ownsRow B 5 1 (vs i) (ns i) ((X i).map (Value.int .u8))
  ne : ∀ i j, i < m → j < m → i ≠ j → ∀ g, (vs i).ownBlock = some g → (vs j).ownBlock ≠ some g
  neG : ∀ i, i < m → (vs i).ownBlock ≠ some G
  hG : G < w.heap.size

theorem Apart.move {w w' : World} {B G m : Nat} {vs : Nat → Value} {ns : Nat → Nat} {X Y : Nat → List Int} (h : Apart w B G m vs ns X) (i : Nat) (hi : i < m) (hg : w.grownBy w' (vs i).ownBlock)
    (hr : w'.ownsRow B 5 1 (vs i) (ns i) ((Y i).map (Value.int .u8))) (hY : ∀ j, j < m → j ≠ i → Y j = X j) : Apart w' B G m vs ns Y := by
  obtain ⟨h1, h2, h3, h4, h5, h6⟩ := h
  refine ⟨fun j hj => ?_, h2, fun j hj => ?_, h4, h5, Nat.lt_of_lt_of_le h6 hg.size⟩
  · rw [World.cell?_of_block (hg.block G h6 (fun e => h5 i hi e.symm))]
    exact h1 j hj
  · by_cases e : j = i
    · subst e; exact hr
    · rw [hY j hj e]
      refine (h3 j hj).kept hg ?_
      cases hb : (vs j).ownBlock with
      | none => exact Or.inl rfl
      | some g => exact Or.inr (fun e2 => h4 j i hj hi e g hb e2.symm)

theorem Apart.drewN {w : World} {B G m : Nat} {vs : Nat → Value} {ns : Nat → Nat} {X : Nat → List Int} (h : Apart w B G m vs ns X) (q : Nat) : Apart (w.drewN q) B G m vs ns X := by
  obtain ⟨h1, h2, h3, h4, h5, h6⟩ := h
  exact ⟨fun i hi => by simpa using h1 i hi, h2, fun i hi => h3 i hi, h4, h5, h6⟩

theorem own_form {w : World} {B n : Nat} {v : Value} {xs : List Value} (h : w.ownsRow B 5 1 v n xs) : ∃ a c, v = .slice a n c := by
  rcases h.2 with ⟨hv, h0⟩ | ⟨g, cap, cur, hv, _⟩
  · exact ⟨none, 0, by rw [hv, h0]⟩
  · exact ⟨_, _, hv⟩

/-- The row i with its first k marks. -/
def fillT (i k : Nat) (xs : List Int) : List Int := (List.range k).map (tl i) ++ xs.drop k
theorem fillT_step (i k : Nat) (xs : List Int) (h : k < xs.length) : (fillT i k xs).set k (tl i k) = fillT i (k + 1) xs := by
  unfold fillT
  rw [List.set_append_right _ _ (by simp), List.length_map, List.length_range, Nat.sub_self, List.drop_eq_getElem_cons h, List.set_cons_zero, List.range_succ, List.map_append]
  simp
def markT (i n : Nat) : List Int := (List.range n).map (tl i)
theorem fillT_all (i n : Nat) (xs : List Int) (h : xs.length = n) : fillT i n xs = markT i n := by
  unfold fillT markT
  rw [List.drop_of_length_le (by omega), List.append_nil]
theorem markT_succ (i n : Nat) : markT i (n + 1) = markT i n ++ [tl i n] := by simp [markT, List.range_succ]
theorem markT_length (i n : Nat) : (markT i n).length = n := by simp [markT]
theorem markT_range (i n : Nat) : ∀ x ∈ markT i n, 0 ≤ x ∧ x ≤ 255 := by
  intro x hx
  obtain ⟨k, _, rfl⟩ := List.mem_map.1 hx
  exact tl_range i k
theorem markT_getD (i n k : Nat) (h : k < n) : (markT i n).getD k 0 = tl i k := by simp [markT, List.getD_eq_getElem?_getD, h]

/-- The rows when the first i are filled. -/
def part1 (ns : Nat → Nat) (X : Nat → List Int) (i : Nat) : Nat → List Int := fun j => if j < i then markT j (ns j) else X j
theorem quiet_un {P : Program} {f : FuncId} {args : Array Value} {w : World} {j n : Nat} {v : Value}
    (h : Calls P f args (w.drewN (j + n)) fun e w' => e = .returned v ∧ w' = w.drewN (j + n)) : Calls P f args (w.drewN (j + n)) fun e w'' => e = .returned v ∧ ∃ m, w'' = w.drewN (j + m) :=
  h.mono fun _ _ ⟨he, hm⟩ => ⟨he, n, hm⟩

/-- The rows, and what the first i of them grew to. -/
structure Second (w : World) (B B2 G m : Nat) (vs : Nat → Value) (ns : Nat → Nat) (i : Nat) (gv : Value) (gs : Nat → Value) : Prop where
  ap : Apart w B G m vs ns (fun j => markT j (ns j))
  hB2 : G < B2
  list : w.ownsRow B2 25 1 gv i ((List.range i).map gs)
  rows : ∀ j, j < i → w.ownsRow B 5 1 (gs j) (ns j + 90) ((markT j (ns j) ++ markT (j + 5000) 90).map (Value.int .u8))
  d1 : ∀ j l, j < i → l < m → l ≠ j → ∀ g, (gs j).ownBlock = some g → (vs l).ownBlock ≠ some g

theorem types_apart {w : World} {B B2 n m : Nat} {v u : Value} {xs ys : List Value} (h : w.ownsRow B2 25 1 v n xs) (k : w.ownsRow B 5 1 u m ys) : v.ownBlock = none ∨ v.ownBlock ≠ u.ownBlock := by
  rcases h.2 with ⟨rfl, _⟩ | ⟨g, cap, cur, rfl, _, hg, _⟩
  · exact Or.inl rfl
  · refine Or.inr fun e => ?_
    rcases k.2 with ⟨rfl, _⟩ | ⟨g', cap', cur', rfl, _, hg', _⟩
    · cases e
    · simp [Value.ownBlock] at e
      subst e
      rw [hg] at hg'
      simp at hg'

theorem own_form22 {w : World} {B n : Nat} {v : Value} {xs : List Value} (h : w.ownsRow B 25 1 v n xs) : ∃ a c, v = .slice a n c := by
  rcases h.2 with ⟨hv, h0⟩ | ⟨g, cap, cur, hv, _⟩
  · exact ⟨none, 0, by rw [hv, h0]⟩
  · exact ⟨_, _, hv⟩

theorem grown_start {w : World} {B n : Nat} {v : Value} {F : List Int} (h : w.ownsRow B 5 1 v n (F.map (Value.int .u8))) : Grown w w B v v n 0 F [] := by
  refine ⟨h, by simpa using h, ?_, World.grownBy.refl _ _, fun g hg => (h.lt g hg).2⟩
  rcases h.2 with ⟨rfl, _⟩ | ⟨g, cap, cur, rfl, _⟩
  · exact Or.inr fun g e => by cases e
  · exact Or.inl ⟨g, cap, rfl, rfl⟩

theorem wpList_grow {u w : World} {ops : Array Oper} {rest : List Oper} {o : Oper} {a : Act} {Q : Exit → Act → World → Prop} (hgd : o.guard = none) (s x : Operand)
    (ho : o.op = .call { callee := .builtin .append, args := #[s, x], argTypes := #[25, 25] })
    {B : Nat} {vi v : Value} {n k : Nat} {F X : List Int} (h : Grown u w B vi v n k F X) (hB : B ≤ u.heap.size) (z : Int) (hz : 0 ≤ z ∧ z ≤ 255) (hn : n + k ≤ 4000000000)
    (hs : a.eval s = v) (hx : a.eval x = .slice (some ⟨w.heap.size, 0, none⟩) 1 1)
    (hk : ∀ v' w', Grown u w' B vi v' n (k + 1) F (X ++ [z]) → Kb B w w' → wpList Tryz.prog ops Q rest (a.put o.dst v') w') : wpList Tryz.prog ops Q (o :: rest) a (w.alloc (.cells #[.int .u8 z] 5)) := by
  obtain ⟨v', w', hr, h1, h2⟩ := run_grow o.type h hB z hz hn
  refine wpList_plain hgd fun K hK => ?_
  unfold Oper.wp
  simp [execOp, ho, resolve, invoke, builtin, hs, hx, hr, Result.andThen]
  exact hK _ _ (hk v' w' h1 h2)

theorem Second.more {u w w' : World} {B B2 G m : Nat} {vs : Nat → Value} {ns : Nat → Nat} {i : Nat} {gv gv' v : Value} {gs : Nat → Value} (h : Second u B B2 G m vs ns i gv gs) (hi : i < m)
    (hg : Grown u w B (vs i) v (ns i) 90 (markT i (ns i)) (markT (i + 5000) 90)) (hw : w.grownBy w' gv.ownBlock) (hl : w'.ownsRow B2 25 1 gv' (i + 1) ((List.range i).map gs ++ [v])) :
    Second w' B B2 G m vs ns (i + 1) gv' (fun j => if j = i then v else gs j) := by
  obtain ⟨h1, hB2, h2, h3, h4⟩ := h
  have sep : ∀ {q : Nat} {x : Value} {ys : List Value}, u.ownsRow B 5 1 x q ys → x.ownBlock = none ∨ x.ownBlock ≠ gv.ownBlock := by
    intro q x ys hx
    rcases types_apart h2 hx with h5 | h5
    · cases hb : x.ownBlock with
      | none => exact Or.inl rfl
      | some g => exact Or.inr (by rw [h5]; simp)
    · exact Or.inr fun e => h5 e.symm
  have l2 : w.ownsRow B2 25 1 gv i ((List.range i).map gs) := h2.kept hg.grow (types_apart h2 (h1.rows i hi))
  have sepw : ∀ {q : Nat} {x : Value} {ys : List Value}, w.ownsRow B 5 1 x q ys → x.ownBlock = none ∨ x.ownBlock ≠ gv.ownBlock := by
    intro q x ys hx
    rcases types_apart l2 hx with h5 | h5
    · cases hb : x.ownBlock with
      | none => exact Or.inl rfl
      | some g => exact Or.inr (by rw [h5]; simp)
    · exact Or.inr fun e => h5 e.symm
  have ap2 : Apart w B G m vs ns (fun j => markT j (ns j)) := h1.move i hi hg.grow hg.old (fun _ _ _ => rfl)
  refine ⟨⟨fun j hj => ?_, h1.small, fun j hj => (ap2.rows j hj).kept hw (sepw (ap2.rows j hj)), h1.ne, h1.neG, Nat.lt_of_lt_of_le ap2.hG hw.size⟩, hB2, ?_, fun j hj => ?_, fun j l hj hl2 hne g hb => ?_⟩
  · rw [World.cell?_of_block (hw.block G ap2.hG (fun e => by have := (l2.lt G e.symm).1; omega))]
    exact ap2.outer j hj
  · rw [List.range_succ, List.map_append]
    have e1 : (List.range i).map (fun j => if j = i then v else gs j) = (List.range i).map gs := by
      apply List.map_congr_left
      intro j hj
      rw [if_neg (by have := List.mem_range.1 hj; omega)]
    rw [e1]
    simpa using hl
  · by_cases e : j = i
    · subst e
      rw [if_pos rfl]
      exact hg.new.kept hw (sepw hg.new)
    · rw [if_neg e]
      have h5 := h3 j (by omega)
      refine World.ownsRow.kept (h5.kept hg.grow ?_) hw (sep h5)
      cases hb : (gs j).ownBlock with
      | none => exact Or.inl rfl
      | some g => exact Or.inr fun e2 => h4 j i (by omega) hi (fun e3 => e e3.symm) g hb e2.symm
  · by_cases e : j = i
    · subst e
      rw [if_pos rfl] at hb
      rcases hg.place with ⟨g', c, e1, e2⟩ | hp
      · rw [e1] at hb
        have hb' : (vs j).ownBlock = some g := by rw [e2]; exact hb
        exact h1.ne j l hi hl2 (fun e3 => hne e3.symm) g hb'
      · intro e3
        have := hp g hb
        have := ((h1.rows l hl2).lt g e3).2
        omega
    · rw [if_neg e] at hb
      exact h4 j l (by omega) hl2 hne g hb

set_option maxHeartbeats 1000000 in
set_option maxRecDepth 100000 in
theorem unmet_any (w : World) (B G m cm : Nat) (vs : Nat → Value) (ns : Nat → Nat) (X : Nat → List Int) (hA : Apart w B G m vs ns X) (hm : m ≤ 2000000) (hB : B ≤ w.heap.size) :
    Calls Tryz.prog 12 #[.slice (some ⟨G, 0, none⟩) m cm] w fun e w' => e = .returned (.bool true) ∧ Kb B w w' := by
  have HA : Hid (Apart w B G m vs ns X) := hA
  clear hA
  go_enter Tryz.func12, Tryz.ntmps12
  go_wp2
  go_loopw [3] (fun i wr => ∃ k : Nat, k ≤ m ∧ i = .int .i64 k ∧ Hid (Apart wr B G m vs ns (part1 ns X k)) ∧ Kb B w wr)
    (fun i _ => m - (intOf i).toNat)
  case atStart =>
    refine ⟨0, Nat.zero_le _, rfl, ?_, Kb.refl _ _⟩
    have e : part1 ns X 0 = X := by funext j; simp [part1]
    rw [e]
    exact HA
  case round =>
    obtain ⟨i, hi, rfl, HA1, bel1⟩ := hrel
    by_cases hlt : i < m
    · have hrow := HA1.out.rows i hlt
      have e0 : part1 ns X i i = X i := by simp [part1]
      rw [e0] at hrow
      obtain ⟨n, hn⟩ : ∃ n, n = ns i := ⟨_, rfl⟩
      obtain ⟨v, hv⟩ : ∃ v, v = vs i := ⟨_, rfl⟩
      rw [← hn, ← hv] at hrow
      have hxl : (X i).length = n := by have := hrow.1; simpa using this
      obtain ⟨a, c, rfl⟩ := own_form hrow
      have hc := HA1.out.outer i hlt
      rw [← hv] at hc
      have hGs := HA1.out.hG
      have hGn : (Value.slice a n c).ownBlock ≠ some G := by rw [hv]; exact HA1.out.neG i hlt
      have hns : n ≤ 2000000000 := by rw [hn]; exact HA1.out.small i hlt
      have HN : Hid (n = ns i) := hn
      have HV : Hid (Value.slice a n c = vs i) := hv
      have m1 : (i : Int) < (m : Int) := by omega
      have hd1 : decide ((i : Int) < (m : Int)) = true := decide_eq_true m1
      clear hn hv
      go_wp2
      go_loopw [4] (fun kk wq => ∃ k : Nat, k ≤ n ∧ kk = .int .i64 k ∧ wq.ownsRow B 5 1 (.slice a n c) n ((fillT i k (X i)).map (Value.int .u8)) ∧ wr.grownBy wq (Value.slice a n c).ownBlock ∧ Kb B w wq)
        (fun kk _ => n - (intOf kk).toNat)
      case atStart => exact ⟨0, Nat.zero_le _, rfl, by simpa [fillT] using hrow, World.grownBy.refl _ _, bel1⟩
      case round =>
        obtain ⟨k, hk, rfl, hrow2, hg2, bel2⟩ := hrel
        clear hrow
        have hc2 := (World.cell?_of_block (a := ⟨G, i, none⟩) (hg2.block G hGs (fun e => hGn e.symm))).trans hc
        by_cases hlt2 : k < n
        · obtain ⟨g, cap, hsh, hcap, _, hBg, hgl⟩ := own_shape hrow2 (by omega)
          cases hsh
          have hcx := Own.cell (xs := fillT i k (X i)) hrow2 k hlt2
          have hfz := World.ownsRow.frozenAt hrow2 k
          obtain ⟨z, hz⟩ : ∃ z, z = tl i k := ⟨_, rfl⟩
          have hset := Own.set (xs := fillT i k (X i)) hrow2 k z
          have hset1 := hset.1
          rw [hz, fillT_step i k (X i) (by omega), ← hz] at hset1
          have hgs := grownBy_trans hg2 hset.2
          have HS : Hid (Own _ _ _ _ _ _) := hset1
          have HG : Hid (World.grownBy _ _ _) := hgs
          have ct := fun u => tell_any i k u (by omega) (by omega)
          rw [← hz] at ct
          have HT : Hid _ := ct
          have m2 : (k : Int) < (n : Int) := by omega
          have hd2 : decide ((k : Int) < (n : Int)) = true := decide_eq_true m2
          have hbs := bel2.setC (k := k) (Nat.le_trans hB bel2.size) hBg (row_blk hrow2 g rfl).2 (.int .u8 z)
          have HBS : Hid (Kb _ _ _) := hbs
          clear hset hset1 hgs ct hz hbs hrow2 hg2
          go_wp2
          go_region_with (go_at_call 26; refine (HT.out _).mono ?_; rintro e u ⟨rfl, rfl⟩)
          all_goals go_wp2
          all_goals
            go_roundw
            case rel => exact ⟨k + 1, by omega, by go_num, HS.out, grownBy_trans HG.out ⟨rfl, rfl, rfl, Nat.le_refl _, fun _ _ _ => rfl⟩, HBS.out.drew⟩
            case measure => simp [intOf]; omega
        · have hkn : k = n := by omega
          rw [hkn, fillT_all i n (X i) hxl] at hrow2
          have hA2 : Apart wr B G m vs ns (part1 ns X (i + 1)) := by
            refine HA1.out.move i hlt (by rw [← HV.out]; exact hg2) ?_ ?_
            · have e1 : part1 ns X (i + 1) i = markT i n := by simp [part1, HN.out]
              rw [e1, ← HV.out, ← HN.out]
              exact hrow2
            · intro j hj hne
              unfold part1
              by_cases h1 : j < i
              · rw [if_pos h1, if_pos (by omega)]
              · rw [if_neg h1, if_neg (by omega)]
          have HA2 : Hid (Apart _ _ _ _ _ _ _) := hA2
          clear hA2 hrow2
          go_wp2
          go_roundw
          case rel => exact ⟨i + 1, by omega, by go_num, HA2, bel2⟩
          case measure => simp [intOf]; omega
    · have him : m = i := by omega
      subst him
      have h0 : Second wr B wr.heap.size G m vs ns 0 (.slice none 0 0) (fun _ => .slice none 0 0) := by
        obtain ⟨a1, a2, a3, a4, a5, a6⟩ := HA1.out
        refine ⟨⟨a1, a2, fun j hj => ?_, a4, a5, a6⟩, a6, World.ownsRow_nil _ _ _ _, fun j hj => by omega, fun j l hj => by omega⟩
        have := a3 j hj
        rwa [part1, if_pos (by omega)] at this
      obtain ⟨B2, hB2⟩ : ∃ B2, B2 = wr.heap.size := ⟨_, rfl⟩
      rw [← hB2] at h0
      have H0 : Hid (Second wr B B2 G m vs ns 0 (.slice none 0 0) (fun _ => .slice none 0 0)) := h0
      have hBB : B ≤ B2 := by have := bel1.size; omega
      have hwB2 : w.heap.size ≤ B2 := by have := bel1.size; omega
      have hB2w : B2 ≤ wr.heap.size := by omega
      obtain ⟨j0, hj, jz0, jz1, jz2⟩ := info_parts info25
      clear h0 hB2 HA1 HA
      go_wp2
      go_loopw [5, 6] (fun gv ii wq => ∃ (k : Nat) (gs : Nat → Value), k ≤ m ∧ ii = .int .i64 k ∧ Hid (Second wq B B2 G m vs ns k gv gs) ∧ Kb B w wq ∧ B2 ≤ wq.heap.size)
        (fun _ ii _ => m - (intOf ii).toNat)
      case atStart => exact ⟨0, _, Nat.zero_le _, rfl, H0, bel1, hB2w⟩
      case round =>
        obtain ⟨k, gs, hk, rfl, HS2, bel2, hB2q⟩ := hrel
        clear H0 bel1 hB2w
        obtain ⟨ga, gc, hgv⟩ := own_form22 HS2.out.list
        subst hgv
        by_cases hlt2 : k < m
        · have hrow := HS2.out.ap.rows k hlt2
          obtain ⟨n, hn⟩ : ∃ n, n = ns k := ⟨_, rfl⟩
          obtain ⟨v, hv⟩ : ∃ v, v = vs k := ⟨_, rfl⟩
          rw [← hn, ← hv] at hrow
          obtain ⟨a, c, rfl⟩ := own_form hrow
          have hc := HS2.out.ap.outer k hlt2
          rw [← hv] at hc
          have hns : n ≤ 2000000000 := by rw [hn]; exact HS2.out.ap.small k hlt2
          have HN : Hid (n = ns k) := hn
          have HV : Hid (Value.slice a n c = vs k) := hv
          have HG0 : Hid (Grown wr wr B (.slice a n c) (.slice a n c) n 0 (markT k n) []) := grown_start hrow
          have hBw : B ≤ wr.heap.size := by omega
          have m1 : (k : Int) < (m : Int) := by omega
          have hd1 : decide ((k : Int) < (m : Int)) = true := decide_eq_true m1
          clear hn hv hrow
          go_wp2
          go_loopw [7, 8] (fun v tt wq => ∃ t : Nat, t ≤ 90 ∧ tt = .int .i64 t ∧ Hid (Grown wr wq B (.slice a n c) v n t (markT k n) (markT (k + 5000) t)) ∧ Kb B w wq)
            (fun _ tt _ => 90 - (intOf tt).toNat)
          case atStart => exact ⟨0, by omega, rfl, HG0, bel2⟩
          case round =>
            obtain ⟨t, ht, rfl, HGr, bel3⟩ := hrel
            clear HG0
            by_cases hlt3 : t < 90
            · obtain ⟨z, hz⟩ : ∃ z, z = tl (k + 5000) t := ⟨_, rfl⟩
              have hz2 : 0 ≤ z ∧ z ≤ 255 := by rw [hz]; exact tl_range _ _
              have ct := fun u => tell_any (k + 5000) t u (by omega) (by omega)
              rw [← hz, show ((k + 5000 : Nat) : Int) = (k : Int) + 5000 by omega] at ct
              have HT : Hid _ := ct
              have HM : Hid (markT (k + 5000) (t + 1) = markT (k + 5000) t ++ [z]) := by unfold Hid; rw [markT_succ, hz]
              have hGr := HGr.out
              have m2 : (t : Int) < 90 := by omega
              have hd2 : decide ((t : Int) < 90) = true := decide_eq_true m2
              clear hz ct HGr
              go_wp2_with (first
                | (go_at_call 26; refine (HT.out _).mono ?_; rintro e u ⟨rfl, rfl⟩)
                | (at_builtin; refine wpList_grow rfl (.tmp 51) (.tmp 56) rfl hGr hBw z hz2 (by omega) rfl rfl ?_; intro v5 w5 hg5 bel5; rw [← HM.out] at hg5))
              have HG5 : Hid (Grown _ _ _ _ _ _ _ _ _) := hg5
              have bel6 := bel3.trans bel5
              clear hGr hg5 bel5
              go_wp2
              go_roundw
              case rel => exact ⟨t + 1, by omega, by go_num, HG5, bel6⟩
              case measure => simp [intOf]; omega
            · have ht9 : t = 90 := by omega
              subst ht9
              have hGr := HGr.out
              obtain ⟨g5, c5, rfl, _, _, _, _⟩ := own_shape hGr.new (by omega)
              have hlist : wr.ownsRow B2 25 1 (.slice ga k gc) k ((List.range k).map gs) := by
                refine HS2.out.list.kept hGr.grow ?_
                have := types_apart HS2.out.list (HS2.out.ap.rows k hlt2)
                rw [← HV.out] at this
                exact this
              have hsz6 : B2 ≤ wr.heap.size := by have := hGr.grow.size; omega
              have hgl : B ≤ B2 := hBB
              go_wp2_with (
                (at_builtin; refine wpList_append_own _ rfl (.tmp 58) (.tmp 60) 31 rfl B2 25 j0 (.slice none 0 0) 1 24 Tryz.underlying31 hj jz0 jz1 jz2 rfl (by decide) _ _ _ rfl (hlist.alloc _) ⟨_, 0, none⟩ 1 1 [.slice (some ⟨g5, 0, none⟩) (n + 90) c5] rfl rfl ?_ ?_ ?_ ?_ ?_ ?_; (first | (intro j u hj; match j, hj with | 0, hj => simp at hj; subst hj; simp [Addr.add])); (simp [Value.oneCell']); (simp [maxLen]; omega); omega; (simp; omega); intro v6 w6 hown6 hgrow6 _))
              have hS3 : Second w6 B B2 G m vs ns (k + 1) v6 (fun j => if j = k then .slice (some ⟨g5, 0, none⟩) (n + 90) c5 else gs j) := by
                have hgr := hGr
                rw [HV.out, HN.out] at hgr
                have := HS2.out.more hlt2 hgr (grownBy_trans (World.grownBy_alloc wr _ _) hgrow6) (by rw [← HN.out]; exact hown6)
                rw [HN.out]
                exact this
              have HS3 : Hid (Second _ _ _ _ _ _ _ _ _ _) := hS3
              have bel7 : Kb B w w6 := (bel3.alloc (by have := bel3.size; omega) _).grow hgrow6 (by have := bel3.size; simp; omega) (fun q hq => by have := (hlist.lt q hq).1; exact ⟨by omega, Or.inl (by omega)⟩)
              have hsz7 : B2 ≤ w6.heap.size := by have := hgrow6.size; simp at this; omega
              clear hS3 hlist hGr hown6 hgrow6 HS2 HGr
              go_wp2
              go_roundw
              case rel => exact ⟨k + 1, _, by omega, by go_num, HS3, bel7, hsz7⟩
              case measure => simp [intOf]; omega
        · have hkm : m = k := by omega
          subst hkm
          have n3 : ∀ i, i < m → ∃ a c g c2 gg, vs i = .slice a (ns i) c ∧ gs i = .slice (some ⟨g, 0, none⟩) (ns i + 90) c2 ∧ ga = some ⟨gg, 0, none⟩ ∧ wr.cell? ⟨G, i, none⟩ = some (.slice a (ns i) c) ∧ wr.cell? ⟨gg, i, none⟩ = some (.slice (some ⟨g, 0, none⟩) (ns i + 90) c2) ∧ ns i ≤ 2000000000 ∧
              (∀ t, t < ns i → ∃ q, a = some ⟨q, 0, none⟩ ∧ wr.cell? ⟨q, t, none⟩ = some (.int .u8 (tl i t))) ∧ ∀ t, t < 90 → wr.cell? ⟨g, ns i + t, none⟩ = some (.int .u8 (tl (i + 5000) t)) := by
            intro i hi
            have hrow := HS2.out.ap.rows i hi
            have hrow2 := HS2.out.rows i hi
            obtain ⟨a, c, hv⟩ := own_form hrow
            obtain ⟨g, c2, hg, _, _, _, _⟩ := own_shape hrow2 (by omega)
            have hlist := HS2.out.list
            obtain ⟨gg, hgg⟩ : ∃ gg, ga = some ⟨gg, 0, none⟩ := by
              rcases hlist.2 with ⟨h, h0⟩ | ⟨g', cap', cur, h, _⟩
              · omega
              · cases h; exact ⟨_, rfl⟩
            subst hgg
            refine ⟨a, c, g, c2, gg, hv, hg, rfl, ?_, ?_, HS2.out.ap.small i hi, ?_, ?_⟩
            · rw [HS2.out.ap.outer i hi, hv]
            · have := World.ownsRow.cellAt hlist i (by omega)
              rw [this, List.getElem?_map, List.getElem?_range hi, Option.map_some, hg]
            · intro t ht
              obtain ⟨q, cq, hq, _, _, _, _⟩ := own_shape hrow (by omega)
              rw [hv] at hq
              cases hq
              rw [hv] at hrow
              refine ⟨q, rfl, ?_⟩
              rw [Own.cell (xs := markT i (ns i)) hrow t ht, markT_getD i (ns i) t ht]
            · intro t ht
              rw [hg] at hrow2
              rw [Own.cell (xs := markT i (ns i) ++ markT (i + 5000) 90) hrow2 (ns i + t) (by omega)]
              rw [List.getD_eq_getElem?_getD, List.getElem?_append_right (by rw [markT_length]; omega), markT_length, Nat.add_sub_cancel_left, ← List.getD_eq_getElem?_getD, markT_getD _ 90 t ht]
          have H3 : Hid _ := n3
          clear n3 HS2
          go_wp2
          go_loopw [9] (fun ii wq => ∃ (i j : Nat), i ≤ m ∧ ii = .int .i64 i ∧ wq = wr.drewN j)
            (fun ii _ => m - (intOf ii).toNat)
          case atStart => exact ⟨0, 0, Nat.zero_le _, rfl, rfl⟩
          case round =>
            obtain ⟨i, j, hi, rfl, rfl⟩ := hrel
            by_cases hlt3 : i < m
            · obtain ⟨a, c, g, c2, gg, hv, hg, rfl, hcG, hcg, hns, hrow, hrow2⟩ := H3.out i hlt3
              obtain ⟨n, hn⟩ : ∃ n, n = ns i := ⟨_, rfl⟩
              rw [← hn] at hcG hcg hns hrow hrow2
              have HROW : Hid (∀ t, t < n → ∃ q, a = some ⟨q, 0, none⟩ ∧ wr.cell? ⟨q, t, none⟩ = some (.int .u8 (tl i t))) := hrow
              have HROW2 : Hid (∀ t, t < 90 → wr.cell? ⟨g, n + t, none⟩ = some (.int .u8 (tl (i + 5000) t))) := hrow2
              have m1 : (i : Int) < (m : Int) := by omega
              have hd1 : decide ((i : Int) < (m : Int)) = true := decide_eq_true m1
              clear hv hg hn hrow hrow2
              go_wp2
              go_loopw [11] (fun tt wq => ∃ (t j2 : Nat), t ≤ n ∧ tt = .int .i64 t ∧ wq = wr.drewN j2)
                (fun tt _ => n - (intOf tt).toNat)
              case atStart => exact ⟨0, j, Nat.zero_le _, rfl, rfl⟩
              case round =>
                obtain ⟨t, j2, ht, rfl, rfl⟩ := hrel
                by_cases hlt4 : t < n
                · obtain ⟨q, rfl, hcq⟩ := HROW.out t hlt4
                  obtain ⟨z, hz⟩ : ∃ z, z = tl i t := ⟨_, rfl⟩
                  rw [← hz] at hcq
                  have ct := fun u => (tell_any i t u (by omega) (by omega)).mono fun e u' h => (⟨h.1, h.2.symm⟩ : e = .returned (.int .u8 (tl i t)) ∧ u' = u)
                  rw [← hz] at ct
                  have HT : Hid _ := ct
                  have m2 : (t : Int) < (n : Int) := by omega
                  have hd2 : decide ((t : Int) < (n : Int)) = true := decide_eq_true m2
                  clear hz ct
                  go_wp2
                  go_quiet (first | (go_at_call 26; with_reducible exact quiet_un (HT.out _)))
                  all_goals go_wp2
                  all_goals
                    go_roundw
                    case rel => exact ⟨t + 1, _, by omega, by go_num, rfl⟩
                    case measure => simp [intOf]; omega
                · have htn : n = t := by omega
                  subst htn
                  go_wp2
                  go_loopw [12] (fun tt wq => ∃ (t j3 : Nat), t ≤ 90 ∧ tt = .int .i64 t ∧ wq = wr.drewN j3)
                    (fun tt _ => 90 - (intOf tt).toNat)
                  case atStart => exact ⟨0, j2, Nat.zero_le _, rfl, rfl⟩
                  case round =>
                    obtain ⟨t, j3, ht, rfl, rfl⟩ := hrel
                    by_cases hlt5 : t < 90
                    · have hcq := HROW2.out t hlt5
                      obtain ⟨z, hz⟩ : ∃ z, z = tl (i + 5000) t := ⟨_, rfl⟩
                      rw [← hz] at hcq
                      have ct := fun u => (tell_any (i + 5000) t u (by omega) (by omega)).mono fun e u' h => (⟨h.1, h.2.symm⟩ : e = .returned (.int .u8 (tl (i + 5000) t)) ∧ u' = u)
                      rw [← hz, show ((i + 5000 : Nat) : Int) = (i : Int) + 5000 by omega] at ct
                      have HT : Hid _ := ct
                      have m2 : (t : Int) < 90 := by omega
                      have hd2 : decide ((t : Int) < 90) = true := decide_eq_true m2
                      have m3 : (n : Int) + (t : Int) < (n : Int) + 90 := by omega
                      clear hz ct
                      go_wp2
                      go_quiet (first | (go_at_call 26; with_reducible exact quiet_un (HT.out _)))
                      all_goals go_wp2
                      all_goals
                        go_roundw
                        case rel => exact ⟨t + 1, _, by omega, by go_num, rfl⟩
                        case measure => simp [intOf]; omega
                    · have ht9 : t = 90 := by omega
                      subst ht9
                      go_wp2
                      go_roundw
                      case rel => exact ⟨i + 1, j3, by omega, by go_num, rfl⟩
                      case measure => simp [intOf]; omega
            · have him2 : m = i := by omega
              subst him2
              go_wp2
              go_ret
              exact ⟨rfl, bel2.drewN _⟩
def FarG {α : Type} (p q : Value × List α) : Prop := ∀ g, p.1.ownBlock = some g → q.1.ownBlock ≠ some g
/-- Rows, each in a block of its own. -/
structure LiveG {α : Type} (enc : List α → List Value) (e : TypeId) (sz : Nat) (w : World) (B : Nat) (R : List (Value × List α)) : Prop where
  rows : ∀ p ∈ R, w.ownsRow B e sz p.1 p.2.length (enc p.2)
  far : R.Pairwise FarG

theorem rowG_below {w w' : World} {B n sz : Nat} {v : Value} {xs : List Value} {e : TypeId} (h : w.ownsRow B e sz v n xs) (hb : Below w.heap.size w w') : w'.ownsRow B e sz v n xs := by
  obtain ⟨h1, h2⟩ := h
  refine ⟨h1, ?_⟩
  rcases h2 with h2 | ⟨g', cap', cur, hv, hg, hh, r⟩
  · exact Or.inl h2
  · exact Or.inr ⟨g', cap', cur, hv, hg, (hb.block g' (Array.getElem?_eq_some_iff.1 hh).1).trans hh, r⟩
theorem LiveG.nil {α : Type} {enc : List α → List Value} {e : TypeId} {sz : Nat} (w : World) (B : Nat) : LiveG enc e sz w B [] := ⟨fun p hp => (by cases hp), List.Pairwise.nil⟩
theorem LiveG.below {α : Type} {enc : List α → List Value} {e : TypeId} {sz : Nat} {w w' : World} {B : Nat} {R : List (Value × List α)} (h : LiveG enc e sz w B R) (hb : Below w.heap.size w w') : LiveG enc e sz w' B R :=
  ⟨fun p hp => rowG_below (h.rows p hp) hb, h.far⟩
theorem LiveG.add {α : Type} {enc : List α → List Value} {e : TypeId} {sz : Nat} {w w' : World} {B n : Nat} {R : List (Value × List α)} {v : Value} {xs : List α} (h : LiveG enc e sz w B R) (hb : Below w.heap.size w w') (hB : B ≤ w.heap.size) (hl : xs.length = n)
    (hr : w'.ownsRow w.heap.size e sz v n (enc xs)) : LiveG enc e sz w' B ((v, xs) :: R) := by
  subst hl
  refine ⟨fun p hp => ?_, List.pairwise_cons.2 ⟨fun q hq g h1 h2 => ?_, h.far⟩⟩
  · rcases List.mem_cons.1 hp with rfl | hp
    · exact row_lower hr hB
    · exact rowG_below (h.rows p hp) hb
  · have a1 := (hr.lt g h1).1
    have a2 := ((h.rows q hq).lt g h2).2
    omega
/-- One row is changed in its place. -/
theorem LiveG.set {α : Type} {enc : List α → List Value} {e : TypeId} {sz : Nat} {w w' : World} {B n : Nat} (R1 R2 : List (Value × List α)) {v : Value} {xs ys : List α} (h : LiveG enc e sz w B (R1 ++ (v, xs) :: R2)) (hg : w.grownBy w' v.ownBlock) (hl : ys.length = n)
    (hr : w'.ownsRow B e sz v n (enc ys)) : LiveG enc e sz w' B (R1 ++ (v, ys) :: R2) := by
  subst hl
  have hf := h.far
  rw [List.pairwise_append, List.pairwise_cons] at hf
  obtain ⟨f1, ⟨f2, f3⟩, f4⟩ := hf
  have keep : ∀ p ∈ R1 ++ (v, xs) :: R2, FarG p (v, xs) ∨ FarG (v, xs) p → w'.ownsRow B e sz p.1 p.2.length (enc p.2) := fun p hp hfar => by
    refine (h.rows p hp).kept hg ?_
    cases hb : p.1.ownBlock with
    | none => exact Or.inl rfl
    | some g =>
      refine Or.inr fun e9 => ?_
      rcases hfar with hfar | hfar
      · exact hfar g hb e9.symm
      · exact hfar g e9.symm hb
  refine ⟨fun p hp => ?_, ?_⟩
  · rcases List.mem_append.1 hp with hp | hp
    · exact keep p (List.mem_append.2 (Or.inl hp)) (Or.inl (f4 p hp (v, xs) List.mem_cons_self))
    · rcases List.mem_cons.1 hp with rfl | hp
      · exact hr
      · exact keep p (List.mem_append.2 (Or.inr (List.mem_cons_of_mem _ hp))) (Or.inr (f2 p hp))
  · rw [List.pairwise_append, List.pairwise_cons]
    exact ⟨f1, ⟨fun q hq => f2 q hq, f3⟩, fun p hp q hq => by
      rcases List.mem_cons.1 hq with rfl | hq
      · exact f4 p hp (v, xs) List.mem_cons_self
      · exact f4 p hp q (List.mem_cons_of_mem _ hq)⟩
/-- What changes a block of another type leaves the rows. -/
theorem LiveG.other {α : Type} {enc : List α → List Value} {e : TypeId} {sz : Nat} {w w' : World} {B : Nat} {R : List (Value × List α)} (h : LiveG enc e sz w B R) {g : Nat} (hg : w.grownBy w' (some g)) {cs : Array Value} {e' : TypeId} (hb : w.heap[g]? = some (.cells cs e' (0, 0))) (hne : e' ≠ e) : LiveG enc e sz w' B R :=
  ⟨fun p hp => by
    have hr := h.rows p hp
    refine hr.kept hg ?_
    rcases hr.2 with ⟨hv, _⟩ | ⟨g', cap, cur, hv, _, hg', _⟩
    · rw [hv]; exact Or.inl rfl
    · rw [hv]
      refine Or.inr fun e9 => ?_
      have e8 : g' = g := Option.some.inj e9
      rw [e8, hb] at hg'
      injection hg' with hg'
      injection hg' with _ h8 _
      exact hne h8, h.far⟩
theorem LiveG.sub {α : Type} {enc : List α → List Value} {e : TypeId} {sz : Nat} {w : World} {B : Nat} {R P : List (Value × List α)} (h : LiveG enc e sz w B R) (hs : P.Sublist R) : LiveG enc e sz w B P := ⟨fun p hp => h.rows p (hs.subset hp), h.far.sublist hs⟩
theorem LiveG.own {α : Type} {enc : List α → List Value} {e : TypeId} {sz : Nat} {w : World} {B n : Nat} {R : List (Value × List α)} {v : Value} {xs : List α} (h : LiveG enc e sz w B R) (hm : (v, xs) ∈ R) (hl : xs.length = n) : w.ownsRow B e sz v n (enc xs) := by
  subst hl
  exact h.rows _ hm
theorem LiveG.drewN {α : Type} {enc : List α → List Value} {e : TypeId} {sz : Nat} {w : World} {B : Nat} {R : List (Value × List α)} (h : LiveG enc e sz w B R) (k : Nat) : LiveG enc e sz (w.drewN k) B R := ⟨fun p hp => h.rows p hp, h.far⟩

abbrev encY : List Int → List Value := List.map (Value.int .u8)
abbrev encM : List Bool → List Value := List.map Value.bool
/-- A list of rows of bytes whose rows all lie apart. -/
theorem live_apart {w : World} {B : Nat} {P : List (Value × List Int)} (h : LiveG encY 5 1 w B P) (hsm : ∀ p ∈ P, p.2.length ≤ 2000000000) (m : Nat) (hm : P.length = m) (cs : Array Value) (hcs : cs.toList = P.map (·.1)) :
    Apart (w.alloc (.cells cs 25)) B w.heap.size m (fun i => (P.getD i (.slice none 0 0, [])).1) (fun i => (P.getD i (.slice none 0 0, [])).2.length) (fun i => (P.getD i (.slice none 0 0, [])).2) := by
  subst hm
  have hget : ∀ i, (hi : i < P.length) → P.getD i (.slice none 0 0, []) = P[i] := fun i hi => by rw [List.getD_eq_getElem?_getD, List.getElem?_eq_getElem hi]; rfl
  refine ⟨fun i hi => ?_, fun i hi => ?_, fun i hi => ?_, fun i j hi hj hne g hg hg2 => ?_, fun i hi hg => ?_, by simp⟩
  · have h9 := heap_alloc_new w (.cells cs 25)
    simp only [World.cell?, h9]
    rw [← Array.getElem?_toList, hcs, List.getElem?_map, List.getElem?_eq_getElem hi]
    simp only [hget i hi, Option.map_some]
    rfl
  · simp only [hget i hi]
    exact hsm _ (List.getElem_mem hi)
  · simp only [hget i hi]
    exact (h.rows _ (List.getElem_mem hi)).alloc _
  · simp only [hget i hi] at hg
    simp only [hget j hj] at hg2
    have hp := List.pairwise_iff_getElem.1 h.far
    rcases Nat.lt_or_gt_of_ne hne with h1 | h1
    · exact hp i j hi hj h1 g hg hg2
    · exact hp j i hj hi h1 g hg2 hg
  · simp only [hget i hi] at hg
    exact Nat.lt_irrefl _ ((h.rows _ (List.getElem_mem hi)).lt _ hg).2
/-- No two leaves share their data. -/
def LsFar (es : List Le) : Prop := es.Pairwise (fun p q => ∀ g, p.d.ownBlock = some g → q.d.ownBlock ≠ some g)
/-- What Read answers of a row that is right. -/
def RdF (w : World) (l : List Pc) (e : Ending) (w' : World) : Prop := ∃ v es, e = .returned (.tuple #[v, .int .i64 0]) ∧ es.map Le.l = l.map leafOf ∧ LsOn w' w.heap.size v es ∧ LsFar es

set_option maxHeartbeats 4000000 in
set_option maxRecDepth 100000 in
theorem read_okF (b off n c : Nat) (bs : List Int) (l : List Pc) (w : World) (hfit : ∀ p ∈ l, Fit p.size p.segs)
    (ho : Calls Tryz.prog 23 #[.slice (some ⟨b, off, none⟩) n c] w fun e w' => (∃ v es, e = .returned (.tuple #[v, .int .i64 0]) ∧ es.map Pe.p = l ∧ PsK w.heap.size w.heap.size v es w' ∧ es.length ≤ 5000000) ∧ Below w.heap.size w w') :
    Calls Tryz.prog 10 #[.slice (some ⟨b, off, none⟩) n c] w fun e w' => RdF w l e w' ∧ Below w.heap.size w w' := by
  obtain ⟨i0, hi0, hz0, hz1, hz2⟩ := info_parts info38
  have HI : Hid (Tryz.prog.info? 38 = some i0 ∧ i0.zero = some (.agg #[.string ⟨#[]⟩, .int .i64 0, .int .i64 0, .int .u64 0, .slice none 0 0, .string ⟨#[]⟩]) ∧ i0.size = 6 ∧ i0.bytes = 80) := ⟨hi0, hz0, hz1, hz2⟩
  have HO := hide ho
  have HFT := hide hfit
  clear ho hfit hi0 hz0 hz1 hz2
  go_enter Tryz.func10, Tryz.ntmps10
  go_wp2_with (first
    | (go_at_call 23; refine HO.out.mono ?_; rintro e u1 ⟨⟨v, es, rfl, hes, hk, hel⟩, b1⟩
       obtain ⟨va, vc, rfl, hvc⟩ := hk.shape
       obtain ⟨m, hm⟩ : ∃ m, es.length = m := ⟨_, rfl⟩
       obtain ⟨u2, hmk, hmo, hmb⟩ := make_leaves m (by omega) u1
       rw [hm]
       have HB1 := hide b1
       have HK1 := hide hk
       have HES := hide hes
       have HM := hide hm
       have HMO := hide hmo
       have HMB := hide hmb
       have hml : m ≤ 5000000 := by omega
       clear b1 hk hes hm hel hmo hmb hvc))
  go_loopw [6, 22] (fun s6 i wr => ∃ (k : Nat) (ls : List Le), k ≤ m ∧ i = .int .i64 k ∧ Hid (LsOn wr u1.heap.size s6 ls ∧ ls.map Le.l = (l.take k).map leafOf ∧ ls.length = k ∧ Below u1.heap.size u1 wr ∧ LsFar ls)) (fun _ i _ => m - (intOf i).toNat)
  case atStart => exact ⟨0, [], Nat.zero_le _, rfl, ⟨⟨HMO.out, fun x hx => by cases hx⟩, by simp, rfl, HMB.out, List.Pairwise.nil⟩⟩
  case round =>
    obtain ⟨k, ls, hk, rfl, HS⟩ := hrel
    clear hmk HMO HMB
    by_cases hlt : k < m
    · have hke : k < es.length := by have := HM.out; omega
      obtain ⟨g9, hva, hcells, hg9⟩ : ∃ g9, va = some ⟨g9, 0, none⟩ ∧ (∀ j, j < 10 → u1.cell? ⟨g9, k * 10 + j, none⟩ = es[k].cells[j]?) ∧ g9 < u1.heap.size := by
        have hw := HK1.out.own
        rcases hw.2 with ⟨h0, h1⟩ | ⟨g, cap, cur, hv, _, hg, _⟩
        · omega
        · have hv2 := hv
          injection hv with h7 h8 h9
          refine ⟨g, h7, fun j hj => ?_, (Array.getElem?_eq_some_iff.1 hg).1⟩
          rw [hv2] at hw
          rw [World.ownsRow.cellAt hw (k * 10 + j) (by omega), flatP_cell es k j hke hj]
      subst hva
      have hko := HK1.out.oks es[k] (List.getElem_mem hke)
      have hlk : l[k]? = some es[k].p := by rw [← HES.out, List.getElem?_map, List.getElem?_eq_getElem hke]; rfl
      obtain ⟨se, hse⟩ : ∃ se, es[k] = se := ⟨_, rfl⟩
      rw [hse] at hcells hko hlk
      have hft := HFT.out _ (List.mem_of_getElem? hlk)
      obtain ⟨p, v0, v9⟩ := se
      simp only at hlk hft
      obtain ⟨a0, c0, hv0, _⟩ := Pt.Ow.rd hko.ow
      obtain ⟨a9, c9, hv9⟩ := hko.sg.shape
      simp only at hv0 hv9
      subst hv0
      subst hv9
      have HLK := hide hlk
      have HFT2 := hide hft
      have HBW := hide HS.out.2.2.2.1
      have HOK := hide (hko.below (HS.out.2.2.2.1) HB1.out.size)
      have HOK2 := hide (HOK.out.below (below_alloc wr (.cells #[.slice a0 p.names.length c0, .bool (p.ty == 2), .string (Pt.tg p.names), .int .i64 p.ty, .int .i64 p.mode, .int .u64 p.stamp, .slice none 0 0, .string p.target, .int .i64 (p.size : Int), .slice a9 p.segs.length c9] 63)) (Nat.le_trans HB1.out.size HS.out.2.2.2.1.size))
      have y0 : wr.cell? ⟨g9, k * 10, none⟩ = some (.slice a0 p.names.length c0) := by rw [HS.out.2.2.2.1.cell hg9]; exact hcells 0 (by omega)
      have y1 : wr.cell? ⟨g9, k * 10 + 1, none⟩ = some (.bool (p.ty == 2)) := by rw [HS.out.2.2.2.1.cell hg9]; exact hcells 1 (by omega)
      have y2 : wr.cell? ⟨g9, k * 10 + 2, none⟩ = some (.string (Pt.tg p.names)) := by rw [HS.out.2.2.2.1.cell hg9]; exact hcells 2 (by omega)
      have y3 : wr.cell? ⟨g9, k * 10 + 3, none⟩ = some (.int .i64 p.ty) := by rw [HS.out.2.2.2.1.cell hg9]; exact hcells 3 (by omega)
      have y4 : wr.cell? ⟨g9, k * 10 + 4, none⟩ = some (.int .i64 p.mode) := by rw [HS.out.2.2.2.1.cell hg9]; exact hcells 4 (by omega)
      have y5 : wr.cell? ⟨g9, k * 10 + 5, none⟩ = some (.int .u64 p.stamp) := by rw [HS.out.2.2.2.1.cell hg9]; exact hcells 5 (by omega)
      have y6 : wr.cell? ⟨g9, k * 10 + 6, none⟩ = some (.slice none 0 0) := by rw [HS.out.2.2.2.1.cell hg9]; exact hcells 6 (by omega)
      have y7 : wr.cell? ⟨g9, k * 10 + 7, none⟩ = some (.string p.target) := by rw [HS.out.2.2.2.1.cell hg9]; exact hcells 7 (by omega)
      have y8 : wr.cell? ⟨g9, k * 10 + 8, none⟩ = some (.int .i64 (p.size : Int)) := by rw [HS.out.2.2.2.1.cell hg9]; exact hcells 8 (by omega)
      have y9 : wr.cell? ⟨g9, k * 10 + 9, none⟩ = some (.slice a9 p.segs.length c9) := by rw [HS.out.2.2.2.1.cell hg9]; exact hcells 9 (by omega)
      have i1 : (k : Int) < (m : Int) := by omega
      clear hcells hko hlk hft hse hke
      go_wp2_with (first
        | (go_at_call 24; refine (leaf_any w.heap.size w.heap.size ⟨p, .slice a0 p.names.length c0, .slice a9 p.segs.length c9⟩ _ HOK2.out HFT2.out (Nat.le_trans HB1.out.size (Nat.le_trans HBW.out.size (by simp)))).mono ?_; rintro e t1 ⟨⟨d, rfl, dt⟩, b2⟩
           have hd : ∃ da dn dc, d = .slice da dn dc := (by rcases dt.2 with ⟨hv, _⟩ | ⟨g, cap, cur, hv, _⟩; exact ⟨_, _, _, hv⟩; exact ⟨_, _, _, hv⟩)
           obtain ⟨da, dn, dc, rfl⟩ := hd
           have hb3 := (below_alloc wr (.cells #[.slice a0 p.names.length c0, .bool (p.ty == 2), .string (Pt.tg p.names), .int .i64 p.ty, .int .i64 p.mode, .int .u64 p.stamp, .slice none 0 0, .string p.target, .int .i64 (p.size : Int), .slice a9 p.segs.length c9] 63)).trans (b2.mono (by simp))
           have HLS := hide ((HS.out.1.below hb3).below (below_alloc t1 (.cells #[.string (Pt.tg p.names), .int .i64 p.ty, .int .i64 p.mode, .int .u64 p.stamp, .slice da dn dc, .string p.target] 38)))
           have HDT := hide (show DtOn (t1.alloc (.cells #[.string (Pt.tg p.names), .int .i64 p.ty, .int .i64 p.mode, .int .u64 p.stamp, .slice da dn dc, .string p.target] 38)) u1.heap.size (.slice da dn dc) (layD p.size p.segs) from DtOn.below (row_lower dt (by have := HBW.out.size; simp; omega)) (below_alloc _ _))
           have HB3 := hide (HBW.out.trans (hb3.mono HBW.out.size))
           have HZ3 := hide (Nat.le_trans HB1.out.size (Nat.le_trans HBW.out.size hb3.size))
           have HFD : Hid (∀ q, (Value.slice da dn dc).ownBlock = some q → wr.heap.size ≤ q) := fun q hq => by have h8 := (World.ownsRow.lt dt q hq).1; simp at h8; omega
           clear dt b2 hb3 y0 y1 y2 y3 y4 y5 y6 y7 y8 y9)
        | (at_builtin; refine wpList_append_own (t1.alloc (.cells #[.string (Pt.tg p.names), .int .i64 p.ty, .int .i64 p.mode, .int .u64 p.stamp, .slice da dn dc, .string p.target] 38)) rfl (.tmp 26) (.tmp 29) 22 rfl u1.heap.size 38 i0 _ 6 80 Tryz.underlying22 HI.out.1 HI.out.2.1 HI.out.2.2.1 HI.out.2.2.2 rfl (by decide) u6 ls.length (flatL ls) rfl HLS.out.own ⟨t1.heap.size, 0, none⟩ 1 1 [.string (Pt.tg p.names), .int .i64 p.ty, .int .i64 p.mode, .int .u64 p.stamp, .slice da dn dc, .string p.target] rfl rfl (cells_news (heap_alloc_new t1 _)) (by simp [Value.oneCell']) (by have := HS.out.2.2.1; simp only [maxLen]; omega) (by have := HS.out.2.2.1; omega) (Nat.le_trans HB3.out.size (by simp)) ?_; intro v8 t8 own8 grow8 _h8
           have HO8 := hide own8
           have HG8 := hide grow8
           clear own8 grow8 _h8))
      go_roundw
      case rel =>
        refine ⟨k + 1, ls ++ [⟨leafOf p, .slice da dn dc⟩], by omega, by go_num, ?_⟩
        refine (show Hid _ from ⟨LsOn.push HLS.out HG8.out HO8.out HDT.out, ?_, ?_, ?_, ?_⟩)
        · obtain ⟨hkl, hke⟩ := List.getElem?_eq_some_iff.1 HLK.out
          rw [List.map_append, HS.out.2.1, List.take_succ_eq_append_getElem hkl, List.map_append, hke]
          rfl
        · rw [List.length_append, HS.out.2.2.1]; rfl
        · exact (HB3.out.alloc HB3.out.size _).grown HG8.out (Nat.le_trans HB3.out.size (by simp)) (fun i e => (HLS.out.own.lt i e).1)
        · refine List.pairwise_append.2 ⟨HS.out.2.2.2.2, List.pairwise_singleton _ _, fun p9 hp9 q9 hq9 g h1 h2 => ?_⟩
          rw [List.mem_singleton.1 hq9] at h2
          have h3 := HFD.out g h2
          have h4 := (World.ownsRow.lt (HS.out.1.oks p9 hp9) g h1).2
          omega
      case measure => simp [intOf]; omega
    · obtain rfl : k = m := by omega
      have i1 : ¬ (k : Int) < (k : Int) := by omega
      obtain ⟨la, lc, hsh⟩ : ∃ la lc, u6 = .slice la ls.length lc := by rcases HS.out.1.own.2 with ⟨hv, h0⟩ | ⟨g, cap, cur, hv, _⟩; exact ⟨_, _, by rw [hv, h0]⟩; exact ⟨_, _, hv⟩
      subst hsh
      go_wp2
      go_ret2
      refine ⟨⟨_, ls, rfl, ?_, ⟨row_lower HS.out.1.own HB1.out.size, fun x hx => row_lower (HS.out.1.oks x hx) HB1.out.size⟩, HS.out.2.2.2.2⟩, HB1.out.trans (HS.out.2.2.2.1.mono HB1.out.size)⟩
      rw [HS.out.2.1, List.take_of_length_le]
      rw [← HES.out, List.length_map, HM.out]
      exact Nat.le_refl _

theorem read_far (b off n c : Nat) (bs : List Int) (l : List Pc) (w : World) (hrow : Reads w (some ⟨b, off, none⟩) n bs) (hbw : b < w.heap.size) (hn : n ≤ 4194304) (hnc : n ≤ c) (hc : c ≤ 9223372036854775807) (ht : Tab w) (ho : openR bs = .ok l) :
    Calls Tryz.prog 10 #[.slice (some ⟨b, off, none⟩) n c] w fun e w' => RdF w l e w' ∧ Below w.heap.size w w' := by
  rw [openR_eq] at ho
  cases hp : piecesR bs with
  | error x => rw [hp] at ho; cases ho
  | ok pr =>
    obtain ⟨l', r⟩ := pr
    rw [hp] at ho
    simp only at ho
    cases he : endR bs r with
    | error x => rw [he] at ho; cases ho
    | ok y =>
      rw [he] at ho
      cases ho
      exact read_okF b off n c bs _ w (piecesR_fit hp) (opened_ok b off n c bs r _ y w hrow hbw hn hnc hc ht hp he)
theorem set_new (u : World) (p : Addr) (x : Value) (o : Obj) : ((u.setCell p x).alloc o).heap[u.heap.size]? = some o := by
  have h := heap_alloc_new (u.setCell p x) o
  rw [show (u.setCell p x).heap.size = u.heap.size by simp] at h
  exact h
theorem dt_form {w : World} {B n : Nat} {v : Value} {xs : List Value} (h : w.ownsRow B 5 1 v n xs) : ∃ a c, v = .slice a n c := by
  rcases h.2 with ⟨hv, h0⟩ | ⟨g, cap, cur, hv, _⟩
  · exact ⟨none, 0, by rw [hv, h0]⟩
  · exact ⟨_, _, hv⟩

set_option maxHeartbeats 4000000 in
set_option maxRecDepth 100000 in
theorem copied_any (v : Value) (es : List Le) (w : World) (h : RdL w w.heap.size v es) (hel : es.length ≤ 1048576) :
    Calls Tryz.prog 6 #[v] w fun e w' => ∃ v' fs, e = .returned v' ∧ fs.map Le.l = es.map Le.l ∧ LsOn w' w.heap.size v' fs ∧ Below w.heap.size w w' := by
  obtain ⟨i0, hi0, hz0, hz1, hz2⟩ := info_parts info38
  have HI : Hid (Tryz.prog.info? 38 = some i0 ∧ i0.zero = some (.agg #[.string ⟨#[]⟩, .int .i64 0, .int .i64 0, .int .u64 0, .slice none 0 0, .string ⟨#[]⟩]) ∧ i0.size = 6 ∧ i0.bytes = 80) := ⟨hi0, hz0, hz1, hz2⟩
  have HR := hide h
  obtain ⟨a, c, hv, hc1, hc2, hsh⟩ := h.shape
  obtain ⟨n, hn⟩ : ∃ n, es.length = n := ⟨_, rfl⟩
  have HNL := hide hn
  have HSH := hide hsh
  rw [hn] at hel hc1
  rw [hv, hn]
  clear h hn hv hsh hi0 hz0 hz1 hz2
  go_enter Tryz.func6, Tryz.ntmps6
  go_wp2
  go_loopw [3, 4] (fun s3 s4 wr => ∃ (k : Nat) (ls : List Le), k ≤ n ∧ s4 = .int .i64 (k : Int) ∧ Hid (LsOn wr w.heap.size s3 ls ∧ ls.map Le.l = (es.take k).map Le.l ∧ ls.length = k ∧ Below w.heap.size w wr)) (fun _ s4 _ => n - (intOf s4).toNat)
  case atStart => exact ⟨0, [], Nat.zero_le _, rfl, ⟨⟨World.ownsRow_nil _ _ _ _, fun x hx => by cases hx⟩, rfl, rfl, Below.refl _ _⟩⟩
  case round =>
    obtain ⟨k, ls, hk, rfl, HREL⟩ := hrel
    have HLS := hide HREL.out.1
    have HLM := hide HREL.out.2.1
    have HLN := hide HREL.out.2.2.1
    have HBR := hide HREL.out.2.2.2
    clear HREL
    by_cases hlt : k < n
    · have i1 : (k : Int) < (n : Int) := by omega
      have hke : k < es.length := by rw [HNL.out]; exact hlt
      obtain ⟨b0, o0, rfl, hb0w, hcell⟩ := HSH.out (by rw [HNL.out]; omega)
      obtain ⟨se, hse⟩ : ∃ se, es[k] = se := ⟨_, rfl⟩
      have hmem : se ∈ es := by rw [← hse]; exact List.getElem_mem hke
      obtain ⟨da, dn, dc, hd, hrd, -, -, hlow⟩ := HR.out.data se hmem
      have htx := (HR.out.text se hmem).2.2
      have hcl : ∀ j, j < 6 → wr.cell? ⟨b0, o0 + k * 6 + j, none⟩ = se.cells[j]? := by
        intro j hj
        rw [HBR.out.cell hb0w, hcell k hke j hj, List.getElem?_eq_getElem hke, hse]
        rfl
      have hdn : dn = se.l.data.length := hrd.1.symm
      obtain ⟨⟨p, t, md, s, xs, tg⟩, d⟩ := se
      simp only at hd hrd htx hdn
      subst hd
      have y0 : wr.cell? ⟨b0, o0 + k * 6, none⟩ = some (.string p) := hcl 0 (by omega)
      have y1 : wr.cell? ⟨b0, o0 + k * 6 + 1, none⟩ = some (.int .i64 t) := hcl 1 (by omega)
      have y2 : wr.cell? ⟨b0, o0 + k * 6 + 2, none⟩ = some (.int .i64 md) := hcl 2 (by omega)
      have y3 : wr.cell? ⟨b0, o0 + k * 6 + 3, none⟩ = some (.int .u64 s) := hcl 3 (by omega)
      have y4 : wr.cell? ⟨b0, o0 + k * 6 + 4, none⟩ = some (.slice da dn dc) := hcl 4 (by omega)
      have y5 : wr.cell? ⟨b0, o0 + k * 6 + 5, none⟩ = some (.string tg) := hcl 5 (by omega)
      have HRD : Hid (Reads wr da dn xs) := hrd.lowP hlow HBR.out
      have HSE := hide hse
      have TA : Hid True := trivial
      have hdl : dn ≤ 16777216 := by omega
      have HDN := hide hdn
      clear hcl hrd hlow hse hmem htx hcell hdn
      go_wp2_with (first
        | (at_builtin; have zz := TA; clear TA zz; refine wpList_append_reads rfl (.tmp 16) (.tmp 18) rfl (wr.heap.size + 1) (.slice (some ⟨wr.heap.size + 1, 0, none⟩) 0 0) 0 [] rfl (own_nought (wr.alloc (.cells #[.string p, .int .i64 t, .int .i64 md, .int .u64 s, .slice da dn dc, .string tg] 38)) (wr.heap.size + 1) (by simp)) da dn dc xs rfl ((HRD.out.below (below_alloc _ _)).below (below_alloc _ _)) (by omega) (by simp) ?_; intro v1 t1 own1 grow1; simp only [Nat.zero_add, List.nil_append] at own1; obtain ⟨a1, c1, rfl⟩ := dt_form own1
           have TB : Hid True := trivial
           have HB1 : Hid (Below (wr.heap.size + 1) (wr.alloc (.cells #[.string p, .int .i64 t, .int .i64 md, .int .u64 s, .slice da dn dc, .string tg] 38)) t1) := by
             have h9 := below_alloc (wr.alloc (.cells #[.string p, .int .i64 t, .int .i64 md, .int .u64 s, .slice da dn dc, .string tg] 38)) (.cells #[] 5)
             rw [show (wr.alloc (.cells #[.string p, .int .i64 t, .int .i64 md, .int .u64 s, .slice da dn dc, .string tg] 38)).heap.size = wr.heap.size + 1 by simp] at h9
             exact h9.grown grow1 (by simp) (fun q hq => ((own_nought (wr.alloc (.cells #[.string p, .int .i64 t, .int .i64 md, .int .u64 s, .slice da dn dc, .string tg] 38)) (wr.heap.size + 1) (by simp)).lt q hq).1)
           have hbx : t1.heap[wr.heap.size]? = some (.cells #[.string p, .int .i64 t, .int .i64 md, .int .u64 s, .slice da dn dc, .string tg] 38 (0, 0)) := (HB1.out.block wr.heap.size (by omega)).trans (heap_alloc_new wr _)
           obtain ⟨e0, e1, e2, e3, e4, e5⟩ := fb6 hbx
           have fz : t1.frozen? ⟨wr.heap.size, 4, none⟩ = false := by simp [World.frozen?, hbx]
           have HO1 : Hid (t1.ownsRow (wr.heap.size + 1) 5 1 (.slice a1 dn c1) dn (xs.map (Value.int .u8))) := own1
           have hB1 : Below wr.heap.size wr t1 := (below_alloc wr _).trans (HB1.out.mono (by omega))
           have HBX : Hid (Below wr.heap.size wr ((t1.setCell ⟨wr.heap.size, 4, none⟩ (.slice a1 dn c1)).alloc (.cells #[.string p, .int .i64 t, .int .i64 md, .int .u64 s, .slice a1 dn c1, .string tg] 38))) := (hB1.setCell (p := ⟨wr.heap.size, 4, none⟩) (Nat.le_refl _) _).alloc (by simpa using hB1.size) _
           have HDT : Hid (DtOn ((t1.setCell ⟨wr.heap.size, 4, none⟩ (.slice a1 dn c1)).alloc (.cells #[.string p, .int .i64 t, .int .i64 md, .int .u64 s, .slice a1 dn c1, .string tg] 38)) w.heap.size (.slice a1 dn c1) xs) := by
             have h8 : (t1.setCell ⟨wr.heap.size, 4, none⟩ (.slice a1 dn c1)).ownsRow (wr.heap.size + 1) 5 1 (.slice a1 dn c1) dn (xs.map (Value.int .u8)) := World.ownsRow.kept HO1.out (set_grown t1 wr.heap.size 4 (.slice a1 dn c1)) (by
               cases hq : (Value.slice a1 dn c1).ownBlock with
               | none => exact Or.inl rfl
               | some q =>
                 right
                 intro h9
                 have h7 := (World.ownsRow.lt HO1.out q hq).1
                 cases h9
                 omega)
             have h6 := row_lower (rowG_below h8 (below_alloc _ (.cells #[.string p, .int .i64 t, .int .i64 md, .int .u64 s, .slice a1 dn c1, .string tg] 38))) (show w.heap.size ≤ wr.heap.size + 1 by have := HBR.out.size; omega)
             unfold Hid DtOn
             rw [← HDN.out]
             exact h6
           have HLS5 := hide (HLS.out.below HBX.out)
           have HBW := hide (HBR.out.trans (HBX.out.mono HBR.out.size))
           clear own1 grow1 hbx y0 y1 y2 y3 y4 y5 hB1)
        | (at_builtin; have zz := TB; clear TB zz; refine wpList_append_own ((t1.setCell ⟨wr.heap.size, 4, none⟩ (.slice a1 dn c1)).alloc (.cells #[.string p, .int .i64 t, .int .i64 md, .int .u64 s, .slice a1 dn c1, .string tg] 38)) rfl (.tmp 21) (.tmp 23) 22 rfl w.heap.size 38 i0 _ 6 80 Tryz.underlying22 HI.out.1 HI.out.2.1 HI.out.2.2.1 HI.out.2.2.2 rfl (by decide) u3 ls.length (flatL ls) rfl HLS5.out.own ⟨t1.heap.size, 0, none⟩ 1 1 [.string p, .int .i64 t, .int .i64 md, .int .u64 s, .slice a1 dn c1, .string tg] rfl rfl (cells_news (set_new t1 _ _ _)) (by simp [Value.oneCell']) (by have := HLN.out; simp only [maxLen]; omega) (by have := HLN.out; omega) HBW.out.size ?_; intro v8 t8 own8 grow8 _h8
           have HO8 := hide own8
           have HG8 := hide grow8
           clear own8 grow8 _h8 e0 e1 e2 e3 e4 e5 fz))
      go_roundw
      case rel =>
        refine ⟨k + 1, ls ++ [⟨⟨p, t, md, s, xs, tg⟩, .slice a1 dn c1⟩], by omega, by go_num, ?_⟩
        refine (show Hid _ from ⟨LsOn.push (x := ⟨⟨p, t, md, s, xs, tg⟩, .slice a1 dn c1⟩) HLS5.out HG8.out HO8.out HDT.out, ?_, ?_, ?_⟩)
        · rw [List.map_append, HLM.out, List.take_succ_eq_append_getElem hke, List.map_append, HSE.out]
          rfl
        · rw [List.length_append, HLN.out]; rfl
        · exact HBW.out.grown HG8.out HBW.out.size (fun q hq => (HLS5.out.own.lt q hq).1)
      case measure => simp [intOf]; omega
    · obtain rfl : k = n := by omega
      have i1 : ¬ (k : Int) < (k : Int) := by omega
      obtain ⟨la, lc, hsh⟩ : ∃ la lc, u3 = .slice la ls.length lc := by rcases HLS.out.own.2 with ⟨hv, h0⟩ | ⟨g, cap, cur, hv, _⟩; exact ⟨_, _, by rw [hv, h0]⟩; exact ⟨_, _, hv⟩
      subst hsh
      go_wp2
      go_ret
      refine ⟨_, rfl, ls, ?_, HLS.out, HBR.out⟩
      rw [HLM.out, List.take_of_length_le (by rw [HNL.out]; exact Nat.le_refl _)]
def mkM (i k : Nat) : Le := ⟨⟨⟨#[47, 109, 97, 114, 107, 101, 100]⟩, (i : Int), (k : Int), 0, [], ⟨#[]⟩⟩, .slice none 0 0⟩
def mkG (i k : Nat) : Le := ⟨⟨⟨#[47, 103, 114, 111, 119, 110]⟩, (i : Int), (k : Int), 0, [], ⟨#[]⟩⟩, .slice none 0 0⟩
def mrk (i n : Nat) : List Le := (List.range n).map (mkM i)
def grw (i n : Nat) : List Le := (List.range n).map (mkG i)
def filM (i k : Nat) (xs : List Le) : List Le := mrk i k ++ xs.drop k
theorem mrk_len (i n : Nat) : (mrk i n).length = n := by simp [mrk]
theorem grw_len (i n : Nat) : (grw i n).length = n := by simp [grw]
theorem mrk_succ (i n : Nat) : mrk i (n + 1) = mrk i n ++ [mkM i n] := by simp [mrk, List.range_succ]
theorem grw_succ (i n : Nat) : grw i (n + 1) = grw i n ++ [mkG i n] := by simp [grw, List.range_succ]
theorem filM_len (i k : Nat) (xs : List Le) (h : k ≤ xs.length) : (filM i k xs).length = xs.length := by simp [filM, mrk_len]; omega
theorem filM_step (i k : Nat) (xs : List Le) (h : k < xs.length) : (filM i k xs).set k (mkM i k) = filM i (k + 1) xs := by
  unfold filM
  rw [List.set_append_right _ _ (by rw [mrk_len]; exact Nat.le_refl _), mrk_len, Nat.sub_self, List.drop_eq_getElem_cons h, List.set_cons_zero, mrk_succ, List.append_assoc]
  rfl
theorem filM_all (i n : Nat) (xs : List Le) (h : xs.length = n) : filM i n xs = mrk i n := by
  unfold filM
  rw [List.drop_of_length_le (by omega), List.append_nil]
theorem setL (x : Le) (xs : List Le) : ∀ k, k < xs.length → ((((((flatL xs).set (k * 6) (.string x.l.path)).set (k * 6 + 1) (.int .i64 x.l.ty)).set (k * 6 + 2) (.int .i64 x.l.mode)).set (k * 6 + 3) (.int .u64 x.l.stamp)).set (k * 6 + 4) x.d).set (k * 6 + 5) (.string x.l.target) = flatL (xs.set k x) := by
  induction xs with
  | nil => intro k hk; exact absurd hk (Nat.not_lt_zero _)
  | cons y r ih =>
    intro k hk
    have e : ∀ (y : Le) (t : List Le), flatL (y :: t) = .string y.l.path :: .int .i64 y.l.ty :: .int .i64 y.l.mode :: .int .u64 y.l.stamp :: y.d :: .string y.l.target :: flatL t := fun y t => rfl
    match k, hk with
    | 0, _ => rw [List.set_cons_zero, e, e]; rfl
    | k + 1, hk =>
      rw [List.set_cons_succ, e, e, ← ih k (by simpa using hk), show (k + 1) * 6 = k * 6 + 6 by omega]
      rfl
/-- A leaf is written over. -/
def s6 (w : World) (g o : Nat) (x : Le) : World := (((((w.setCell ⟨g, o, none⟩ (.string x.l.path)).setCell ⟨g, o + 1, none⟩ (.int .i64 x.l.ty)).setCell ⟨g, o + 2, none⟩ (.int .i64 x.l.mode)).setCell ⟨g, o + 3, none⟩ (.int .u64 x.l.stamp)).setCell ⟨g, o + 4, none⟩ x.d).setCell ⟨g, o + 5, none⟩ (.string x.l.target)
theorem own6_set {w : World} {B g n cap : Nat} {xs : List Le} (h : w.ownsRow B 38 6 (.slice (some ⟨g, 0, none⟩) n cap) n (flatL xs)) (k : Nat) (hk : k < xs.length) (x : Le) :
    (s6 w g (k * 6) x).ownsRow B 38 6 (.slice (some ⟨g, 0, none⟩) n cap) n (flatL (xs.set k x)) ∧ w.grownBy (s6 w g (k * 6) x) (some g) := by
  obtain ⟨a1, b1⟩ := h.stored (k * 6) (.string x.l.path)
  obtain ⟨a2, b2⟩ := a1.stored (k * 6 + 1) (.int .i64 x.l.ty)
  obtain ⟨a3, b3⟩ := a2.stored (k * 6 + 2) (.int .i64 x.l.mode)
  obtain ⟨a4, b4⟩ := a3.stored (k * 6 + 3) (.int .u64 x.l.stamp)
  obtain ⟨a5, b5⟩ := a4.stored (k * 6 + 4) x.d
  obtain ⟨a6, b6⟩ := a5.stored (k * 6 + 5) (.string x.l.target)
  rw [setL x xs k hk] at a6
  exact ⟨a6, grownBy_trans (grownBy_trans (grownBy_trans (grownBy_trans (grownBy_trans b1 b2) b3) b4) b5) b6⟩
theorem own_form38 {w : World} {B n : Nat} {v : Value} {xs : List Value} (h : w.ownsRow B 38 6 v n xs) : ∃ a c, v = .slice a n c := by
  rcases h.2 with ⟨hv, h0⟩ | ⟨g, cap, cur, hv, _⟩
  · exact ⟨none, 0, by rw [hv, h0]⟩
  · exact ⟨_, _, hv⟩
theorem own_form22' {w : World} {B n : Nat} {v : Value} {xs : List Value} (h : w.ownsRow B 22 1 v n xs) : ∃ a c, v = .slice a n c := by
  rcases h.2 with ⟨hv, h0⟩ | ⟨g, cap, cur, hv, _⟩
  · exact ⟨none, 0, by rw [hv, h0]⟩
  · exact ⟨_, _, hv⟩
theorem own_shape38 {w : World} {B n : Nat} {v : Value} {xs : List Value} (h : w.ownsRow B 38 6 v n xs) (hn : 0 < n) : ∃ g cap, v = .slice (some ⟨g, 0, none⟩) n cap ∧ n ≤ cap ∧ cap ≤ maxLen ∧ B ≤ g ∧ g < w.heap.size := by
  rcases h.2 with ⟨hv, h0⟩ | ⟨g, cap, cur, hv, hB, hg, c1, c2, _⟩
  · omega
  · exact ⟨g, cap, hv, c1, c2, hB, (Array.getElem?_eq_some_iff.1 hg).1⟩
/-- Rows of unlike types lie apart. -/
theorem kinds_apart {w : World} {B B2 n m sz sz' : Nat} {e e' : TypeId} {v u : Value} {xs ys : List Value} (h : w.ownsRow B2 e sz v n xs) (k : w.ownsRow B e' sz' u m ys) (hne : e ≠ e') : v.ownBlock = none ∨ v.ownBlock ≠ u.ownBlock := by
  cases hq : v.ownBlock with
  | none => exact Or.inl rfl
  | some g =>
    right
    intro h9
    obtain ⟨-, cs, h1⟩ := row_blk h g hq
    obtain ⟨-, cs', h2⟩ := row_blk k g h9.symm
    rw [h1] at h2
    cases h2
    exact hne rfl
/-- What stands in the midst of treesApart: the first i lists are filled and grown. -/
structure TrA (w : World) (B B2 G m i : Nat) (vs gs : Nat → Value) (ns : Nat → Nat) (X : Nat → List Le) (gv : Value) : Prop where
  outer : ∀ j, j < m → w.cell? ⟨G, j, none⟩ = some (vs j)
  oblk : ∃ cs, w.heap[G]? = some (.cells cs 22 (0, 0))
  gB : G < B2
  done : ∀ j, j < i → w.ownsRow B 38 6 (gs j) (ns j + 20) (flatL (mrk j (ns j) ++ grw j 20))
  rest : ∀ j, i ≤ j → j < m → w.ownsRow B 38 6 (vs j) (ns j) (flatL (X j))
  far : ∀ j l, j < m → l < m → j ≠ l → ∀ g, (if j < i then gs j else vs j).ownBlock = some g → (if l < i then gs l else vs l).ownBlock ≠ some g
  list : w.ownsRow B2 22 1 gv i ((List.range i).map gs)
  small : ∀ j, j < m → ns j ≤ 1000000000
  sz : B2 ≤ w.heap.size
  form : ∀ j, j < m → ∃ a c, vs j = .slice a (ns j) c
theorem TrA.move {u u' u2 : World} {B B2 G m i : Nat} {vs gs : Nat → Value} {ns : Nat → Nat} {X : Nat → List Le} {gv gv' v : Value} (h : TrA u B B2 G m i vs gs ns X gv) (hi : i < m) (hg : u.grownBy u' (vs i).ownBlock)
    (hv : u'.ownsRow B 38 6 v (ns i + 20) (flatL (mrk i (ns i) ++ grw i 20))) (hnew : v.ownBlock = (vs i).ownBlock ∨ ∀ q, v.ownBlock = some q → u.heap.size ≤ q)
    (hg2 : u'.grownBy u2 gv.ownBlock) (hl : u2.ownsRow B2 22 1 gv' (i + 1) ((List.range i).map gs ++ [v])) :
    TrA u2 B B2 G m (i + 1) vs (fun j => if j = i then v else gs j) ns X gv' := by
  have hri := h.rest i (Nat.le_refl _) hi
  have hl' : u'.ownsRow B2 22 1 gv i ((List.range i).map gs) := World.ownsRow.kept h.list hg (kinds_apart h.list hri (by decide))
  have keep2 : ∀ {p : Value} {n : Nat} {xs : List Value}, u'.ownsRow B 38 6 p n xs → u2.ownsRow B 38 6 p n xs := fun k => World.ownsRow.kept k hg2 (kinds_apart k hl' (by decide))
  have keep1 : ∀ {p : Value} {n : Nat} {xs : List Value}, u.ownsRow B 38 6 p n xs → (∀ g, (vs i).ownBlock = some g → p.ownBlock ≠ some g) → u'.ownsRow B 38 6 p n xs := fun {p n xs} k hf => World.ownsRow.kept k hg (by
    cases hq : p.ownBlock with
    | none => exact Or.inl rfl
    | some q =>
      right
      intro h9
      exact hf q h9.symm hq)
  have ci : (if i < i then gs i else vs i) = vs i := if_neg (Nat.lt_irrefl _)
  have hGlt : G < u.heap.size := by obtain ⟨cs, hc⟩ := h.oblk; exact (Array.getElem?_eq_some_iff.1 hc).1
  have hG1 : u'.heap[G]? = u.heap[G]? := hg.block G hGlt (fun h9 => by
    obtain ⟨-, cs', h2⟩ := row_blk hri G h9.symm
    obtain ⟨cs, hc⟩ := h.oblk
    rw [hc] at h2
    cases h2)
  have hG2 : u2.heap[G]? = u'.heap[G]? := hg2.block G (Nat.lt_of_lt_of_le hGlt hg.size) (fun h9 => by
    have h2 := (World.ownsRow.lt hl' G h9.symm).1
    have h3 := h.gB
    omega)
  refine ⟨fun j hj => ?_, ?_, h.gB, fun j hj => ?_, fun j hj1 hj2 => ?_, ?_, ?_, h.small, Nat.le_trans h.sz (Nat.le_trans hg.size hg2.size), h.form⟩
  · rw [World.cell?_of_block (a := ⟨G, j, none⟩) (hG2.trans hG1)]
    exact h.outer j hj
  · obtain ⟨cs, hc⟩ := h.oblk
    exact ⟨cs, (hG2.trans hG1).trans hc⟩
  · by_cases hji : j = i
    · subst hji
      simp only [if_true]
      exact keep2 hv
    · simp only [if_neg hji]
      refine keep2 (keep1 (h.done j (by omega)) (fun g h8 h9 => ?_))
      have := h.far j i (by omega) hi hji g (by rw [if_pos (by omega)]; exact h9)
      rw [ci] at this
      exact this h8
  · refine keep2 (keep1 (h.rest j (by omega) hj2) (fun g h8 h9 => ?_))
    have := h.far j i hj2 hi (by omega) g (by rw [if_neg (by omega)]; exact h9)
    rw [ci] at this
    exact this h8
  · have old : ∀ j, j < m → j ≠ i → (if j < i + 1 then (if j = i then v else gs j) else vs j) = (if j < i then gs j else vs j) := by
      intro j _ hne
      by_cases h1 : j < i
      · rw [if_pos h1, if_pos (by omega), if_neg hne]
      · rw [if_neg h1, if_neg (by omega)]
    have new : (if i < i + 1 then (if i = i then v else gs i) else vs i) = v := by rw [if_pos (by omega), if_pos rfl]
    have low : ∀ j, j < m → ∀ g, (if j < i then gs j else vs j).ownBlock = some g → g < u.heap.size := by
      intro j hj g hq
      by_cases h1 : j < i
      · rw [if_pos h1] at hq
        exact (World.ownsRow.lt (h.done j h1) g hq).2
      · rw [if_neg h1] at hq
        exact (World.ownsRow.lt (h.rest j (by omega) hj) g hq).2
    intro j l hj hl2 hne g h1 h2
    by_cases hji : j = i
    · subst hji
      rw [new] at h1
      rw [old l hl2 (fun e => hne e.symm)] at h2
      rcases hnew with h3 | h3
      · have := h.far j l hj hl2 hne g (by rw [ci, ← h3]; exact h1)
        exact this h2
      · have := low l hl2 g h2
        have := h3 g h1
        omega
    · rw [old j hj hji] at h1
      by_cases hli : l = i
      · subst hli
        rw [new] at h2
        rcases hnew with h3 | h3
        · have := h.far j l hj hl2 hne g h1
          rw [ci] at this
          exact this (by rw [← h3]; exact h2)
        · have := low j hj g h1
          have := h3 g h2
          omega
      · rw [old l hl2 hli] at h2
        exact h.far j l hj hl2 hne g h1 h2
  · have e : (List.range (i + 1)).map (fun j => if j = i then v else gs j) = (List.range i).map gs ++ [v] := by
      rw [List.range_succ, List.map_append]
      congr 1
      · refine List.map_congr_left fun j hj => ?_
        rw [if_neg (by have := List.mem_range.1 hj; omega)]
      · simp
    rw [e]
    exact hl
theorem mg_lo (i n k : Nat) (h : k < n) : (mrk i n ++ grw i 20)[k]? = some (mkM i k) := by
  rw [List.getElem?_append_left (by rw [mrk_len]; exact h)]
  simp [mrk, h]
theorem mg_hi (i n k : Nat) (h : n ≤ k) (h2 : k < n + 20) : (mrk i n ++ grw i 20)[k]? = some (mkG i (k - n)) := by
  rw [List.getElem?_append_right (by rw [mrk_len]; exact h), mrk_len]
  have : k - n < 20 := by omega
  simp [grw, this]
theorem flat_at (es : List Le) (k j : Nat) (x : Le) (h : es[k]? = some x) (hj : j < 6) : (flatL es)[k * 6 + j]? = x.cells[j]? := by
  obtain ⟨hk, he⟩ := List.getElem?_eq_some_iff.1 h
  rw [lflat_cell es k j hk hj, he]
theorem own_shape22 {w : World} {B n : Nat} {v : Value} {xs : List Value} (h : w.ownsRow B 22 1 v n xs) (hn : 0 < n) : ∃ g cap, v = .slice (some ⟨g, 0, none⟩) n cap ∧ n ≤ cap ∧ cap ≤ maxLen ∧ B ≤ g ∧ g < w.heap.size := by
  rcases h.2 with ⟨hv, h0⟩ | ⟨g, cap, cur, hv, hB, hg, c1, c2, _⟩
  · omega
  · exact ⟨g, cap, hv, c1, c2, hB, (Array.getElem?_eq_some_iff.1 hg).1⟩
theorem reads_nil9 (w : World) : Reads w none 0 [] := ⟨rfl, (fun x hx => by cases hx), fun _ => rfl, fun _ h => by cases h⟩
theorem info22 : (Tryz.prog.info? 22).map (fun i => (i.zero, i.size, i.bytes)) = some (some (.slice none 0 0), 1, 24) := by kernel_rfl

set_option maxHeartbeats 8000000 in
set_option maxRecDepth 100000 in
theorem trees_any (w : World) (B G m cm : Nat) (vs : Nat → Value) (ns : Nat → Nat) (X : Nat → List Le) (hA : TrA w B w.heap.size G m 0 vs (fun _ => .slice none 0 0) ns X (.slice none 0 0)) (hm : m ≤ 1000) (hB : B ≤ w.heap.size) :
    Calls Tryz.prog 13 #[.slice (some ⟨G, 0, none⟩) m cm] w fun e w' => e = .returned (.bool true) ∧ Below B w w' := by
  obtain ⟨i0, hi0, hz0, hz1, hz2⟩ := info_parts info38
  have HI : Hid (Tryz.prog.info? 38 = some i0 ∧ i0.zero = some (.agg #[.string ⟨#[]⟩, .int .i64 0, .int .i64 0, .int .u64 0, .slice none 0 0, .string ⟨#[]⟩]) ∧ i0.size = 6 ∧ i0.bytes = 80) := ⟨hi0, hz0, hz1, hz2⟩
  obtain ⟨j0, hj0, jz0, jz1, jz2⟩ := info_parts info22
  have HJ : Hid (Tryz.prog.info? 22 = some j0 ∧ j0.zero = some (.slice none 0 0) ∧ j0.size = 1 ∧ j0.bytes = 24) := ⟨hj0, jz0, jz1, jz2⟩
  have HA := hide hA
  obtain ⟨B2, hB2⟩ : ∃ B2, w.heap.size = B2 := ⟨_, rfl⟩
  rw [hB2] at HA
  have hBB : B ≤ B2 := by omega
  clear hA hi0 hz0 hz1 hz2 hj0 jz0 jz1 jz2 hB2
  go_enter Tryz.func13, Tryz.ntmps13
  go_wp2
  go_loopw [3, 4] (fun s3 s4 wr => ∃ (i : Nat) (gs : Nat → Value), i ≤ m ∧ s4 = .int .i64 (i : Int) ∧ Hid (TrA wr B B2 G m i vs gs ns X s3 ∧ Below B w wr)) (fun _ s4 _ => m - (intOf s4).toNat)
  case atStart => exact ⟨0, _, Nat.zero_le _, rfl, ⟨HA.out, Below.refl _ _⟩⟩
  case round =>
    obtain ⟨i, gs, hi, rfl, HREL⟩ := hrel
    have HT := hide HREL.out.1
    have HBL := hide HREL.out.2
    clear HREL HA
    obtain ⟨ga, gc, hgv⟩ := own_form22' HT.out.list
    subst hgv
    by_cases hlt : i < m
    · have hrow := HT.out.rest i (Nat.le_refl _) hlt
      obtain ⟨n, hn⟩ : ∃ n, ns i = n := ⟨_, rfl⟩
      obtain ⟨v, hv⟩ : ∃ v, vs i = v := ⟨_, rfl⟩
      have hco := HT.out.outer i hlt
      have hns := HT.out.small i hlt
      rw [hn, hv] at hrow
      rw [hv] at hco
      rw [hn] at hns
      obtain ⟨a, c, rfl⟩ := own_form38 hrow
      have hxl : (X i).length = n := by have := hrow.1; rw [lflat_len] at this; omega
      have HXL := hide hxl
      have HN := hide hn
      have HV := hide hv
      have HGK : Hid (∀ u, wr.grownBy u (Value.slice a n c).ownBlock → u.cell? ⟨G, i, none⟩ = some (.slice a n c)) := by
        intro u hu
        obtain ⟨cs, hc⟩ := HT.out.oblk
        have hb : u.heap[G]? = wr.heap[G]? := hu.block G (Array.getElem?_eq_some_iff.1 hc).1 (fun h9 => by
          obtain ⟨-, cs', h2⟩ := row_blk hrow G h9.symm
          rw [hc] at h2
          cases h2)
        rw [World.cell?_of_block (a := ⟨G, i, none⟩) hb]
        exact hco
      have HRW := hide hrow
      have i1 : (i : Int) < (m : Int) := by omega
      have hBw : B ≤ wr.heap.size := by have := HT.out.sz; omega
      clear hrow hn hv hxl hco
      obtain ⟨W1, hW1⟩ : ∃ W1, W1 = wr := ⟨_, rfl⟩
      subst hW1
      go_wp2
      go_loopw [5] (fun s5 wq => ∃ k : Nat, k ≤ n ∧ s5 = .int .i64 (k : Int) ∧ Hid (wq.ownsRow B 38 6 (.slice a n c) n (flatL (filM i k (X i))) ∧ W1.grownBy wq (Value.slice a n c).ownBlock ∧ Below B w wq)) (fun s5 _ => n - (intOf s5).toNat)
      case atStart => exact ⟨0, Nat.zero_le _, rfl, ⟨HRW.out, World.grownBy.refl _ _, HBL.out⟩⟩
      case round =>
        obtain ⟨k, hk, rfl, HQ⟩ := hrel
        have hcq := HGK.out _ HQ.out.2.1
        by_cases hlt2 : k < n
        · have k1 : (k : Int) < (n : Int) := by omega
          obtain ⟨g, cap, hsh, hcap, _, hBg, hgl⟩ := own_shape38 HQ.out.1 (by omega)
          cases hsh
          have hfl : (filM i k (X i)).length = n := by rw [filM_len _ _ _ (by rw [HXL.out]; omega), HXL.out]
          obtain ⟨y, hy⟩ : ∃ y, (filM i k (X i))[k]'(by omega) = y := ⟨_, rfl⟩
          have hcl : ∀ j, j < 6 → wr.cell? ⟨g, k * 6 + j, none⟩ = y.cells[j]? := by
            intro j hj
            rw [World.ownsRow.cellAt HQ.out.1 (k * 6 + j) (by omega), lflat_cell _ k j (by omega) hj, hy]
          obtain ⟨⟨p, t, md, s, xs, tg⟩, d⟩ := y
          have y0 : wr.cell? ⟨g, k * 6, none⟩ = some (.string p) := hcl 0 (by omega)
          have y1 : wr.cell? ⟨g, k * 6 + 1, none⟩ = some (.int .i64 t) := hcl 1 (by omega)
          have y2 : wr.cell? ⟨g, k * 6 + 2, none⟩ = some (.int .i64 md) := hcl 2 (by omega)
          have y3 : wr.cell? ⟨g, k * 6 + 3, none⟩ = some (.int .u64 s) := hcl 3 (by omega)
          have y4 : wr.cell? ⟨g, k * 6 + 4, none⟩ = some d := hcl 4 (by omega)
          have y5 : wr.cell? ⟨g, k * 6 + 5, none⟩ = some (.string tg) := hcl 5 (by omega)
          have f0 := World.ownsRow.frozenAt HQ.out.1 (k * 6)
          have f1 := World.ownsRow.frozenAt HQ.out.1 (k * 6 + 1)
          have f2 := World.ownsRow.frozenAt HQ.out.1 (k * 6 + 2)
          have f3 := World.ownsRow.frozenAt HQ.out.1 (k * 6 + 3)
          have f4 := World.ownsRow.frozenAt HQ.out.1 (k * 6 + 4)
          have f5 := World.ownsRow.frozenAt HQ.out.1 (k * 6 + 5)
          have hset := own6_set HQ.out.1 k (by omega) (mkM i k)
          rw [filM_step i k (X i) (by rw [HXL.out]; exact hlt2)] at hset
          have HS : Hid _ := hset.1
          have HS2 : Hid _ := hset.2
          clear hset hy hfl hcl
          go_wp2
          refine ⟨⟨k + 1, by omega, by go_num, ⟨HS.out, grownBy_trans HQ.out.2.1 HS2.out, HQ.out.2.2.grown HS2.out (Nat.le_trans hB HQ.out.2.2.size) (fun q hq => by cases hq; exact hBg)⟩⟩, ?_⟩
          simp [intOf]; omega
        · obtain rfl : k = n := by omega
          have k1 : ¬ (k : Int) < (k : Int) := by omega
          have hr1 := HQ.out.1
          rw [filM_all i k (X i) HXL.out] at hr1
          have HR1 := hide hr1
          have HG1 := hide HQ.out.2.1
          have HB1 := hide HQ.out.2.2
          clear hr1 HQ
          go_wp2
          go_loopw [6, 7] (fun s6 s7 wq => ∃ t : Nat, t ≤ 20 ∧ s7 = .int .i64 (t : Int) ∧ Hid (wq.ownsRow B 38 6 s6 (k + t) (flatL (mrk i k ++ grw i t)) ∧ W1.grownBy wq (Value.slice a k c).ownBlock ∧ (s6.ownBlock = (Value.slice a k c).ownBlock ∨ ∀ q, s6.ownBlock = some q → W1.heap.size ≤ q) ∧ Below B w wq)) (fun _ s7 _ => 20 - (intOf s7).toNat)
          case atStart => exact ⟨0, Nat.zero_le _, rfl, ⟨by rw [show grw i 0 = [] from rfl, List.append_nil]; exact HR1.out, HG1.out, Or.inl rfl, HB1.out⟩⟩
          case round =>
            obtain ⟨t, ht, rfl, HQ⟩ := hrel
            have hBq : B ≤ wr.heap.size := Nat.le_trans hB HQ.out.2.2.2.size
            clear HR1 HG1 HB1 hcq
            by_cases hlt3 : t < 20
            · have t1 : (t : Int) < 20 := by omega
              go_wp2_with (first
                | (at_builtin; refine wpList_append_own_at (wr.alloc (.cells #[.string ⟨#[47, 103, 114, 111, 119, 110]⟩, .int .i64 (i : Int), .int .i64 (t : Int), .int .u64 0, .slice none 0 0, .string ⟨#[]⟩] 38)) rfl (.tmp 44) (.tmp 48) 22 rfl B 38 i0 _ 6 80 Tryz.underlying22 HI.out.1 HI.out.2.1 HI.out.2.2.1 HI.out.2.2.2 rfl (by decide) u6 (k + t) (flatL (mrk i k ++ grw i t)) rfl (HQ.out.1.alloc _) ⟨wr.heap.size, 0, none⟩ 1 1 [.string ⟨#[47, 103, 114, 111, 119, 110]⟩, .int .i64 (i : Int), .int .i64 (t : Int), .int .u64 0, .slice none 0 0, .string ⟨#[]⟩] rfl rfl (cells_news (heap_alloc_new wr _)) (by simp [Value.oneCell']) (by simp only [maxLen]; omega) (by omega) (by simp; omega) ?_; intro v8 t8 own8 grow8 _h8 hat8
                   have HO8 := hide own8
                   have HG8 := hide (grownBy_trans (World.grownBy_alloc wr _ _) grow8)
                   have HA8 : Hid (v8.ownBlock = u6.ownBlock ∨ v8.ownBlock = some (wr.heap.size + 1)) := by unfold Hid; simpa using hat8
                   clear own8 grow8 _h8 hat8))
              go_roundw
              case rel =>
                refine ⟨t + 1, by omega, by go_num, ?_⟩
                refine (show Hid _ from ⟨?_, ?_, ?_, ?_⟩)
                · rw [grw_succ, ← List.append_assoc, flatL_append]
                  exact HO8.out
                · refine grownBy_out HQ.out.2.1 HG8.out (fun q hq hne => ?_)
                  rcases HQ.out.2.2.1 with h3 | h3
                  · rw [h3] at hq
                    exact absurd hq.symm hne
                  · exact h3 q hq
                · rcases HA8.out with h3 | h3
                  · rw [h3]
                    exact HQ.out.2.2.1
                  · right
                    intro q hq
                    rw [h3] at hq
                    cases hq
                    have := HQ.out.2.1.size
                    omega
                · exact HQ.out.2.2.2.grown HG8.out hBq (fun q hq => (HQ.out.1.lt q hq).1)
              case measure => simp [intOf]; omega
            · obtain rfl : t = 20 := by omega
              have t1 : ¬ ((20 : Nat) : Int) < 20 := by omega
              have hli : wr.ownsRow B2 22 1 (.slice ga i gc) i ((List.range i).map gs) := World.ownsRow.kept HT.out.list HQ.out.2.1 (kinds_apart HT.out.list HRW.out (by decide))
              have HLI := hide hli
              have hB2q : B2 ≤ wr.heap.size := Nat.le_trans HT.out.sz HQ.out.2.1.size
              obtain ⟨la, lc, hsh6⟩ := own_form38 HQ.out.1
              subst hsh6
              clear hli
              go_wp2_with (first
                | (at_builtin; refine wpList_append_own_at (wr.alloc (.cells #[.slice la (k + 20) lc] 22)) rfl (.tmp 50) (.tmp 52) 35 rfl B2 22 j0 _ 1 24 Tryz.underlying35 HJ.out.1 HJ.out.2.1 HJ.out.2.2.1 HJ.out.2.2.2 rfl (by decide) (.slice ga i gc) i ((List.range i).map gs) rfl (HLI.out.alloc _) ⟨wr.heap.size, 0, none⟩ 1 1 [.slice la (k + 20) lc] rfl rfl (cells_news (heap_alloc_new wr _)) (by simp [Value.oneCell']) (by simp only [maxLen]; omega) (by omega) (by simp; omega) ?_; intro v9 t9 own9 grow9 _h9 _hat9
                   have HO9 := hide own9
                   have HG9 := hide grow9
                   clear own9 grow9 _h9 _hat9))
              go_roundw
              case rel =>
                have hv9 : (wr.alloc (.cells #[.slice la (k + 20) lc] 22)).ownsRow B 38 6 (.slice la (k + 20) lc) (ns i + 20) (flatL (mrk i (ns i) ++ grw i 20)) := by
                  rw [HN.out]
                  exact HQ.out.1.alloc _
                have hmv := HT.out.move (u' := wr.alloc (.cells #[.slice la (k + 20) lc] 22)) (v := .slice la (k + 20) lc) hlt (by rw [HV.out]; exact grownBy_trans HQ.out.2.1 (World.grownBy_alloc wr _ _)) hv9 (by rw [HV.out]; exact HQ.out.2.2.1) HG9.out HO9.out
                refine ⟨i + 1, (fun j => if j = i then .slice la (k + 20) lc else gs j), by omega, by go_num, ?_⟩
                exact (show Hid _ from ⟨hmv, (HQ.out.2.2.2.alloc hBq _).grown HG9.out (by simp; omega) (fun q hq => Nat.le_trans hBB (HLI.out.lt q hq).1)⟩)
              case measure => simp [intOf]; omega
    · obtain rfl : i = m := by omega
      have i1 : ¬ (i : Int) < (i : Int) := by omega
      obtain ⟨W1, hW1⟩ : ∃ W1, W1 = wr := ⟨_, rfl⟩
      subst hW1
      have hBsz : B ≤ W1.heap.size := Nat.le_trans hB HBL.out.size
      obtain ⟨m, hm9⟩ : ∃ m, m = i := ⟨_, rfl⟩
      subst hm9
      go_wp2
      go_loopw [8] (fun s8 wq => ∃ i : Nat, i ≤ m ∧ s8 = .int .i64 (i : Int) ∧ Hid (Below W1.heap.size W1 wq)) (fun s8 _ => m - (intOf s8).toNat)
      case atStart => exact ⟨0, Nat.zero_le _, rfl, Below.refl _ _⟩
      case round =>
        obtain ⟨i, hi9, rfl, HB4⟩ := hrel
        by_cases hlt : i < m
        · have i2 : (i : Int) < (m : Int) := by omega
          obtain ⟨n, hn⟩ : ∃ n, ns i = n := ⟨_, rfl⟩
          have hns := HT.out.small i hlt
          obtain ⟨va, vc, hvs⟩ := HT.out.form i hlt
          have hco := HT.out.outer i hlt
          have hdn := HT.out.done i hlt
          rw [hn] at hns hvs hdn
          rw [hvs] at hco
          obtain ⟨gb, gcap, hgs, hgc, -, -, hgbl⟩ := own_shape22 HT.out.list (by omega)
          cases hgs
          obtain ⟨gl, lcap, hls, hlc, -, -, hgl⟩ := own_shape38 hdn (by omega)
          have hcg : W1.cell? ⟨gb, i, none⟩ = some (.slice (some ⟨gl, 0, none⟩) (n + 20) lcap) := by
            rw [World.ownsRow.cellAt HT.out.list i (by omega), ← hls]
            simp [hlt]
          rw [hls] at hdn
          have HD := hide hdn
          have hGlt : G < W1.heap.size := by obtain ⟨cs, hc⟩ := HT.out.oblk; exact (Array.getElem?_eq_some_iff.1 hc).1
          have q1 : IntKind.i64.wrap ((n : Int) + 20) = ((n + 20 : Nat) : Int) := by rw [IntKind.wrap_i64]; omega
          have HCO := hide hco
          have HCG := hide hcg
          have x1 : wr.cell? ⟨G, i, none⟩ = some (.slice va n vc) := by rw [HB4.out.cell hGlt]; exact HCO.out
          clear hn hvs hco hdn hls hcg
          go_wp2
          go_loopw [10] (fun s10 wq => ∃ k : Nat, k ≤ n + 20 ∧ s10 = .int .i64 (k : Int) ∧ Hid (Below W1.heap.size W1 wq)) (fun s10 _ => (n + 20) - (intOf s10).toNat)
          case atStart => exact ⟨0, Nat.zero_le _, rfl, HB4⟩
          case round =>
            obtain ⟨k, hk, rfl, HB5⟩ := hrel
            clear x1 HB4
            by_cases hlt2 : k < n + 20
            · have k1 : (k : Int) < ((n + 20 : Nat) : Int) := by omega
              have k2 : (k : Int) < (n : Int) + 20 := by omega
              have x2 : wr.cell? ⟨gb, i, none⟩ = some (.slice (some ⟨gl, 0, none⟩) (n + 20) lcap) := by rw [HB5.out.cell hgbl]; exact HCG.out
              by_cases hkn : k < n
              · have c1 : ¬ (n : Int) ≤ (k : Int) := by omega
                have hit : (mrk i n ++ grw i 20)[k]? = some (mkM i k) := mg_lo i n k hkn
                have hcl : ∀ j, j < 6 → wr.cell? ⟨gl, k * 6 + j, none⟩ = (mkM i k).cells[j]? := by
                  intro j hj
                  rw [HB5.out.cell hgl, World.ownsRow.cellAt HD.out (k * 6 + j) (by omega), flat_at _ k j _ hit hj]
                have HCL := hide hcl
                clear hcl hit
                go_wp2
                have hfb : (wr.alloc (.cells #[.string ⟨#[47, 109, 97, 114, 107, 101, 100]⟩, .int .i64 (i : Int), .int .i64 (k : Int), .int .u64 0, .slice none 0 0, .string ⟨#[]⟩] 38)).heap[wr.heap.size]? = some (.cells #[.string ⟨#[47, 109, 97, 114, 107, 101, 100]⟩, .int .i64 (i : Int), .int .i64 (k : Int), .int .u64 0, .slice none 0 0, .string ⟨#[]⟩] 38 (0, 0)) := heap_alloc_new wr _
                obtain ⟨V, hV⟩ : ∃ V, (wr.alloc (.cells #[.string ⟨#[47, 109, 97, 114, 107, 101, 100]⟩, .int .i64 (i : Int), .int .i64 (k : Int), .int .u64 0, .slice none 0 0, .string ⟨#[]⟩] 38)) = V := ⟨_, rfl⟩
                rw [hV] at hfb ⊢
                have hlow : Below wr.heap.size wr V := by rw [← hV]; exact below_alloc wr _
                have hgw : gl < wr.heap.size := Nat.lt_of_lt_of_le hgl HB5.out.size
                have hbw : gb < wr.heap.size := Nat.lt_of_lt_of_le hgbl HB5.out.size
                obtain ⟨e0, e1, e2, e3, e4, e5⟩ := fb6 hfb
                have x3 : V.cell? ⟨gb, i, none⟩ = some (.slice (some ⟨gl, 0, none⟩) (n + 20) lcap) := by rw [hlow.cell hbw]; exact x2
                have y0 : V.cell? ⟨gl, k * 6, none⟩ = some (.string ⟨#[47, 109, 97, 114, 107, 101, 100]⟩) := by rw [hlow.cell hgw]; exact HCL.out 0 (by omega)
                have y1 : V.cell? ⟨gl, k * 6 + 1, none⟩ = some (.int .i64 (i : Int)) := by rw [hlow.cell hgw]; exact HCL.out 1 (by omega)
                have y2 : V.cell? ⟨gl, k * 6 + 2, none⟩ = some (.int .i64 (k : Int)) := by rw [hlow.cell hgw]; exact HCL.out 2 (by omega)
                have y3 : V.cell? ⟨gl, k * 6 + 3, none⟩ = some (.int .u64 0) := by rw [hlow.cell hgw]; exact HCL.out 3 (by omega)
                have y4 : V.cell? ⟨gl, k * 6 + 4, none⟩ = some (.slice none 0 0) := by rw [hlow.cell hgw]; exact HCL.out 4 (by omega)
                have y5 : V.cell? ⟨gl, k * 6 + 5, none⟩ = some (.string ⟨#[]⟩) := by rw [hlow.cell hgw]; exact HCL.out 5 (by omega)
                have HVB : Hid (Below W1.heap.size W1 V) := bel_up HB5.out hlow HB5.out.size
                clear hV hfb hlow x2
                go_region_with (go_at_call 25; refine (lleaf_same _ _ _ _ [] _ none none 0 0 0 _ (reads_nil9 _) (reads_nil9 _)).mono ?_; rintro e u ⟨rfl, hb⟩)
                all_goals go_wp2
                all_goals
                  go_roundw
                  case rel => exact ⟨k + 1, by omega, by go_num, (by first | exact bel_up HVB.out hb HVB.out.size | exact bel_up HVB.out.drew hb HVB.out.size | exact bel_up (below_drewN HVB.out _) hb HVB.out.size | exact (bel_up HVB.out hb HVB.out.size).drew | exact (bel_up HVB.out.drew hb HVB.out.size).drew | exact below_drewN (bel_up HVB.out hb HVB.out.size) _ | exact below_drewN (bel_up (below_drewN HVB.out _) hb HVB.out.size) _)⟩
                  case measure => simp [intOf]; omega
              · have c1 : (n : Int) ≤ (k : Int) := by omega
                have q2 : IntKind.i64.wrap ((k : Int) - (n : Int)) = ((k - n : Nat) : Int) := by rw [IntKind.wrap_i64]; omega
                have hit : (mrk i n ++ grw i 20)[k]? = some (mkG i (k - n)) := mg_hi i n k (by omega) hlt2
                have hcl : ∀ j, j < 6 → wr.cell? ⟨gl, k * 6 + j, none⟩ = (mkG i (k - n)).cells[j]? := by
                  intro j hj
                  rw [HB5.out.cell hgl, World.ownsRow.cellAt HD.out (k * 6 + j) (by omega), flat_at _ k j _ hit hj]
                have HCL := hide hcl
                clear hcl hit
                have HFB0 : Hid (FB (wr.alloc (.cells #[.string ⟨#[47, 109, 97, 114, 107, 101, 100]⟩, .int .i64 (i : Int), .int .i64 (k : Int), .int .u64 0, .slice none 0 0, .string ⟨#[]⟩] 38)) wr.heap.size (.string ⟨#[47, 109, 97, 114, 107, 101, 100]⟩) (.int .i64 (i : Int)) (.int .i64 (k : Int)) (.int .u64 0) (.slice none 0 0) (.string ⟨#[]⟩)) := heap_alloc_new wr _
                go_wp2_with (first | (refine wpList_store41 rfl (.tmp 11) (.tmp 81) rfl wr.heap.size rfl rfl HFB0.out (by simp [Value.oneCell']) ?_))
                have hfb : (fill6 (wr.alloc (.cells #[.string ⟨#[47, 109, 97, 114, 107, 101, 100]⟩, .int .i64 (i : Int), .int .i64 (k : Int), .int .u64 0, .slice none 0 0, .string ⟨#[]⟩] 38)) wr.heap.size (.string ⟨#[47, 103, 114, 111, 119, 110]⟩) (.int .i64 (i : Int)) (.int .i64 ((k - n : Nat) : Int)) (.int .u64 0) (.slice none 0 0) (.string ⟨#[]⟩)).heap[wr.heap.size]? = some (.cells #[.string ⟨#[47, 103, 114, 111, 119, 110]⟩, .int .i64 (i : Int), .int .i64 ((k - n : Nat) : Int), .int .u64 0, .slice none 0 0, .string ⟨#[]⟩] 38 (0, 0)) := fill6_fb HFB0.out _ _ _ _ _ _
                obtain ⟨V, hV⟩ : ∃ V, (fill6 (wr.alloc (.cells #[.string ⟨#[47, 109, 97, 114, 107, 101, 100]⟩, .int .i64 (i : Int), .int .i64 (k : Int), .int .u64 0, .slice none 0 0, .string ⟨#[]⟩] 38)) wr.heap.size (.string ⟨#[47, 103, 114, 111, 119, 110]⟩) (.int .i64 (i : Int)) (.int .i64 ((k - n : Nat) : Int)) (.int .u64 0) (.slice none 0 0) (.string ⟨#[]⟩)) = V := ⟨_, rfl⟩
                rw [hV] at hfb ⊢
                have hlow : Below wr.heap.size wr V := by rw [← hV]; exact (below_alloc wr _).grown (fill6_grown _ _ _ _ _ _ _ _) (by simp) (fun q hq => by cases hq; exact Nat.le_refl _)
                have hgw : gl < wr.heap.size := Nat.lt_of_lt_of_le hgl HB5.out.size
                have hbw : gb < wr.heap.size := Nat.lt_of_lt_of_le hgbl HB5.out.size
                obtain ⟨e0, e1, e2, e3, e4, e5⟩ := fb6 hfb
                have x3 : V.cell? ⟨gb, i, none⟩ = some (.slice (some ⟨gl, 0, none⟩) (n + 20) lcap) := by rw [hlow.cell hbw]; exact x2
                have y0 : V.cell? ⟨gl, k * 6, none⟩ = some (.string ⟨#[47, 103, 114, 111, 119, 110]⟩) := by rw [hlow.cell hgw]; exact HCL.out 0 (by omega)
                have y1 : V.cell? ⟨gl, k * 6 + 1, none⟩ = some (.int .i64 (i : Int)) := by rw [hlow.cell hgw]; exact HCL.out 1 (by omega)
                have y2 : V.cell? ⟨gl, k * 6 + 2, none⟩ = some (.int .i64 ((k - n : Nat) : Int)) := by rw [hlow.cell hgw]; exact HCL.out 2 (by omega)
                have y3 : V.cell? ⟨gl, k * 6 + 3, none⟩ = some (.int .u64 0) := by rw [hlow.cell hgw]; exact HCL.out 3 (by omega)
                have y4 : V.cell? ⟨gl, k * 6 + 4, none⟩ = some (.slice none 0 0) := by rw [hlow.cell hgw]; exact HCL.out 4 (by omega)
                have y5 : V.cell? ⟨gl, k * 6 + 5, none⟩ = some (.string ⟨#[]⟩) := by rw [hlow.cell hgw]; exact HCL.out 5 (by omega)
                have HVB : Hid (Below W1.heap.size W1 V) := bel_up HB5.out hlow HB5.out.size
                clear hV hfb hlow x2
                go_region_with (go_at_call 25; refine (lleaf_same _ _ _ _ [] _ none none 0 0 0 _ (reads_nil9 _) (reads_nil9 _)).mono ?_; rintro e u ⟨rfl, hb⟩)
                all_goals go_wp2
                all_goals
                  go_roundw
                  case rel => exact ⟨k + 1, by omega, by go_num, (by first | exact bel_up HVB.out hb HVB.out.size | exact bel_up HVB.out.drew hb HVB.out.size | exact bel_up (below_drewN HVB.out _) hb HVB.out.size | exact (bel_up HVB.out hb HVB.out.size).drew | exact (bel_up HVB.out.drew hb HVB.out.size).drew | exact below_drewN (bel_up HVB.out hb HVB.out.size) _ | exact below_drewN (bel_up (below_drewN HVB.out _) hb HVB.out.size) _)⟩
                  case measure => simp [intOf]; omega
            · obtain rfl : k = n + 20 := by omega
              have k1 : ¬ ((n + 20 : Nat) : Int) < ((n + 20 : Nat) : Int) := by omega
              go_wp2
              go_roundw
              case rel => exact ⟨i + 1, by omega, by go_num, HB5⟩
              case measure => simp [intOf]; omega
        · obtain rfl : i = m := by omega
          have i2 : ¬ (i : Int) < (i : Int) := by omega
          go_wp2
          go_ret
          exact ⟨rfl, bel_up HBL.out HB4.out hBsz⟩
/-- Rows, lists of leaves and boxes that are live, behind a world. -/
structure OS (uB u : World) (RB : List (Value × List Int)) (RT : List (Value × List Le)) (BX : List (Nat × Array Value × TypeId)) : Prop where
  bB : Below uB.heap.size uB u
  rb : LiveG encY 5 1 u uB.heap.size RB
  rt : LiveG flatL 38 6 u uB.heap.size RT
  bx : ∀ b ∈ BX, u.heap[b.1]? = some (.cells b.2.1 b.2.2 (0, 0)) ∧ b.2.2 ≠ 5
theorem OS.start (u : World) : OS u u [] [] [] := ⟨Below.refl _ _, LiveG.nil _ _, LiveG.nil _ _, fun b hb => by cases hb⟩
theorem OS.up {uB u u' : World} {RB : List (Value × List Int)} {RT : List (Value × List Le)} {BX : List (Nat × Array Value × TypeId)} (h : OS uB u RB RT BX) (hb : Below u.heap.size u u') : OS uB u' RB RT BX :=
  ⟨bel_up h.bB hb h.bB.size, h.rb.below hb, h.rt.below hb, fun b hm => ⟨(hb.block _ (Array.getElem?_eq_some_iff.1 (h.bx b hm).1).1).trans (h.bx b hm).1, (h.bx b hm).2⟩⟩
theorem OS.row {uB u u' : World} {RB : List (Value × List Int)} {RT : List (Value × List Le)} {BX : List (Nat × Array Value × TypeId)} {v : Value} {n : Nat} {xs : List Int} (h : OS uB u RB RT BX) (hb : Below u.heap.size u u') (hn : xs.length = n) (hr : u'.ownsRow u.heap.size 5 1 v n (xs.map (Value.int .u8))) : OS uB u' ((v, xs) :: RB) RT BX :=
  ⟨(h.up hb).bB, h.rb.add hb h.bB.size hn hr, (h.up hb).rt, (h.up hb).bx⟩
theorem OS.box {uB u : World} {RB : List (Value × List Int)} {RT : List (Value × List Le)} {BX : List (Nat × Array Value × TypeId)} (h : OS uB u RB RT BX) (cs : Array Value) (t : TypeId) (ht : t ≠ 5) : OS uB (u.alloc (.cells cs t)) RB RT ((u.heap.size, cs, t) :: BX) := by
  have h1 := h.up (below_alloc u (.cells cs t))
  refine ⟨h1.bB, h1.rb, h1.rt, fun b hb => ?_⟩
  rcases List.mem_cons.1 hb with rfl | hb
  · exact ⟨heap_alloc_new u _, ht⟩
  · exact h1.bx b hb
def dat (es : List Le) : List (Value × List Int) := es.map (fun x => (x.d, x.l.data))
theorem live_all {u u' : World} {B : Nat} {R : List (Value × List Int)} (h : LiveG encY 5 1 u B R) (hb : Below u.heap.size u u') (hB : B ≤ u.heap.size) : ∀ es : List Le, (∀ x ∈ es, DtOn u' u.heap.size x.d x.l.data) → LsFar es → LiveG encY 5 1 u' B (dat es ++ R)
  | [], _, _ => h.below hb
  | x :: es, hd, hf => by
    have hf2 := List.pairwise_cons.1 hf
    have ih := live_all h hb hB es (fun y hy => hd y (List.mem_cons_of_mem _ hy)) hf2.2
    have hx := hd x List.mem_cons_self
    refine ⟨fun p hp => ?_, List.pairwise_cons.2 ⟨fun q hq g h1 h2 => ?_, ih.far⟩⟩
    · rcases List.mem_cons.1 hp with rfl | hp
      · exact row_lower hx hB
      · exact ih.rows p hp
    · rcases List.mem_append.1 hq with hq | hq
      · obtain ⟨y, hy, rfl⟩ := List.mem_map.1 hq
        exact hf2.1 y hy g h1 h2
      · have a1 := (World.ownsRow.lt hx g h1).1
        have a2 := ((h.rows q hq).lt g h2).2
        omega
theorem OS.tree {uB u u' : World} {RB : List (Value × List Int)} {RT : List (Value × List Le)} {BX : List (Nat × Array Value × TypeId)} {v : Value} {es : List Le} (h : OS uB u RB RT BX) (hb : Below u.heap.size u u') (hl : LsOn u' u.heap.size v es) (hf : LsFar es) : OS uB u' (dat es ++ RB) ((v, es) :: RT) BX :=
  ⟨(h.up hb).bB, live_all h.rb hb h.bB.size es hl.oks hf, h.rt.add hb h.bB.size rfl hl.own, (h.up hb).bx⟩
theorem loks {fs : List Le} {es : List Lf} (he : fs.map Le.l = es) (hl : ∀ l ∈ es, Lok l) : ∀ x ∈ fs, Lok x.l := fun x hx => hl _ (by rw [← he]; exact List.mem_map_of_mem hx)
/-- Pack of a tree of the law's own. -/
theorem own_pack (u : World) (B : Nat) (v : Value) (fs : List Le) (es : List Lf) (row : List Int) (h : LsOn u B v fs) (he : fs.map Le.l = es) (hl : ∀ l ∈ es, Lok l) (hp : packM es = .ok row) (hn : row.length ≤ 4194304) (ht : Tab u) :
    Calls Tryz.prog 7 #[v] u fun e u' => ∃ g cap, e = .returned (.tuple #[.slice (some ⟨g, 0, none⟩) row.length cap, .int .i64 0]) ∧ Own u' u.heap.size g row.length cap row ∧ Below u.heap.size u u' := by
  obtain ⟨f1, f2, f3⟩ := pack_facts hp hn
  have hlk := loks he hl
  have R := h.rdl hlk (fun x hx => by have := f1 x.l (by rw [← he]; exact List.mem_map_of_mem hx); omega)
  refine (pack_any v fs u R (by rw [he]; exact f2) ht).mono ?_
  rintro e u' ⟨hv, hb2⟩
  rw [he, hp] at hv
  obtain ⟨g, cap, he2, ho2⟩ := hv
  exact ⟨g, cap, he2, ho2, hb2⟩
/-- Read of a row of the law's own. -/
theorem own_read (u : World) (B g m cap : Nat) (row : List Int) (es : List Lf) (h : Own u B g m cap row) (hl : ∀ l ∈ es, Lok l) (hp : packM es = .ok row) (hm : row.length = m) (hn : m ≤ 4194304) (h20 : 20 ≤ m) (ht : Tab u) :
    Calls Tryz.prog 10 #[.slice (some ⟨g, 0, none⟩) m cap] u fun e u' => ∃ v fs, e = .returned (.tuple #[v, .int .i64 0]) ∧ fs.map Le.l = es ∧ LsOn u' u.heap.size v fs ∧ LsFar fs ∧ Below u.heap.size u u' := by
  obtain ⟨hby, ps, ho, hpm⟩ := pack_open _ _ hp hl
  obtain ⟨g', c', hs, c1, c2, -, hlt⟩ := own_shape h (by omega)
  cases hs
  refine (read_far g 0 m cap row ps u (own_all_reads h hby) hlt hn c1 (by unfold maxLen at c2; omega) ht ho).mono ?_
  rintro e u' ⟨⟨v, fs, he, hes, hls, hfar⟩, hb⟩
  exact ⟨v, fs, he, by rw [hes, hpm], hls, hfar, hb⟩
theorem OS.own {uB u : World} {RB : List (Value × List Int)} {RT : List (Value × List Le)} {BX : List (Nat × Array Value × TypeId)} (h : OS uB u RB RT BX) {g n cap : Nat} {xs : List Int} (hm : ((.slice (some ⟨g, 0, none⟩) n cap : Value), xs) ∈ RB) (hl : xs.length = n) : Own u uB.heap.size g n cap xs := h.rb.own hm hl
/-- A row of bytes is changed in its place. -/
theorem OS.set {uB u u' : World} (R1 R2 : List (Value × List Int)) {RT : List (Value × List Le)} {BX : List (Nat × Array Value × TypeId)} {v : Value} {xs ys : List Int} {n : Nat} (h : OS uB u (R1 ++ (v, xs) :: R2) RT BX) (hg : u.grownBy u' v.ownBlock) (hl : ys.length = n) (hr : u'.ownsRow uB.heap.size 5 1 v n (ys.map (Value.int .u8))) : OS uB u' (R1 ++ (v, ys) :: R2) RT BX := by
  have hrow := h.rb.rows (v, xs) (List.mem_append_right _ List.mem_cons_self)
  refine ⟨h.bB.grown hg h.bB.size (fun q hq => (World.ownsRow.lt hrow q hq).1), LiveG.set R1 R2 h.rb hg hl hr, ⟨fun p hp => World.ownsRow.kept (h.rt.rows p hp) hg (kinds_apart (h.rt.rows p hp) hrow (by decide)), h.rt.far⟩, fun b hb => ⟨?_, (h.bx b hb).2⟩⟩
  obtain ⟨h1, h2⟩ := h.bx b hb
  refine (hg.block b.1 (Array.getElem?_eq_some_iff.1 h1).1 (fun h9 => ?_)).trans h1
  obtain ⟨-, cs, h3⟩ := row_blk hrow b.1 h9.symm
  rw [h1] at h3
  injection h3 with h4
  injection h4 with h5 h6 h7
  exact h2 h6
/-- copy of as much as fits. -/
theorem run_copy_min {w : World} (ty : TypeId) (B g n cap m c : Nat) (xs zs : List Int) (ad : Addr) (hown : Own w B g n cap xs) (hrd : Reads w (some ad) m zs) :
    ∃ w', (Builtin.copy_ #[25, 25] ty #[.slice (some ⟨g, 0, none⟩) n cap, .slice (some ad) m c]).run Tryz.prog w = .ok (goInt ((min m n : Nat) : Int)) w' ∧ Own w' B g n cap (zs.take (min m n) ++ xs.drop (min m n)) ∧ w.grownBy w' (some g) := by
  have hxl := hown.len
  have hr2 : Reads w (some ad) (min m n) (zs.take (min m n)) := hrd.front (min m n) (Nat.min_le_left _ _)
  obtain ⟨M, hM⟩ : ∃ M, min m n = M := ⟨_, rfl⟩
  have hMn : M ≤ n := by rw [← hM]; exact Nat.min_le_right _ _
  rw [hM] at hr2 ⊢
  have hzl := hr2.1
  rcases hown.2 with ⟨h0, _⟩ | ⟨g', cap', cur, hv, hB, hg, hnc, hcm, hcs, htk⟩
  · cases h0
  · cases hv
    have key := run_copy_row (P := Tryz.prog) w 25 25 ty 5 g 0 n cap ad m c cur 5 ((zs.take M).map (Value.int .u8)) Tryz.underlying25 info5s hg (by rw [List.length_map, hzl]; exact hM.symm) hr2.news (by rw [List.length_map, hzl]; omega) (ints_oneCell _ _)
    simp only [List.length_map, hzl] at key
    refine ⟨_, key, ⟨by rw [List.length_map, List.length_append, hzl, List.length_drop]; omega, Or.inr ⟨g, cap, _, rfl, hB, setRow_heap w g cur _ 5 (0, 0) hg, hnc, hcm, ?_, ?_⟩⟩, ⟨rfl, rfl, rfl, by simp, fun j hj hne => setRow_other w g j _ (fun e => hne (by rw [e]))⟩⟩
    · simp only [List.take_zero, List.nil_append, Nat.zero_add, List.size_toArray, List.length_append, List.length_map, hzl, List.length_drop, Array.length_toList, hcs]
      omega
    · rw [Nat.mul_one] at htk ⊢
      show List.take n (cur.toList.take 0 ++ (zs.take M).map (Value.int .u8) ++ cur.toList.drop (0 + M)) = _
      have h2 : (cur.toList.drop M).take (n - M) = (xs.drop M).map (Value.int .u8) := by rw [List.map_drop, ← htk, List.drop_take]
      rw [List.take_zero, List.nil_append, Nat.zero_add, List.take_append, List.map_append, List.length_map, hzl, h2, List.take_of_length_le (by rw [List.length_map, hzl]; omega)]
/-- A tree that was read is still there. -/
theorem OS.ls {uB u : World} {RB : List (Value × List Int)} {RT : List (Value × List Le)} {BX : List (Nat × Array Value × TypeId)} (h : OS uB u RB RT BX) {v : Value} {es : List Le} (ht : (v, es) ∈ RT) (hd : ∀ p ∈ dat es, p ∈ RB) : LsOn u uB.heap.size v es :=
  ⟨h.rt.rows (v, es) ht, fun x hx => h.rb.rows (x.d, x.l.data) (hd _ (List.mem_map_of_mem hx))⟩
theorem OS.vw {uB u : World} {RB : List (Value × List Int)} {RT : List (Value × List Le)} {BX : List (Nat × Array Value × TypeId)} (h : OS uB u RB RT BX) {v : Value} {es : List Le} {ls : List Lf} (ht : (v, es) ∈ RT) (hd : ∀ p ∈ dat es, p ∈ RB) (he : es.map Le.l = ls) (hl : ∀ l ∈ ls, Lok l) : VwL u v es :=
  (h.ls ht hd).vw (fun x hx => (loks he hl x hx).byt)
theorem ls_vw {u u' : World} {B : Nat} {v : Value} {fs : List Le} {ls : List Lf} (h : LsOn u B v fs) (hb : Below u.heap.size u u') (he : fs.map Le.l = ls) (hl : ∀ l ∈ ls, Lok l) : VwL u' v fs := (h.below hb).vw (fun x hx => (loks he hl x hx).byt)
theorem OS.drew {uB u : World} {RB : List (Value × List Int)} {RT : List (Value × List Le)} {BX : List (Nat × Array Value × TypeId)} (h : OS uB u RB RT BX) : OS uB u.drew RB RT BX := h.up ((Below.refl _ _).drew)
theorem apart_own {u : World} {B B2 G cap m : Nat} {P : List (Value × List Int)} (h : LiveG encY 5 1 u B P) (hm : P.length = m) (ha : u.ownsRow B2 25 1 (.slice (some ⟨G, 0, none⟩) m cap) m (P.map (·.1))) (h0 : 0 < m) (hsm : ∀ p ∈ P, p.2.length ≤ 2000000000) :
    Apart u B G m (fun i => (P.getD i (.slice none 0 0, [])).1) (fun i => (P.getD i (.slice none 0 0, [])).2.length) (fun i => (P.getD i (.slice none 0 0, [])).2) := by
  subst hm
  have hget : ∀ i, (hi : i < P.length) → P.getD i (.slice none 0 0, []) = P[i] := fun i hi => by rw [List.getD_eq_getElem?_getD, List.getElem?_eq_getElem hi]; rfl
  have hlt : G < u.heap.size := (World.ownsRow.lt ha G rfl).2
  refine ⟨fun i hi => ?_, fun i hi => ?_, fun i hi => ?_, fun i j hi hj hne g hg hg2 => ?_, fun i hi hg => ?_, hlt⟩
  · rw [World.ownsRow.cellAt ha i (by omega), List.getElem?_map, List.getElem?_eq_getElem hi]
    simp only [hget i hi, Option.map_some]
  · simp only [hget i hi]
    exact hsm _ (List.getElem_mem hi)
  · simp only [hget i hi]
    exact h.rows _ (List.getElem_mem hi)
  · simp only [hget i hi] at hg
    simp only [hget j hj] at hg2
    have hp := List.pairwise_iff_getElem.1 h.far
    rcases Nat.lt_or_gt_of_ne hne with h1 | h1
    · exact hp i j hi hj h1 g hg hg2
    · exact hp j i hj hi h1 g hg2 hg
  · simp only [hget i hi] at hg
    rcases kinds_apart (h.rows _ (List.getElem_mem hi)) ha (by decide) with h1 | h1
    · rw [h1] at hg; cases hg
    · exact h1 hg
theorem live_perm {α : Type} {enc : List α → List Value} {e : TypeId} {sz : Nat} {w : World} {B : Nat} {R R' : List (Value × List α)} (h : LiveG enc e sz w B R) (hp : R.Perm R') : LiveG enc e sz w B R' :=
  ⟨fun p hp' => h.rows p (hp.mem_iff.2 hp'), (hp.pairwise_iff (fun {x y} hxy g h1 h2 => hxy g h2 h1)).1 h.far⟩
theorem live_kb {u u' : World} {B B' : Nat} {RT : List (Value × List Le)} (h : LiveG flatL 38 6 u B RT) (k : Kb B' u u') : LiveG flatL 38 6 u' B RT := by
  refine ⟨fun p hp => ?_, h.far⟩
  obtain ⟨h1, h2⟩ := h.rows p hp
  refine ⟨h1, ?_⟩
  rcases h2 with h2 | ⟨g, cap, cur, hv, hB, hg, r⟩
  · exact Or.inl h2
  · exact Or.inr ⟨g, cap, cur, hv, hB, k.oth g cur 38 (by decide) hg, r⟩
/-- A list that holds rows grows: what is live stays. -/
theorem OS.other {uB u u' : World} {RB : List (Value × List Int)} {RT : List (Value × List Le)} {BX : List (Nat × Array Value × TypeId)} {B2 n : Nat} {v : Value} {xs : List Value} (h : OS uB u RB RT BX) (ha : u.ownsRow B2 25 1 v n xs) (hB : uB.heap.size ≤ B2) (hg : u.grownBy u' v.ownBlock) (hx : ∀ b ∈ BX, b.2.2 ≠ 25) : OS uB u' RB RT BX := by
  refine ⟨h.bB.grown hg h.bB.size (fun q hq => Nat.le_trans hB (World.ownsRow.lt ha q hq).1), ⟨fun p hp => World.ownsRow.kept (h.rb.rows p hp) hg (kinds_apart (h.rb.rows p hp) ha (by decide)), h.rb.far⟩, ⟨fun p hp => World.ownsRow.kept (h.rt.rows p hp) hg (kinds_apart (h.rt.rows p hp) ha (by decide)), h.rt.far⟩, fun b hb => ⟨?_, (h.bx b hb).2⟩⟩
  obtain ⟨h1, h2⟩ := h.bx b hb
  refine (hg.block b.1 (Array.getElem?_eq_some_iff.1 h1).1 (fun h9 => ?_)).trans h1
  obtain ⟨-, cs, h3⟩ := row_blk ha b.1 h9.symm
  rw [h1] at h3
  injection h3 with h4
  injection h4 with h5 h6 h7
  exact hx b hb h6
theorem lit_own (u : World) (a b c : Value) : (u.alloc (.cells #[a, b, c] 25)).ownsRow u.heap.size 25 1 (.slice (some ⟨u.heap.size, 0, none⟩) 3 3) 3 [a, b, c] :=
  ⟨rfl, Or.inr ⟨u.heap.size, 3, #[a, b, c], rfl, Nat.le_refl _, heap_alloc_new u _, Nat.le_refl _, (by simp [maxLen]), rfl, rfl⟩⟩
def pk3 {α : Type} (a b c : α) : Nat → α
  | 0 => a
  | 1 => b
  | _ => c
theorem trees_start {u : World} {B G : Nat} {vx vy vz : Value} {ex ey ez : List Le} (h : LiveG flatL 38 6 u B [(vz, ez), (vy, ey), (vx, ex)]) (hb : u.heap[G]? = some (.cells #[vx, vy, vz] 22 (0, 0))) (hx : ex.length ≤ 1000000000) (hy : ey.length ≤ 1000000000) (hz : ez.length ≤ 1000000000) :
    TrA u B u.heap.size G 3 0 (pk3 vx vy vz) (fun _ => .slice none 0 0) (fun i => (pk3 ex ey ez i).length) (pk3 ex ey ez) (.slice none 0 0) := by
  have r0 := h.rows (vx, ex) (List.mem_cons_of_mem _ (List.mem_cons_of_mem _ List.mem_cons_self))
  have r1 := h.rows (vy, ey) (List.mem_cons_of_mem _ List.mem_cons_self)
  have r2 := h.rows (vz, ez) List.mem_cons_self
  have hf := h.far
  rw [List.pairwise_cons, List.pairwise_cons] at hf
  have fzy := hf.1 (vy, ey) List.mem_cons_self
  have fzx := hf.1 (vx, ex) (List.mem_cons_of_mem _ List.mem_cons_self)
  have fyx := hf.2.1 (vx, ex) List.mem_cons_self
  have row : ∀ j, j < 3 → u.ownsRow B 38 6 (pk3 vx vy vz j) (pk3 ex ey ez j).length (flatL (pk3 ex ey ez j)) := fun j hj => by
    match j, hj with
    | 0, _ => exact r0
    | 1, _ => exact r1
    | 2, _ => exact r2
  refine ⟨fun j hj => ?_, ⟨_, hb⟩, (Array.getElem?_eq_some_iff.1 hb).1, fun j hj => absurd hj (Nat.not_lt_zero _), fun j _ hj => row j hj, fun j l hj hl hne g h1 h2 => ?_, World.ownsRow_nil _ _ _ _, fun j hj => ?_, Nat.le_refl _, fun j hj => ?_⟩
  · match j, hj with
    | 0, _ => simp [World.cell?, hb, pk3]
    | 1, _ => simp [World.cell?, hb, pk3]
    | 2, _ => simp [World.cell?, hb, pk3]
  · rw [if_neg (Nat.not_lt_zero _)] at h1 h2
    match j, hj, l, hl with
    | 0, _, 0, _ => exact hne rfl
    | 0, _, 1, _ => exact fyx g h2 h1
    | 0, _, 2, _ => exact fzx g h2 h1
    | 1, _, 0, _ => exact fyx g h1 h2
    | 1, _, 1, _ => exact hne rfl
    | 1, _, 2, _ => exact fzy g h2 h1
    | 2, _, 0, _ => exact fzx g h1 h2
    | 2, _, 1, _ => exact fzy g h1 h2
    | 2, _, 2, _ => exact hne rfl
  · match j, hj with
    | 0, _ => exact hx
    | 1, _ => exact hy
    | 2, _ => exact hz
  · exact own_form38 (row j hj)
theorem OS.bxs {uB u : World} {RB : List (Value × List Int)} {RT : List (Value × List Le)} {BX BX' : List (Nat × Array Value × TypeId)} (h : OS uB u RB RT BX) (hs : ∀ b ∈ BX', b ∈ BX) : OS uB u RB RT BX' := ⟨h.bB, h.rb, h.rt, fun b hb => h.bx b (hs b hb)⟩
def offs (n0 n1 : Nat) : Nat → Nat
  | 0 => 3
  | 1 => 3 + n0
  | 2 => 3 + n0 + n1
  | _ => 3 + n0 + n1 + n0
theorem offs_at {A : List (Value × List Int)} {ex ey ez : List Le} {n0 n1 : Nat} (hA : A.length = 3) (hx : ex.length = n0) (hy : ey.length = n1) (hz : ez.length = n0) (i : Nat) (hi : i < 3) (k : Nat) (hk : k < (pk3 ex ey ez i).length) :
    (A ++ (dat ex ++ (dat ey ++ dat ez)))[offs n0 n1 i + k]? = some (((pk3 ex ey ez i)[k]).d, ((pk3 ex ey ez i)[k]).l.data) := by
  have lx : (dat ex).length = n0 := by rw [dat, List.length_map, hx]
  have ly : (dat ey).length = n1 := by rw [dat, List.length_map, hy]
  have gd : ∀ (es : List Le) (k : Nat) (hk : k < es.length), (dat es)[k]? = some (es[k].d, es[k].l.data) := fun es k hk => by rw [dat, List.getElem?_map, List.getElem?_eq_getElem hk]; rfl
  match i, hi with
  | 0, _ =>
    show (A ++ (dat ex ++ (dat ey ++ dat ez)))[3 + k]? = _
    rw [List.getElem?_append_right (by omega), hA, show 3 + k - 3 = k by omega, List.getElem?_append_left (by rw [lx, ← hx]; exact hk)]
    exact gd ex k hk
  | 1, _ =>
    show (A ++ (dat ex ++ (dat ey ++ dat ez)))[3 + n0 + k]? = _
    rw [List.getElem?_append_right (by omega), hA, List.getElem?_append_right (by omega), lx, show 3 + n0 + k - 3 - n0 = k by omega, List.getElem?_append_left (by rw [ly, ← hy]; exact hk)]
    exact gd ey k hk
  | 2, _ =>
    show (A ++ (dat ex ++ (dat ey ++ dat ez)))[3 + n0 + n1 + k]? = _
    rw [List.getElem?_append_right (by omega), hA, List.getElem?_append_right (by omega), lx, List.getElem?_append_right (by omega), ly, show 3 + n0 + n1 + k - 3 - n0 - n1 = k by omega]
    exact gd ez k hk
theorem offs_next {ex ey ez : List Le} {n0 n1 : Nat} (hx : ex.length = n0) (hy : ey.length = n1) (hz : ez.length = n0) (i : Nat) (hi : i < 3) : offs n0 n1 i + (pk3 ex ey ez i).length = offs n0 n1 (i + 1) := by
  match i, hi with
  | 0, _ => show 3 + ex.length = 3 + n0; omega
  | 1, _ => show 3 + n0 + ey.length = 3 + n0 + n1; omega
  | 2, _ => show 3 + n0 + n1 + ez.length = 3 + n0 + n1 + n0; omega
theorem offs_le (n0 n1 i : Nat) : offs n0 n1 i ≤ 3 + n0 + n1 + n0 := by
  unfold offs; split <;> omega
set_option maxHeartbeats 2000000 in
set_option maxRecDepth 100000 in
theorem lleaf_ne (p : ByteArray) (t m s s' : Int) (d d' : Value) (tg : ByteArray) (w : World) (hd : ∃ a n c, d = .slice a n c) (hd' : ∃ a n c, d' = .slice a n c) (hne : s ≠ s') :
    Calls Tryz.prog 25 #[.agg #[.string p, .int .i64 t, .int .i64 m, .int .u64 s, d, .string tg], .agg #[.string p, .int .i64 t, .int .i64 m, .int .u64 s', d', .string tg]] w fun e w' => e = .returned (.bool false) ∧ Below w.heap.size w w' := by
  obtain ⟨a, n, c, rfl⟩ := hd
  obtain ⟨a', n', c', rfl⟩ := hd'
  have b1 := below_alloc w (.cells #[.string p, .int .i64 t, .int .i64 m, .int .u64 s, .slice a n c, .string tg] 38)
  have b2 := below_alloc (w.alloc (.cells #[.string p, .int .i64 t, .int .i64 m, .int .u64 s, .slice a n c, .string tg] 38)) (.cells #[.string p, .int .i64 t, .int .i64 m, .int .u64 s', .slice a' n' c', .string tg] 38)
  have HB := hide (bel_join b1 b2)
  have hq : (s == s') = false := by rw [beq_eq_false_iff_ne]; exact hne
  clear b1 b2
  go_enter Tryz.func25, Tryz.ntmps25
  go_wp2
  go_ret
  exact ⟨rfl, HB.out⟩

set_option maxHeartbeats 4000000 in
set_option maxRecDepth 100000 in
theorem alike_ne (v1 v2 : Value) (x y : Le) (es fs : List Le) (w : World) (h1 : VwL w v1 (x :: es)) (h2 : VwL w v2 (y :: fs)) (hl : es.length = fs.length) (hp : x.l.path = y.l.path) (ht : x.l.ty = y.l.ty) (hm : x.l.mode = y.l.mode) (hg : x.l.target = y.l.target) (hs : x.l.stamp ≠ y.l.stamp) :
    Calls Tryz.prog 11 #[v1, v2] w fun e w' => e = .returned (.bool false) ∧ Below w.heap.size w w' := by
  obtain ⟨a1, c1, rfl, s1⟩ := h1.shape
  obtain ⟨a2, c2, rfl, s2⟩ := h2.shape
  obtain ⟨m, hm9⟩ : ∃ m, (x :: es).length = m := ⟨_, rfl⟩
  have hl2 : (y :: fs).length = m := by rw [← hm9, List.length_cons, List.length_cons, hl]
  rw [hm9, hl2]
  have hmn : m ≤ 9223372036854775807 := by rw [← hm9]; exact h1.most
  obtain ⟨g1, o1, e1, hg1, q1⟩ := s1 0 (by simp)
  obtain ⟨g2, o2, e2, hg2, q2⟩ := s2 0 (by simp)
  subst e1
  subst e2
  obtain ⟨da, dc, hd1, -⟩ := h1.data x List.mem_cons_self
  obtain ⟨da', dc', hd2, -⟩ := h2.data y List.mem_cons_self
  obtain ⟨⟨p, t, m9, s, xs, tg⟩, d⟩ := x
  obtain ⟨⟨p', t', m9', s', xs', tg'⟩, d'⟩ := y
  simp only at hp ht hm hg hs hd1 hd2
  subst hp ht hm hg hd1 hd2
  have HLE := hide (fun W => lleaf_ne p t m9 s s' (.slice da xs.length dc) (.slice da' xs'.length dc') tg W ⟨_, _, _, rfl⟩ ⟨_, _, _, rfl⟩ hs)
  obtain ⟨n1, hn1⟩ : ∃ n1, xs.length = n1 := ⟨_, rfl⟩
  obtain ⟨n2, hn2⟩ : ∃ n2, xs'.length = n2 := ⟨_, rfl⟩
  rw [hn1, hn2] at HLE
  have y0 : w.cell? ⟨g1, o1, none⟩ = some (.string p) := by simpa [Le.cells] using q1 0 (by omega)
  have y1 : w.cell? ⟨g1, o1 + 1, none⟩ = some (.int .i64 t) := by simpa [Le.cells] using q1 1 (by omega)
  have y2 : w.cell? ⟨g1, o1 + 2, none⟩ = some (.int .i64 m9) := by simpa [Le.cells] using q1 2 (by omega)
  have y3 : w.cell? ⟨g1, o1 + 3, none⟩ = some (.int .u64 s) := by simpa [Le.cells] using q1 3 (by omega)
  have y4 : w.cell? ⟨g1, o1 + 4, none⟩ = some (.slice da n1 dc) := by rw [← hn1]; simpa [Le.cells] using q1 4 (by omega)
  have y5 : w.cell? ⟨g1, o1 + 5, none⟩ = some (.string tg) := by simpa [Le.cells] using q1 5 (by omega)
  have x0 : w.cell? ⟨g2, o2, none⟩ = some (.string p) := by simpa [Le.cells] using q2 0 (by omega)
  have x1 : w.cell? ⟨g2, o2 + 1, none⟩ = some (.int .i64 t) := by simpa [Le.cells] using q2 1 (by omega)
  have x2 : w.cell? ⟨g2, o2 + 2, none⟩ = some (.int .i64 m9) := by simpa [Le.cells] using q2 2 (by omega)
  have x3 : w.cell? ⟨g2, o2 + 3, none⟩ = some (.int .u64 s') := by simpa [Le.cells] using q2 3 (by omega)
  have x4 : w.cell? ⟨g2, o2 + 4, none⟩ = some (.slice da' n2 dc') := by rw [← hn2]; simpa [Le.cells] using q2 4 (by omega)
  have x5 : w.cell? ⟨g2, o2 + 5, none⟩ = some (.string tg) := by simpa [Le.cells] using q2 5 (by omega)
  have hm0 : (0 : Int) < (m : Int) := by rw [← hm9]; simp
  have hmp : 0 < m := by omega
  clear q1 q2 s1 s2 h1 h2 hm9 hl2 hn1 hn2
  go_enter Tryz.func11, Tryz.ntmps11
  go_wp2_with fail
  go_loopw [5] (fun i wr => i = .int .i64 0 ∧ wr = w) (fun _ _ => 1)
  case atStart => exact ⟨rfl, rfl⟩
  case round =>
    obtain ⟨rfl, rfl⟩ := hrel
    go_wp2
    go_region_with (go_at_call 25; refine (HLE.out _).mono ?_; rintro e u ⟨rfl, hb⟩)
    all_goals go_wp2
    all_goals
      go_ret
      exact ⟨rfl, (by first | exact bel_up ((Below.refl _ _).drew) hb (Nat.le_refl _) | exact hb | exact bel_up (below_drewN (Below.refl _ _) _) hb (Nat.le_refl _))⟩
/-- The first leaf's stamp is one more. -/
def bump (es : List Le) : List Le := match es with
  | [] => []
  | x :: r => ⟨{ x.l with stamp := (x.l.stamp + 1) % 18446744073709551616 }, x.d⟩ :: r
theorem bump_pack {es : List Le} {row : List Int} (h : packM (es.map Le.l) = .ok row) : ∃ row', packM ((bump es).map Le.l) = .ok row' ∧ row'.length = row.length := by
  cases es with
  | nil => cases h
  | cons x r =>
    rw [List.map_cons, pack_iff] at h
    obtain ⟨h1, h2, h3, h4⟩ := h
    refine ⟨_, (pack_iff _ _ _).2 ⟨h1, h2, h3, rfl⟩, ?_⟩
    rw [h4, sealW_len, sealW_len, List.length_append, List.length_append]
    unfold headW
    simp only [List.length_append, numL_length]
theorem bump_ls {u : World} {B g n c : Nat} {x : Le} {r : List Le} (h : LsOn u B (.slice (some ⟨g, 0, none⟩) n c) (x :: r)) : LsOn (u.setCell ⟨g, 3, none⟩ (.int .u64 ((x.l.stamp + 1) % 18446744073709551616))) B (.slice (some ⟨g, 0, none⟩) n c) (bump (x :: r)) := by
  have hs := World.ownsRow.stored (g := g) (by have h9 := h.own; rcases h9.2 with ⟨hv, _⟩ | ⟨g', cap', cur, hv, _⟩; cases hv; cases hv; exact h9) 3 (.int .u64 ((x.l.stamp + 1) % 18446744073709551616))
  refine ⟨?_, fun y hy => ?_⟩
  · rcases h.own.2 with ⟨hv, _⟩ | ⟨g', cap', cur, hv, _⟩
    · cases hv
    · cases hv
      exact hs.1
  · have hd : DtOn u B y.d y.l.data := by
      rcases List.mem_cons.1 hy with rfl | hy
      · exact h.oks x List.mem_cons_self
      · exact h.oks y (List.mem_cons_of_mem _ hy)
    exact World.ownsRow.kept hd hs.2 (kinds_apart hd h.own (by decide))
theorem own25_shape {w : World} {B n : Nat} {v : Value} {xs : List Value} (h : w.ownsRow B 25 1 v n xs) (hn : 0 < n) : ∃ g cap, v = .slice (some ⟨g, 0, none⟩) n cap ∧ n ≤ cap ∧ cap ≤ maxLen ∧ B ≤ g ∧ g < w.heap.size := by
  rcases h.2 with ⟨hv, h0⟩ | ⟨g, cap, cur, hv, hB, hg, c1, c2, _⟩
  · omega
  · exact ⟨g, cap, hv, c1, c2, hB, (Array.getElem?_eq_some_iff.1 hg).1⟩
theorem perm3 (a b c : Value × List Int) (x y z : List (Value × List Int)) : ((z ++ (y ++ x)) ++ [c, b, a]).Perm ([a, b, c] ++ (x ++ (y ++ z))) := by
  refine List.perm_append_comm.trans (List.Perm.append (List.reverse_perm [a, b, c]) ?_)
  refine List.perm_append_comm.trans ?_
  rw [← List.append_assoc x y z]
  exact List.Perm.append List.perm_append_comm (List.Perm.refl _)
theorem bump_lok {es : List Le} (h : ∀ l ∈ es.map Le.l, Lok l) : ∀ l ∈ (bump es).map Le.l, Lok l := by
  cases es with
  | nil => exact h
  | cons x r =>
    intro l hl
    rw [bump, List.map_cons] at hl
    rcases List.mem_cons.1 hl with rfl | hl
    · have h9 := h x.l List.mem_cons_self
      exact ⟨Int.emod_nonneg _ (by decide), Int.emod_lt_of_pos _ (by decide), h9.byt⟩
    · exact h l (List.mem_cons_of_mem _ hl)
set_option maxHeartbeats 8000000 in
set_option maxRecDepth 100000 in
theorem own_ok (v0 v1 : Value) (es0 es1 : List Le) (row0 row1 : List Int) (w : World) (h0 : RdL w w.heap.size v0 es0) (h1 : RdL w w.heap.size v1 es1) (hT : Tab w) (hp0 : packM (es0.map Le.l) = .ok row0) (hp1 : packM (es1.map Le.l) = .ok row1) (hm0 : row0.length ≤ 4194300) (hm1 : row1.length ≤ 4194300) (hn0 : es0.length ≤ 200000) (hn1 : es1.length ≤ 200000) :
    Calls Tryz.prog 3 #[v0, v1] w fun e w' => e = .returned (.bool true) ∧ Below w.heap.size w w' := by
  obtain ⟨m0, hl0⟩ : ∃ m0, row0.length = m0 := ⟨_, rfl⟩
  obtain ⟨m1, hl1⟩ : ∃ m1, row1.length = m1 := ⟨_, rfl⟩
  have f0 := (pack_facts hp0 (by omega)).2.2
  have f1 := (pack_facts hp1 (by omega)).2.2
  have HLK0 := hide h0.lok
  have HLK1 := hide h1.lok
  have HB0Y := hide (pack_open _ _ hp0 h0.lok).1
  have HB1Y := hide (pack_open _ _ hp1 h1.lok).1
  have HT := hide hT
  have HP0 := hide hp0
  have HP1 := hide hp1
  have HL0 := hide hl0
  have HL1 := hide hl1
  have HR0 := hide h0
  have HR1 := hide h1
  have HN0 := hide hn0
  have HN1 := hide hn1
  rw [hl0] at hm0 f0
  rw [hl1] at hm1 f1
  obtain ⟨a0, c0, hv0, -⟩ := h0.shape
  obtain ⟨a1, c1, hv1, -⟩ := h1.shape
  obtain ⟨n0, hnn0⟩ : ∃ n0, es0.length = n0 := ⟨_, rfl⟩
  obtain ⟨n1, hnn1⟩ : ∃ n1, es1.length = n1 := ⟨_, rfl⟩
  have HV0 := hide hv0
  have HV1 := hide hv1
  have HNN0 := hide hnn0
  have HNN1 := hide hnn1
  rw [hnn0] at hv0
  rw [hnn1] at hv1
  subst hv0
  subst hv1
  have K0 : Hid True := trivial
  clear h0 h1 hT hp0 hp1 hl0 hl1 hn0 hn1 hnn0 hnn1
  go_enter Tryz.func3, Tryz.ntmps3
  go_wp2_with (first
    | (go_at_call 8; refine (lno_any _ _).mono ?_; rintro e z9 ⟨rfl, hz9⟩; rw [hz9]; clear hz9)
    | (go_at_call 5; have zz := K0; clear K0 zz; refine (heads_any _ HT.out).mono ?_; rintro e u0 ⟨rfl, hb0⟩; have HB0 := hide hb0; have HUW := hide hb0.size; clear hb0; have K1 : Hid True := trivial)
    | (go_at_call 6; have zz := K1; clear K1 zz; refine (copied_any _ es0 _ (HR0.out.up HB0.out) (by have := HN0.out; omega)).mono ?_; rintro e u1 ⟨vt, ft, rfl, hft, hlt, hb1⟩
       have HFT := hide hft
       have HLT := hide hlt
       have HBT := hide hb1
       clear hft hlt hb1
       have K2 : Hid True := trivial)
    | (go_at_call 6; have zz := K2; clear K2 zz; refine (copied_any _ es1 _ (HR1.out.up (bel_up HB0.out HBT.out HB0.out.size)) (by have := HN1.out; omega)).mono ?_; rintro e u2 ⟨vu, fu, rfl, hfu, hlu, hb2⟩
       have HFU := hide hfu
       have HLU := hide hlu
       have HLT2 := hide (HLT.out.below hb2)
       have HBW := hide (bel_up (bel_up HB0.out HBT.out HB0.out.size) hb2 (bel_up HB0.out HBT.out HB0.out.size).size)
       have HTB := hide (HT.out.below HBW.out)
       have HS2 := hide (OS.start u2)
       clear hfu hlu hb2 HLT HBT HB0
       have K3 : Hid True := trivial)
    | (go_at_call 7; have zz := K3; clear K3 zz; refine (own_pack _ _ vt ft _ row0 HLT2.out HFT.out HLK0.out HP0.out (by rw [HL0.out]; omega) HTB.out).mono ?_; rintro e u3 ⟨g1, d1, rfl, ho, hb⟩
       rw [HL0.out] at ho ⊢
       have HS3 := hide (HS2.out.row hb HL0.out ho)
       clear ho hb HS2
       have K4 : Hid True := trivial)
    | (go_at_call 7; have zz := K4; clear K4 zz; refine (own_pack _ _ vu fu _ row1 (HLU.out.below HS3.out.bB) HFU.out HLK1.out HP1.out (by rw [HL1.out]; omega) (HTB.out.below HS3.out.bB)).mono ?_; rintro e u4 ⟨g2, d2, rfl, ho, hb⟩
       rw [HL1.out] at ho ⊢
       have HS4 := hide (HS3.out.row hb HL1.out ho)
       clear ho hb HS3
       have K5 : Hid True := trivial)
    | (go_at_call 7; have zz := K5; clear K5 zz; refine (own_pack _ _ vt ft _ row0 (HLT2.out.below HS4.out.bB) HFT.out HLK0.out HP0.out (by rw [HL0.out]; omega) (HTB.out.below HS4.out.bB)).mono ?_; rintro e u5 ⟨g3, d3, rfl, ho, hb⟩
       rw [HL0.out] at ho ⊢
       have HS5 := hide (HS4.out.row hb HL0.out ho)
       clear ho hb HS4
       have K6 : Hid True := trivial)
    | (go_at_call 9; have zz := K6; clear K6 zz; refine (same_eq _ _ m0 _ _ row0 _ (own_all_reads (HS5.out.own (List.mem_cons_of_mem _ (List.mem_cons_of_mem _ List.mem_cons_self)) HL0.out) HB0Y.out) (own_all_reads (HS5.out.own List.mem_cons_self HL0.out) HB0Y.out)).mono ?_; rintro e z9 ⟨rfl, hz9⟩; rw [hz9]; clear hz9
       have K7 : Hid True := trivial)
    | (at_builtin; have zz := K7; clear K7 zz; refine wpList_append_reads rfl (.tmp 74) (.tmp 75) rfl u5.heap.size (.slice (some ⟨u5.heap.size, 0, none⟩) 0 0) 0 [] rfl (own_nought u5 u5.heap.size rfl) (some ⟨g1, 0, none⟩) m0 d1 row0 rfl ((own_all_reads (HS5.out.own (List.mem_cons_of_mem _ (List.mem_cons_of_mem _ List.mem_cons_self)) HL0.out) HB0Y.out).below (below_alloc _ _)) (by omega) (by simp) ?_; intro x1 t1 own1 grow1; simp only [Nat.zero_add, List.nil_append] at own1; obtain ⟨b0, e0, rfl, -, -, -, -⟩ := own_shape own1 (by omega)
       have HS6 := hide (HS5.out.row ((below_alloc u5 _).grown grow1 (by simp) (fun q hq => ((own_nought u5 u5.heap.size rfl).lt q hq).1)) HL0.out own1)
       clear own1 grow1 HS5
       have K8 : Hid True := trivial)
    | (at_builtin; have zz := K8; clear K8 zz; refine wpList_append_reads rfl (.tmp 77) (.tmp 78) rfl t1.heap.size (.slice (some ⟨t1.heap.size, 0, none⟩) 0 0) 0 [] rfl (own_nought t1 t1.heap.size rfl) (some ⟨g2, 0, none⟩) m1 d2 row1 rfl ((own_all_reads (HS6.out.own (List.mem_cons_of_mem _ (List.mem_cons_of_mem _ List.mem_cons_self)) HL1.out) HB1Y.out).below (below_alloc _ _)) (by omega) (by simp) ?_; intro x2 t2 own2 grow2; simp only [Nat.zero_add, List.nil_append] at own2; obtain ⟨b1, e1, rfl, -, -, -, -⟩ := own_shape own2 (by omega)
       have HS7 := hide (HS6.out.row ((below_alloc t1 _).grown grow2 (by simp) (fun q hq => ((own_nought t1 t1.heap.size rfl).lt q hq).1)) HL1.out own2)
       have HS8 := hide (HS7.out.box #[(.slice (some ⟨b0, 0, none⟩) m0 e0), (.slice (some ⟨b1, 0, none⟩) m1 e1)] 25 (by decide))
       clear own2 grow2 HS6 HS7
       have K9 : Hid True := trivial)
    | (go_at_call 10; have zz := K9; clear K9 zz; refine (own_read _ _ b0 m0 e0 row0 _ (HS8.out.own (List.mem_cons_of_mem _ List.mem_cons_self) HL0.out) HLK0.out HP0.out HL0.out (by omega) f0 (HTB.out.below HS8.out.bB)).mono ?_; rintro e u6 ⟨vx, ex, rfl, hex, hlx, hfx, hb⟩
       have HEX := hide hex
       have HS9 := hide (HS8.out.tree hb hlx hfx)
       obtain ⟨yR0, yR1⟩ := two_cells (HS9.out.bx _ List.mem_cons_self).1
       clear hex hlx hfx hb HS8
       have K10 : Hid True := trivial)
    | (go_at_call 10; have zz := K10; clear K10 zz; refine (own_read _ _ b1 m1 e1 row1 _ (HS9.out.own (List.mem_append_right _ List.mem_cons_self) HL1.out) HLK1.out HP1.out HL1.out (by omega) f1 (HTB.out.below HS9.out.bB)).mono ?_; rintro e u7 ⟨vy, ey, rfl, hey, hly, hfy, hb⟩
       have HEY := hide hey
       have HS10 := hide (HS9.out.tree hb hly hfy)
       clear yR0 yR1
       obtain ⟨yR0, yR1⟩ := two_cells (HS10.out.bx _ List.mem_cons_self).1
       clear hey hly hfy hb HS9
       have K11 : Hid True := trivial)
    | (go_at_call 10; have zz := K11; clear K11 zz; refine (own_read _ _ b0 m0 e0 row0 _ (HS10.out.own (List.mem_append_right _ (List.mem_append_right _ (List.mem_cons_of_mem _ List.mem_cons_self))) HL0.out) HLK0.out HP0.out HL0.out (by omega) f0 (HTB.out.below HS10.out.bB)).mono ?_; rintro e u8 ⟨vz, ez, rfl, hez, hlz, hfz, hb⟩
       have HEZ := hide hez
       have HS11 := hide (HS10.out.tree hb hlz hfz)
       clear yR0 yR1
       obtain ⟨yR0, yR1⟩ := two_cells (HS11.out.bx _ List.mem_cons_self).1
       clear hez hlz hfz hb HS10
       have K12 : Hid True := trivial))
  obtain ⟨D3, hD3⟩ : ∃ D3, dat ez ++ (dat ey ++ dat ex) = D3 := ⟨_, rfl⟩
  obtain ⟨R9, hR9⟩ : ∃ R9, t2.heap.size = R9 := ⟨_, rfl⟩
  have hS := HS11.out
  have eL : dat ez ++ (dat ey ++ (dat ex ++ [((.slice (some ⟨b1, 0, none⟩) m1 e1), row1), ((.slice (some ⟨b0, 0, none⟩) m0 e0), row0), (.slice (some ⟨g3, 0, none⟩) m0 d3, row0), (.slice (some ⟨g2, 0, none⟩) m1 d2, row1), (.slice (some ⟨g1, 0, none⟩) m0 d1, row0)])) = (D3 ++ [((.slice (some ⟨b1, 0, none⟩) m1 e1), row1)]) ++ ((.slice (some ⟨b0, 0, none⟩) m0 e0), row0) :: [(.slice (some ⟨g3, 0, none⟩) m0 d3, row0), (.slice (some ⟨g2, 0, none⟩) m1 d2, row1), (.slice (some ⟨g1, 0, none⟩) m0 d1, row0)] := by
    rw [← hD3]
    simp only [List.append_assoc, List.cons_append, List.nil_append]
  rw [eL] at hS
  rw [hR9] at hS yR0 yR1 ⊢
  have hSd := hS.drew
  obtain ⟨W9, hcp, hown9, hg9⟩ := run_copy_min 3 _ b0 m0 e0 m1 e1 row0 row1 ⟨b1, 0, none⟩ (hSd.own (List.mem_append_right _ List.mem_cons_self) HL0.out) (own_all_reads (hSd.own (List.mem_append_left _ (List.mem_append_right _ List.mem_cons_self)) HL1.out) HB1Y.out)
  have hlen9 : (row1.take (min m1 m0) ++ row0.drop (min m1 m0)).length = m0 := hown9.len
  have HS12 := hide (hSd.set _ _ hg9 hlen9 hown9)
  obtain ⟨zR0, zR1⟩ := two_cells (HS12.out.bx _ List.mem_cons_self).1
  have HLEN9 := hide hlen9
  clear hS hSd eL hown9 hg9 HS11 hlen9
  go_region
  obtain ⟨row9, hrow9⟩ : ∃ row9, row1.take (min m1 m0) ++ row0.drop (min m1 m0) = row9 := ⟨_, rfl⟩
  obtain ⟨RS, hRS⟩ : ∃ RS : List (Value × List Int), [(.slice (some ⟨g3, 0, none⟩) m0 d3, row0), (.slice (some ⟨g2, 0, none⟩) m1 d2, row1), (.slice (some ⟨g1, 0, none⟩) m0 d1, row0)] = RS := ⟨_, rfl⟩
  have h12 := HS12.out
  rw [List.append_assoc, List.cons_append, List.nil_append, hRS, hrow9] at h12
  have H12 := hide h12
  have HRW9 := hide hrow9
  have HRS := hide hRS
  have HD3 := hide hD3
  rw [hrow9] at HLEN9
  clear h12 HS12 hrow9 hRS hD3 yR0 yR1 zR0 zR1 hcp
  go_wp2
  go_loopw [17] (fun s17 wr => ∃ (k : Nat) (cur : List Int), k ≤ m1 ∧ s17 = .int .i64 (k : Int) ∧ Hid (cur.length = m1 ∧ OS u2 wr (D3 ++ ((.slice (some ⟨b1, 0, none⟩) m1 e1), cur) :: ((.slice (some ⟨b0, 0, none⟩) m0 e0), row9) :: RS) [(vz, ez), (vy, ey), (vx, ex)] [(R9, #[(.slice (some ⟨b0, 0, none⟩) m0 e0), (.slice (some ⟨b1, 0, none⟩) m1 e1)], 25)])) (fun s17 _ => m1 - (intOf s17).toNat)
  case atStart => exact ⟨0, row1, Nat.zero_le _, rfl, ⟨HL1.out, H12.out⟩⟩
  case round =>
    obtain ⟨k, cur, hk, rfl, HREL⟩ := hrel
    have HCL := hide HREL.out.1
    have HSR := hide HREL.out.2
    clear HREL H12
    obtain ⟨zR0, zR1⟩ := two_cells (HSR.out.bx _ List.mem_cons_self).1
    by_cases hlt : k < m1
    · have k1 : (k : Int) < (m1 : Int) := by omega
      have hown := HSR.out.own (g := b1) (n := m1) (cap := e1) (xs := cur) (List.mem_append_right _ List.mem_cons_self) HCL.out
      obtain ⟨z, hz⟩ : ∃ z, cur.getD k 0 = z := ⟨_, rfl⟩
      have hcz := hown.cell k hlt
      rw [hz] at hcz
      have hfz := World.ownsRow.frozenAt hown k
      have hset := hown.set k (bits .xor .u8 z 255)
      have HN : Hid (OS u2 ((wr.setCell ⟨b1, k, none⟩ (.int .u8 (bits .xor .u8 z 255))).drew) (D3 ++ ((.slice (some ⟨b1, 0, none⟩) m1 e1), cur.set k (bits .xor .u8 z 255)) :: ((.slice (some ⟨b0, 0, none⟩) m0 e0), row9) :: RS) [(vz, ez), (vy, ey), (vx, ex)] [(R9, #[(.slice (some ⟨b0, 0, none⟩) m0 e0), (.slice (some ⟨b1, 0, none⟩) m1 e1)], 25)]) := (HSR.out.set D3 _ hset.2 (by rw [List.length_set]; exact HCL.out) hset.1).drew
      clear hown hset hz
      go_wp2
      go_region
      go_wp2
      go_roundw
      case rel => exact ⟨k + 1, _, by omega, by go_num, ⟨by rw [List.length_set]; exact HCL.out, HN.out⟩⟩
      case measure => simp [intOf]; omega
    · obtain rfl : k = m1 := by omega
      have k1 : ¬ (k : Int) < (k : Int) := by omega
      obtain ⟨m1, hm9⟩ : ∃ m1, m1 = k := ⟨_, rfl⟩
      subst hm9
      have S0 := hide HSR.out
      have HDX : Hid (∀ p ∈ dat ex, p ∈ D3 ++ ((.slice (some ⟨b1, 0, none⟩) m1 e1), cur) :: ((.slice (some ⟨b0, 0, none⟩) m0 e0), row9) :: RS) := fun p hp => List.mem_append_left _ (by rw [← HD3.out]; exact List.mem_append_right _ (List.mem_append_right _ hp))
      have HDY : Hid (∀ p ∈ dat ey, p ∈ D3 ++ ((.slice (some ⟨b1, 0, none⟩) m1 e1), cur) :: ((.slice (some ⟨b0, 0, none⟩) m0 e0), row9) :: RS) := fun p hp => List.mem_append_left _ (by rw [← HD3.out]; exact List.mem_append_right _ (List.mem_append_left _ hp))
      have HDZ : Hid (∀ p ∈ dat ez, p ∈ D3 ++ ((.slice (some ⟨b1, 0, none⟩) m1 e1), cur) :: ((.slice (some ⟨b0, 0, none⟩) m0 e0), row9) :: RS) := fun p hp => List.mem_append_left _ (by rw [← HD3.out]; exact List.mem_append_left _ hp)
      clear HSR
      have lx : ex.length = n0 := by rw [← HNN0.out]; simpa using congrArg List.length HEX.out
      have ly : ey.length = n1 := by rw [← HNN1.out]; simpa using congrArg List.length HEY.out
      have lz : ez.length = n0 := by rw [← HNN0.out]; simpa using congrArg List.length HEZ.out
      obtain ⟨xa, xc, hvx⟩ := own_form38 (S0.out.rt.rows (vx, ex) (List.mem_cons_of_mem _ (List.mem_cons_of_mem _ List.mem_cons_self)))
      obtain ⟨ya, yc, hvy⟩ := own_form38 (S0.out.rt.rows (vy, ey) (List.mem_cons_of_mem _ List.mem_cons_self))
      obtain ⟨za, zc, hvz⟩ := own_form38 (S0.out.rt.rows (vz, ez) List.mem_cons_self)
      simp only at hvx hvy hvz
      rw [lx] at hvx
      rw [ly] at hvy
      rw [lz] at hvz
      subst hvx
      subst hvy
      subst hvz
      have HLX := hide lx
      have HLY := hide ly
      have HLZ := hide lz
      clear lx ly lz
      by_cases hmm : m0 = m1
      · have HR9R : Hid (∀ U, OS u2 U (D3 ++ ((.slice (some ⟨b1, 0, none⟩) m1 e1), cur) :: ((.slice (some ⟨b0, 0, none⟩) m0 e0), row9) :: RS) [((.slice za n0 zc : Value), ez), (.slice ya n1 yc, ey), (.slice xa n0 xc, ex)] [(R9, #[(.slice (some ⟨b0, 0, none⟩) m0 e0), (.slice (some ⟨b1, 0, none⟩) m1 e1)], 25)] → Own U u2.heap.size b0 m0 e0 row1) := by
          intro U hU
          have h9 := hU.own (g := b0) (n := m0) (cap := e0) (xs := row9) (List.mem_append_right _ (List.mem_cons_of_mem _ List.mem_cons_self)) HLEN9.out
          have h8 := HRW9.out
          rw [← hmm, Nat.min_self, List.take_of_length_le (by rw [HL1.out, hmm]; exact Nat.le_refl _), List.drop_of_length_le (by rw [HL0.out]; exact Nat.le_refl _), List.append_nil] at h8
          rw [h8]
          exact h9
        have HMX : Hid (((.slice xa n0 xc : Value), ex) ∈ [((.slice za n0 zc : Value), ez), (.slice ya n1 yc, ey), (.slice xa n0 xc, ex)]) := List.mem_cons_of_mem _ (List.mem_cons_of_mem _ List.mem_cons_self)
        have HMY : Hid (((.slice ya n1 yc : Value), ey) ∈ [((.slice za n0 zc : Value), ez), (.slice ya n1 yc, ey), (.slice xa n0 xc, ex)]) := List.mem_cons_of_mem _ List.mem_cons_self
        have HMZ : Hid (((.slice za n0 zc : Value), ez) ∈ [((.slice za n0 zc : Value), ez), (.slice ya n1 yc, ey), (.slice xa n0 xc, ex)]) := List.mem_cons_self
        have A0 : Hid True := trivial
        subst hmm
        go_wp2_with (first
          | (go_at_call 8; refine (lno_any _ _).mono ?_; rintro e z9 ⟨rfl, hz9⟩; rw [hz9]; clear hz9)
          | (go_at_call 11; have zz := A0; clear A0 zz; refine (alike_vw _ _ ex es0 _ (S0.out.vw HMX.out HDX.out HEX.out HLK0.out) ((HR0.out.up (bel_up HBW.out S0.out.bB HBW.out.size)).vw (Nat.le_refl _)) HEX.out).mono ?_; rintro e z9 ⟨rfl, hb⟩
             have S1 := hide (S0.out.up hb)
             clear hb S0
             have A1 : Hid True := trivial)
          | (go_at_call 11; have zz := A1; clear A1 zz; refine (alike_vw _ _ ey es1 _ (S1.out.vw HMY.out HDY.out HEY.out HLK1.out) ((HR1.out.up (bel_up HBW.out S1.out.bB HBW.out.size)).vw (Nat.le_refl _)) HEY.out).mono ?_; rintro e z9 ⟨rfl, hb⟩
             have S2 := hide (S1.out.up hb)
             clear hb S1
             have A2 : Hid True := trivial)
          | (go_at_call 11; have zz := A2; clear A2 zz; refine (alike_vw _ _ ez es0 _ (S2.out.vw HMZ.out HDZ.out HEZ.out HLK0.out) ((HR0.out.up (bel_up HBW.out S2.out.bB HBW.out.size)).vw (Nat.le_refl _)) HEZ.out).mono ?_; rintro e z9 ⟨rfl, hb⟩
             have S3 := hide (S2.out.up hb)
             clear hb S2
             have A3 : Hid True := trivial)
          | (go_at_call 11; have zz := A3; clear A3 zz; refine (alike_vw _ _ ft es0 _ (ls_vw HLT2.out S3.out.bB HFT.out HLK0.out) ((HR0.out.up (bel_up HBW.out S3.out.bB HBW.out.size)).vw (Nat.le_refl _)) HFT.out).mono ?_; rintro e z9 ⟨rfl, hb⟩
             have S4 := hide (S3.out.up hb)
             clear hb S3
             have A4 : Hid True := trivial)
          | (go_at_call 11; have zz := A4; clear A4 zz; refine (alike_vw _ _ fu es1 _ (ls_vw HLU.out S4.out.bB HFU.out HLK1.out) ((HR1.out.up (bel_up HBW.out S4.out.bB HBW.out.size)).vw (Nat.le_refl _)) HFU.out).mono ?_; rintro e z9 ⟨rfl, hb⟩
             have S5 := hide (S4.out.up hb)
             clear hb S4 zR0 zR1
             obtain ⟨zR0, zR1⟩ := two_cells (S5.out.bx _ List.mem_cons_self).1
             have A5 : Hid True := trivial)
          | (go_at_call 10; have zz := A5; clear A5 zz; refine (own_read _ _ b0 m0 e0 row1 _ (HR9R.out _ S5.out) HLK1.out HP1.out HL1.out (by omega) f1 (HTB.out.below S5.out.bB)).mono ?_; rintro e u11 ⟨vw, ew, rfl, hew, hlw, hfw, hb⟩
             have HEW := hide hew
             have HVW := hide (hlw.vw (fun x hx => (loks hew HLK1.out x hx).byt))
             have S6 := hide (S5.out.up hb)
             clear hew hlw hfw hb S5
             have A6 : Hid True := trivial)
          | (go_at_call 11; have zz := A6; clear A6 zz; refine (alike_vw _ _ ew es1 _ HVW.out ((HR1.out.up (bel_up HBW.out S6.out.bB HBW.out.size)).vw (Nat.le_refl _)) HEW.out).mono ?_; rintro e z9 ⟨rfl, hb⟩
             have S7 := hide (S6.out.up hb)
             clear hb S6 HVW HEW
             have A7 : Hid True := trivial))
        obtain ⟨z0, hz0⟩ : ∃ z0, z9 = z0 := ⟨_, rfl⟩
        subst hz0
        obtain ⟨T9, hT9⟩ : ∃ T9, z9.heap.size + 1 = T9 := ⟨_, rfl⟩
        obtain ⟨P, hP⟩ : ∃ P : List (Value × List Int), [(((.slice (some ⟨g1, 0, none⟩) m0 d1) : Value), row0), ((.slice (some ⟨g2, 0, none⟩) m0 d2), row1), ((.slice (some ⟨g3, 0, none⟩) m0 d3), row0)] ++ (dat ex ++ (dat ey ++ dat ez)) = P := ⟨_, rfl⟩
        have hW := (((S7.out.box #[(.slice (some ⟨g1, 0, none⟩) m0 d1), (.slice (some ⟨g2, 0, none⟩) m0 d2), (.slice (some ⟨g3, 0, none⟩) m0 d3)] 25 (by decide)).box #[(.slice xa n0 xc), (.slice ya n1 yc), (.slice za n0 zc)] 22 (by decide)).bxs (BX' := [((z9.alloc (.cells #[(.slice (some ⟨g1, 0, none⟩) m0 d1), (.slice (some ⟨g2, 0, none⟩) m0 d2), (.slice (some ⟨g3, 0, none⟩) m0 d3)] 25)).heap.size, #[(.slice xa n0 xc), (.slice ya n1 yc), (.slice za n0 zc)], 22)]) (fun b hb => by rw [List.mem_singleton.1 hb]; exact List.mem_cons_self))
        rw [show (z9.alloc (.cells #[(.slice (some ⟨g1, 0, none⟩) m0 d1), (.slice (some ⟨g2, 0, none⟩) m0 d2), (.slice (some ⟨g3, 0, none⟩) m0 d3)] 25)).heap.size = T9 by rw [← hT9]; simp] at hW
        have hA := (lit_own z9 (.slice (some ⟨g1, 0, none⟩) m0 d1) (.slice (some ⟨g2, 0, none⟩) m0 d2) (.slice (some ⟨g3, 0, none⟩) m0 d3)).alloc (.cells #[(.slice xa n0 xc), (.slice ya n1 yc), (.slice za n0 zc)] 22)
        have HPT : Hid ((P.take 3).map (·.1) = [(.slice (some ⟨g1, 0, none⟩) m0 d1), (.slice (some ⟨g2, 0, none⟩) m0 d2), (.slice (some ⟨g3, 0, none⟩) m0 d3)]) := by unfold Hid; rw [← hP]; rfl
        have HW := hide hW
        have HAL := hide hA
        have HPP := hide hP
        have hU2 : u2.heap.size ≤ z9.heap.size := S7.out.bB.size
        have hnb0 : n0 ≤ 200000 := by rw [← HNN0.out]; exact HN0.out
        have hnb1 : n1 ≤ 200000 := by rw [← HNN1.out]; exact HN1.out
        obtain ⟨j5, hj0, hjz0, hjz1, hjz2⟩ := info_parts info25
        have HJ : Hid (Tryz.prog.info? 25 = some j5 ∧ j5.zero = some (.slice none 0 0) ∧ j5.size = 1 ∧ j5.bytes = 24) := ⟨hj0, hjz0, hjz1, hjz2⟩
        rw [hT9]
        clear hW hA hP hj0 hjz0 hjz1 hjz2 zR0 zR1 S7
        go_loopw [20, 22] (fun s20 s22 wr => ∃ i : Nat, i ≤ 3 ∧ s22 = .int .i64 (i : Int) ∧ Hid (wr.ownsRow z9.heap.size 25 1 s20 (offs n0 n1 i) ((P.take (offs n0 n1 i)).map (·.1)) ∧ OS u2 wr (D3 ++ ((.slice (some ⟨b1, 0, none⟩) m0 e1), cur) :: ((.slice (some ⟨b0, 0, none⟩) m0 e0), row9) :: RS) [(((.slice za n0 zc) : Value), ez), ((.slice ya n1 yc), ey), ((.slice xa n0 xc), ex)] [(T9, #[(.slice xa n0 xc), (.slice ya n1 yc), (.slice za n0 zc)], 22)] ∧ z9.heap.size ≤ wr.heap.size)) (fun _ s22 _ => 3 - (intOf s22).toNat)
        case atStart => exact ⟨0, Nat.zero_le _, rfl, ⟨(by show World.ownsRow _ _ _ _ _ 3 ((P.take 3).map (·.1)); rw [HPT.out]; exact HAL.out), HW.out, (by simp; omega)⟩⟩
        case round =>
          obtain ⟨i, hi, rfl, HREL⟩ := hrel
          clear HW HAL
          by_cases hi3 : i < 3
          · have i1 : (i : Int) < 3 := by omega
            obtain ⟨E, hE⟩ : ∃ E, pk3 ex ey ez i = E := ⟨_, rfl⟩
            obtain ⟨V, hV⟩ : ∃ V, pk3 ((.slice xa n0 xc) : Value) (.slice ya n1 yc) (.slice za n0 zc) i = V := ⟨_, rfl⟩
            have hmem : (V, E) ∈ [(((.slice za n0 zc) : Value), ez), ((.slice ya n1 yc), ey), ((.slice xa n0 xc), ex)] := by
              rw [← hE, ← hV]
              match i, hi3 with
              | 0, _ => exact List.mem_cons_of_mem _ (List.mem_cons_of_mem _ List.mem_cons_self)
              | 1, _ => exact List.mem_cons_of_mem _ List.mem_cons_self
              | 2, _ => exact List.mem_cons_self
            have hsub : ∀ q ∈ dat E, q ∈ (D3 ++ ((.slice (some ⟨b1, 0, none⟩) m0 e1), cur) :: ((.slice (some ⟨b0, 0, none⟩) m0 e0), row9) :: RS) := by
              rw [← hE]
              match i, hi3 with
              | 0, _ => exact HDX.out
              | 1, _ => exact HDY.out
              | 2, _ => exact HDZ.out
            have HAT : Hid (∀ k, (hk : k < E.length) → P[offs n0 n1 i + k]? = some (E[k].d, E[k].l.data)) := by
              intro k hk
              rw [← HPP.out]
              subst hE
              exact offs_at rfl HLX.out HLY.out HLZ.out i hi3 k hk
            have HNX : Hid (offs n0 n1 i + E.length = offs n0 n1 (i + 1)) := by unfold Hid; rw [← hE]; exact offs_next HLX.out HLY.out HLZ.out i hi3
            have hol := offs_le n0 n1 (i + 1)
            have HMEM := hide hmem
            have HSUB := hide hsub
            obtain ⟨ia, ic, hVs⟩ := own_form38 (HREL.out.2.1.rt.rows (V, E) hmem)
            simp only at hVs
            obtain ⟨ne, hne⟩ : ∃ ne, E.length = ne := ⟨_, rfl⟩
            rw [hne] at hVs HNX
            have HNE := hide hne
            have hne9 : ne ≤ 4000000 := by have := HNX.out; omega
            have HCT : Hid (∀ W, OS u2 W (D3 ++ ((.slice (some ⟨b1, 0, none⟩) m0 e1), cur) :: ((.slice (some ⟨b0, 0, none⟩) m0 e0), row9) :: RS) [(((.slice za n0 zc) : Value), ez), ((.slice ya n1 yc), ey), ((.slice xa n0 xc), ex)] [(T9, #[(.slice xa n0 xc), (.slice ya n1 yc), (.slice za n0 zc)], 22)] → W.cell? ⟨T9, i, none⟩ = some (.slice ia ne ic)) := by
              intro W hW
              have h9 := (hW.bx _ List.mem_cons_self).1
              rw [← hVs, ← hV]
              match i, hi3 with
              | 0, _ => simp [World.cell?, h9, pk3]
              | 1, _ => simp [World.cell?, h9, pk3]
              | 2, _ => simp [World.cell?, h9, pk3]
            have HVS := hide hVs
            clear hE hV hmem hsub hVs hne
            go_wp2
            go_loopw [20, 23] (fun s20 s23 wq => ∃ k : Nat, k ≤ ne ∧ s23 = .int .i64 (k : Int) ∧ Hid (wq.ownsRow z9.heap.size 25 1 s20 (offs n0 n1 i + k) ((P.take (offs n0 n1 i + k)).map (·.1)) ∧ OS u2 wq (D3 ++ ((.slice (some ⟨b1, 0, none⟩) m0 e1), cur) :: ((.slice (some ⟨b0, 0, none⟩) m0 e0), row9) :: RS) [(((.slice za n0 zc) : Value), ez), ((.slice ya n1 yc), ey), ((.slice xa n0 xc), ex)] [(T9, #[(.slice xa n0 xc), (.slice ya n1 yc), (.slice za n0 zc)], 22)] ∧ z9.heap.size ≤ wq.heap.size)) (fun _ s23 _ => ne - (intOf s23).toNat)
            case atStart => exact ⟨0, Nat.zero_le _, rfl, HREL⟩
            case round =>
              obtain ⟨k, hk, rfl, HQ⟩ := hrel
              clear HREL
              have hct := HCT.out _ HQ.out.2.1
              by_cases hlt3 : k < ne
              · have k1 : (k : Int) < (ne : Int) := by omega
                have hrow := HQ.out.2.1.rt.rows (V, E) HMEM.out
                simp only at hrow
                rw [HVS.out, HNE.out] at hrow
                obtain ⟨gb, gcap, hsh, -, -, -, -⟩ := own_shape38 hrow (by omega)
                cases hsh
                have hkE : k < E.length := by rw [HNE.out]; exact hlt3
                obtain ⟨x, hx⟩ : ∃ x, E[k] = x := ⟨_, rfl⟩
                have hxc : wr.cell? ⟨gb, k * 6 + 4, none⟩ = some x.d := by
                  rw [World.ownsRow.cellAt hrow (k * 6 + 4) (by omega), lflat_cell E k 4 hkE (by omega), hx]
                  rfl
                have hdt := HQ.out.2.1.rb.rows (x.d, x.l.data) (HSUB.out _ (by rw [← hx]; exact List.mem_map_of_mem (List.getElem_mem hkE)))
                simp only at hdt
                have hpa := HAT.out k hkE
                rw [hx] at hpa
                obtain ⟨da, dc, hxd⟩ := dt_form hdt
                obtain ⟨dn, hdn⟩ : ∃ dn, x.l.data.length = dn := ⟨_, rfl⟩
                rw [hdn] at hxd
                rw [hxd] at hxc hpa
                have HPA := hide hpa
                clear hrow hdt hpa hxd hdn hx
                go_wp2_with (first
                  | (at_builtin; refine wpList_append_own (wr.alloc (.cells #[.slice da dn dc] 25)) rfl (.tmp 214) (.tmp 223) 31 rfl z9.heap.size 25 j5 _ 1 24 Tryz.underlying31 HJ.out.1 HJ.out.2.1 HJ.out.2.2.1 HJ.out.2.2.2 rfl (by decide) u20 (offs n0 n1 i + k) ((P.take (offs n0 n1 i + k)).map (·.1)) rfl (HQ.out.1.alloc _) ⟨wr.heap.size, 0, none⟩ 1 1 [.slice da dn dc] rfl rfl (cells_news (heap_alloc_new wr _)) (by simp [Value.oneCell']) (by have := HNX.out; simp only [maxLen]; omega) (by have := HNX.out; omega) (by have := HQ.out.2.2; simp; omega) ?_; intro v8 t8 own8 grow8 _h8
                     have HO8 := hide own8
                     have HS8 := hide ((HQ.out.2.1.up (below_alloc wr (.cells #[.slice da dn dc] 25))).other (HQ.out.1.alloc _) hU2 grow8 (fun b hb => by rw [List.mem_singleton.1 hb]; show (22 : Nat) ≠ 25; decide))
                     have HZ8 : Hid (z9.heap.size ≤ t8.heap.size) := by have h7 := HQ.out.2.2; have h8 := grow8.size; simp at h8; unfold Hid; omega
                     clear own8 grow8 _h8))
                go_roundw
                case rel =>
                  refine ⟨k + 1, by omega, by go_num, ?_⟩
                  refine (show Hid _ from ⟨?_, HS8.out, HZ8.out⟩)
                  have e9 : (P.take (offs n0 n1 i + (k + 1))).map (·.1) = (P.take (offs n0 n1 i + k)).map (·.1) ++ [.slice da dn dc] := by
                    obtain ⟨hlt9, hg9⟩ := List.getElem?_eq_some_iff.1 HPA.out
                    rw [← Nat.add_assoc, List.take_succ_eq_append_getElem hlt9, List.map_append, hg9]
                    rfl
                  rw [e9]
                  exact HO8.out
                case measure => simp [intOf]; omega
              · obtain rfl : k = ne := by omega
                have k1 : ¬ (k : Int) < (k : Int) := by omega
                go_wp2
                go_roundw
                case rel =>
                  refine ⟨i + 1, by omega, by go_num, ?_⟩
                  rw [← HNX.out]
                  exact HQ
                case measure => simp [intOf]; omega
          · obtain rfl : i = 3 := by omega
            have i1 : ¬ ((3 : Nat) : Int) < 3 := by omega
            have hPl : P.length = 3 + n0 + n1 + n0 := by rw [← HPP.out]; simp [dat, HLX.out, HLY.out, HLZ.out]; omega
            have ha := HREL.out.1
            rw [show offs n0 n1 3 = 3 + n0 + n1 + n0 from rfl, List.take_of_length_le (by omega)] at ha
            obtain ⟨M, hM⟩ : ∃ M, 3 + n0 + n1 + n0 = M := ⟨_, rfl⟩
            rw [hM] at ha hPl
            obtain ⟨G, gcap, hsG, -, -, -, -⟩ := own25_shape ha (by omega)
            subst hsG
            have hLP : LiveG encY 5 1 wr u2.heap.size P := by
              have h1 := HREL.out.2.1.rb.sub (P := D3 ++ RS) (List.Sublist.append (List.Sublist.refl _) ((List.sublist_cons_self _ _).trans (List.sublist_cons_self _ _)))
              rw [← HD3.out, ← HRS.out] at h1
              rw [← HPP.out]
              exact live_perm h1 (perm3 _ _ _ _ _ _)
            have fd0 := (pack_facts HP0.out (by rw [HL0.out]; omega)).1
            have fd1 := (pack_facts HP1.out (by rw [HL1.out]; omega)).1
            have hsm : ∀ q ∈ P, q.2.length ≤ 2000000000 := by
              intro q hq
              rw [← HPP.out] at hq
              have dz : ∀ {es : List Le} {ls : List Lf}, es.map Le.l = ls → (∀ l ∈ ls, l.path.size ≤ 1023 ∧ l.target.size ≤ 127 ∧ l.data.length ≤ 16777216) → q ∈ dat es → q.2.length ≤ 2000000000 := by
                intro es ls he hf hd
                obtain ⟨x, hx, rfl⟩ := List.mem_map.1 hd
                have := (hf x.l (by rw [← he]; exact List.mem_map_of_mem hx)).2.2
                simp only
                omega
              rcases List.mem_append.1 hq with hq | hq
              · simp only [List.mem_cons, List.not_mem_nil, or_false] at hq
                rcases hq with rfl | rfl | rfl
                · simp only [HL0.out]; omega
                · simp only [HL1.out]; omega
                · simp only [HL0.out]; omega
              · rcases List.mem_append.1 hq with hq | hq
                · exact dz HEX.out fd0 hq
                · rcases List.mem_append.1 hq with hq | hq
                  · exact dz HEY.out fd1 hq
                  · exact dz HEZ.out fd0 hq
            have HAP := hide (apart_own hLP hPl ha (by omega) hsm)
            have HSR := hide HREL.out.2.1
            have hM9 : M ≤ 2000000 := by omega
            have lt0 : ft.length = n0 := by rw [← HNN0.out]; simpa using congrArg List.length HFT.out
            obtain ⟨xf, rf, hxf⟩ := List.exists_cons_of_ne_nil (show ft ≠ [] by
              intro h9
              have h8 := HFT.out
              rw [h9] at h8
              have h7 := HP0.out
              rw [← h8] at h7
              cases h7)
            subst hxf
            have HLT0 := hide lt0
            have hn0p : 0 < n0 := by rw [← lt0]; simp
            have hlt9 := HLT2.out.own
            rw [lt0] at hlt9
            obtain ⟨gt, ct, hvt, -, -, hgB, hgl⟩ := own_shape38 hlt9 hn0p
            subst hvt
            obtain ⟨y0, r0, hy0⟩ := List.exists_cons_of_ne_nil (show es0 ≠ [] by
              intro h9
              have h7 := HP0.out
              rw [h9] at h7
              cases h7)
            have hyx : xf.l = y0.l ∧ rf.map Le.l = r0.map Le.l := by
              have h8 := HFT.out
              rw [hy0, List.map_cons, List.map_cons] at h8
              exact List.cons.inj h8
            have HYX := hide hyx
            have HY0 := hide hy0
            obtain ⟨s0, hs0⟩ : ∃ s0, xf.l.stamp = s0 := ⟨_, rfl⟩
            have hsb := HLK0.out xf.l (by rw [← HFT.out]; exact List.mem_cons_self)
            have q9 : IntKind.u64.wrap (s0 + 1) = (s0 + 1) % 18446744073709551616 := by rw [IntKind.wrap_u64]
            have HS0 := hide hs0
            have HSB : Hid (0 ≤ s0 ∧ s0 < 18446744073709551616) := by rw [← hs0]; exact ⟨hsb.s0, hsb.s1⟩
            obtain ⟨rowB, hpB, hlB⟩ := bump_pack HP0.out
            have hfB : (bump (xf :: rf)).map Le.l = (bump es0).map Le.l := by
              rw [hy0]
              show _ :: _ = _ :: _
              rw [hyx.1, hyx.2]
            rw [HL0.out] at hlB
            have HPB := hide hpB
            have HLB := hide hlB
            have HFB := hide hfB
            have HLKB := hide (bump_lok HLK0.out)
            have HNE : Hid (∀ (X : World) {vv : Value} {ev : List Le}, ev.map Le.l = (bump es0).map Le.l → VwL X vv ev → Below w.heap.size w X → Calls Tryz.prog 11 #[vv, .slice a0 n0 c0] X fun e w' => e = .returned (.bool false) ∧ Below X.heap.size X w') := by
              intro X vv ev he hv hb
              have ht := (HR0.out.up hb).vw (Nat.le_refl _)
              rw [HY0.out] at ht he
              cases ev with
              | nil => cases he
              | cons xe re =>
                rw [bump, List.map_cons, List.map_cons] at he
                obtain ⟨h1, h2⟩ := List.cons.inj he
                have hst : xe.l.stamp = (y0.l.stamp + 1) % 18446744073709551616 := by rw [h1]
                have hsy : y0.l.stamp = s0 := by rw [← HYX.out.1]; exact HS0.out
                have hsb9 := HSB.out
                refine alike_ne _ _ xe y0 re r0 X hv ht (by simpa using congrArg List.length h2) (by rw [h1]) (by rw [h1]) (by rw [h1]) (by rw [h1]) ?_
                rw [hst, hsy]
                omega
            have C0 : Hid True := trivial
            clear HREL ha hLP hsm fd0 fd1 hPl hyx hy0 hs0 hsb hpB hlB hfB hlt9 lt0
            go_wp2_with (first
              | (go_at_call 8; refine (lno_any _ _).mono ?_; rintro e z9 ⟨rfl, hz9⟩; rw [hz9]; clear hz9)
              | (go_at_call 12; have zz := C0; clear C0 zz; refine (unmet_any wr u2.heap.size G M gcap _ _ _ HAP.out hM9 HSR.out.bB.size).mono ?_; rintro e x1 ⟨rfl, hk⟩
                 have HRT := hide (live_kb HSR.out.rt hk)
                 have HBT := hide (hk.oth T9 _ 22 (by decide) (HSR.out.bx _ List.mem_cons_self).1)
                 have HB1 := hide (HSR.out.bB.trans hk.bel)
                 clear hk HSR HAP
                 have C1 : Hid True := trivial)
              | (go_at_call 13; have zz := C1; clear C1 zz; refine (trees_any x1 u2.heap.size T9 3 3 _ _ _ (trees_start HRT.out HBT.out (by rw [HLX.out]; omega) (by rw [HLY.out]; omega) (by rw [HLZ.out]; omega)) (by omega) HB1.out.size).mono ?_; rintro e x2 ⟨rfl, hb⟩
                 have HB2 := hide (HB1.out.trans hb)
                 clear hb HB1 HRT HBT
                 have C2 : Hid True := trivial)
              | (go_at_call 11; have zz := C2; clear C2 zz; refine (alike_vw _ _ (xf :: rf) es0 _ (ls_vw HLT2.out HB2.out HFT.out HLK0.out) ((HR0.out.up (bel_up HBW.out HB2.out HBW.out.size)).vw (Nat.le_refl _)) HFT.out).mono ?_; rintro e x3 ⟨rfl, hb⟩
                 have HB3 := hide (bel_up HB2.out hb HB2.out.size)
                 clear hb HB2
                 have C3 : Hid True := trivial)
              | (go_at_call 11; have zz := C3; clear C3 zz; refine (alike_vw _ _ fu es1 _ (ls_vw HLU.out HB3.out HFU.out HLK1.out) ((HR1.out.up (bel_up HBW.out HB3.out HBW.out.size)).vw (Nat.le_refl _)) HFU.out).mono ?_; rintro e x4 ⟨rfl, hb⟩
                 have HB4 := hide (bel_up HB3.out hb HB3.out.size)
                 have hL4 := HLT2.out.below HB4.out
                 have hlo := hL4.own
                 rw [HLT0.out] at hlo
                 have hcs : x4.cell? ⟨gt, 3, none⟩ = some (.int .u64 s0) := by
                   have h9 := World.ownsRow.cellAt hlo 3 (by omega)
                   rw [← HS0.out]
                   exact h9
                 have hfz : x4.frozen? ⟨gt, 3, none⟩ = false := World.ownsRow.frozenAt hlo 3
                 have HL4 := hide (bump_ls hL4)
                 rw [HS0.out] at HL4
                 have HB5 := hide ((bel_up HBW.out HB4.out HBW.out.size).setCell (p := ⟨gt, 3, none⟩) (Nat.le_trans HUW.out hgB) (.int .u64 ((s0 + 1) % 18446744073709551616)))
                 have HT5 := hide (HT.out.below HB5.out)
                 clear hb HB3 hL4 hlo
                 have C4 : Hid True := trivial)
              | (go_at_call 7; have zz := C4; clear C4 zz; refine (own_pack _ _ _ (bump (xf :: rf)) _ rowB HL4.out HFB.out HLKB.out HPB.out (by rw [HLB.out]; omega) HT5.out).mono ?_; rintro e x5 ⟨g5, d5, rfl, ho, hb⟩
                 rw [HLB.out] at ho ⊢
                 have HO5 := hide ho
                 have HB6 := hide (bel_up HB5.out hb HB5.out.size)
                 have HL6 := hide (HL4.out.below hb)
                 have HT6 := hide (HT5.out.below hb)
                 clear ho hb HB5 HT5 HL4 hcs hfz
                 have C5 : Hid True := trivial)
              | (go_at_call 10; have zz := C5; clear C5 zz; refine (own_read _ _ g5 m0 d5 rowB _ HO5.out HLKB.out HPB.out HLB.out (by omega) f0 HT6.out).mono ?_; rintro e x6 ⟨vv, ev, rfl, hev, hlv, hfv, hb⟩
                 have HEV := hide hev
                 have HVV := hide (hlv.vw (fun x hx => (loks hev HLKB.out x hx).byt))
                 have HL7 := hide (HL6.out.below hb)
                 have HB7 := hide (bel_up HB6.out hb HB6.out.size)
                 clear hev hlv hfv hb HB6 HL6
                 have C6 : Hid True := trivial)
              | (go_at_call 11; have zz := C6; clear C6 zz; refine (alike_vw _ _ ev (bump (xf :: rf)) _ HVV.out (HL7.out.vw (fun x hx => (loks HFB.out HLKB.out x hx).byt)) (HEV.out.trans HFB.out.symm)).mono ?_; rintro e x7 ⟨rfl, hb⟩
                 have HV8 := hide (HVV.out.below hb)
                 have HB8 := hide (bel_up HB7.out hb HB7.out.size)
                 clear hb HB7 HL7 HVV
                 have C7 : Hid True := trivial)
              | (go_at_call 11; have zz := C7; clear C7 zz; refine (HNE.out _ HEV.out HV8.out HB8.out).mono ?_; rintro e x8 ⟨rfl, hb⟩
                 have HB9 := hide (bel_up HB8.out hb HB8.out.size)
                 clear hb HB8 HV8))
            go_ret
            exact ⟨rfl, HB9.out⟩
      · have j1 : ((m0 : Int) == (m1 : Int)) = false := by rw [beq_eq_false_iff_ne]; omega
        have j2 : (m0 == m1) = false := by rw [beq_eq_false_iff_ne]; exact hmm
        have j3 : decide (m0 = m1) = false := decide_eq_false hmm
        have j4 : ¬ (m0 : Int) = (m1 : Int) := by omega
        have HMX : Hid (((.slice xa n0 xc : Value), ex) ∈ [((.slice za n0 zc : Value), ez), (.slice ya n1 yc, ey), (.slice xa n0 xc, ex)]) := List.mem_cons_of_mem _ (List.mem_cons_of_mem _ List.mem_cons_self)
        have HMY : Hid (((.slice ya n1 yc : Value), ey) ∈ [((.slice za n0 zc : Value), ez), (.slice ya n1 yc, ey), (.slice xa n0 xc, ex)]) := List.mem_cons_of_mem _ List.mem_cons_self
        have HMZ : Hid (((.slice za n0 zc : Value), ez) ∈ [((.slice za n0 zc : Value), ez), (.slice ya n1 yc, ey), (.slice xa n0 xc, ex)]) := List.mem_cons_self
        have A0 : Hid True := trivial
        go_wp2_with (first
          | (go_at_call 8; refine (lno_any _ _).mono ?_; rintro e z9 ⟨rfl, hz9⟩; rw [hz9]; clear hz9)
          | (go_at_call 11; have zz := A0; clear A0 zz; refine (alike_vw _ _ ex es0 _ (S0.out.vw HMX.out HDX.out HEX.out HLK0.out) ((HR0.out.up (bel_up HBW.out S0.out.bB HBW.out.size)).vw (Nat.le_refl _)) HEX.out).mono ?_; rintro e z9 ⟨rfl, hb⟩
             have S1 := hide (S0.out.up hb)
             clear hb S0
             have A1 : Hid True := trivial)
          | (go_at_call 11; have zz := A1; clear A1 zz; refine (alike_vw _ _ ey es1 _ (S1.out.vw HMY.out HDY.out HEY.out HLK1.out) ((HR1.out.up (bel_up HBW.out S1.out.bB HBW.out.size)).vw (Nat.le_refl _)) HEY.out).mono ?_; rintro e z9 ⟨rfl, hb⟩
             have S2 := hide (S1.out.up hb)
             clear hb S1
             have A2 : Hid True := trivial)
          | (go_at_call 11; have zz := A2; clear A2 zz; refine (alike_vw _ _ ez es0 _ (S2.out.vw HMZ.out HDZ.out HEZ.out HLK0.out) ((HR0.out.up (bel_up HBW.out S2.out.bB HBW.out.size)).vw (Nat.le_refl _)) HEZ.out).mono ?_; rintro e z9 ⟨rfl, hb⟩
             have S3 := hide (S2.out.up hb)
             clear hb S2
             have A3 : Hid True := trivial)
          | (go_at_call 11; have zz := A3; clear A3 zz; refine (alike_vw _ _ ft es0 _ (ls_vw HLT2.out S3.out.bB HFT.out HLK0.out) ((HR0.out.up (bel_up HBW.out S3.out.bB HBW.out.size)).vw (Nat.le_refl _)) HFT.out).mono ?_; rintro e z9 ⟨rfl, hb⟩
             have S4 := hide (S3.out.up hb)
             clear hb S3
             have A4 : Hid True := trivial)
          | (go_at_call 11; have zz := A4; clear A4 zz; refine (alike_vw _ _ fu es1 _ (ls_vw HLU.out S4.out.bB HFU.out HLK1.out) ((HR1.out.up (bel_up HBW.out S4.out.bB HBW.out.size)).vw (Nat.le_refl _)) HFU.out).mono ?_; rintro e z9 ⟨rfl, hb⟩
             have S5 := hide (S4.out.up hb)
             clear hb S4 zR0 zR1
             obtain ⟨zR0, zR1⟩ := two_cells (S5.out.bx _ List.mem_cons_self).1
             have A5 : Hid True := trivial))
        obtain ⟨z0, hz0⟩ : ∃ z0, z9 = z0 := ⟨_, rfl⟩
        subst hz0
        obtain ⟨T9, hT9⟩ : ∃ T9, z9.heap.size + 1 = T9 := ⟨_, rfl⟩
        obtain ⟨P, hP⟩ : ∃ P : List (Value × List Int), [(((.slice (some ⟨g1, 0, none⟩) m0 d1) : Value), row0), ((.slice (some ⟨g2, 0, none⟩) m1 d2), row1), ((.slice (some ⟨g3, 0, none⟩) m0 d3), row0)] ++ (dat ex ++ (dat ey ++ dat ez)) = P := ⟨_, rfl⟩
        have hW := (((S5.out.box #[(.slice (some ⟨g1, 0, none⟩) m0 d1), (.slice (some ⟨g2, 0, none⟩) m1 d2), (.slice (some ⟨g3, 0, none⟩) m0 d3)] 25 (by decide)).box #[(.slice xa n0 xc), (.slice ya n1 yc), (.slice za n0 zc)] 22 (by decide)).bxs (BX' := [((z9.alloc (.cells #[(.slice (some ⟨g1, 0, none⟩) m0 d1), (.slice (some ⟨g2, 0, none⟩) m1 d2), (.slice (some ⟨g3, 0, none⟩) m0 d3)] 25)).heap.size, #[(.slice xa n0 xc), (.slice ya n1 yc), (.slice za n0 zc)], 22)]) (fun b hb => by rw [List.mem_singleton.1 hb]; exact List.mem_cons_self))
        rw [show (z9.alloc (.cells #[(.slice (some ⟨g1, 0, none⟩) m0 d1), (.slice (some ⟨g2, 0, none⟩) m1 d2), (.slice (some ⟨g3, 0, none⟩) m0 d3)] 25)).heap.size = T9 by rw [← hT9]; simp] at hW
        have hA := (lit_own z9 (.slice (some ⟨g1, 0, none⟩) m0 d1) (.slice (some ⟨g2, 0, none⟩) m1 d2) (.slice (some ⟨g3, 0, none⟩) m0 d3)).alloc (.cells #[(.slice xa n0 xc), (.slice ya n1 yc), (.slice za n0 zc)] 22)
        have HPT : Hid ((P.take 3).map (·.1) = [(.slice (some ⟨g1, 0, none⟩) m0 d1), (.slice (some ⟨g2, 0, none⟩) m1 d2), (.slice (some ⟨g3, 0, none⟩) m0 d3)]) := by unfold Hid; rw [← hP]; rfl
        have HW := hide hW
        have HAL := hide hA
        have HPP := hide hP
        have hU2 : u2.heap.size ≤ z9.heap.size := S5.out.bB.size
        have hnb0 : n0 ≤ 200000 := by rw [← HNN0.out]; exact HN0.out
        have hnb1 : n1 ≤ 200000 := by rw [← HNN1.out]; exact HN1.out
        obtain ⟨j5, hj0, hjz0, hjz1, hjz2⟩ := info_parts info25
        have HJ : Hid (Tryz.prog.info? 25 = some j5 ∧ j5.zero = some (.slice none 0 0) ∧ j5.size = 1 ∧ j5.bytes = 24) := ⟨hj0, hjz0, hjz1, hjz2⟩
        rw [hT9]
        clear hW hA hP hj0 hjz0 hjz1 hjz2 zR0 zR1 S5
        go_loopw [20, 22] (fun s20 s22 wr => ∃ i : Nat, i ≤ 3 ∧ s22 = .int .i64 (i : Int) ∧ Hid (wr.ownsRow z9.heap.size 25 1 s20 (offs n0 n1 i) ((P.take (offs n0 n1 i)).map (·.1)) ∧ OS u2 wr (D3 ++ ((.slice (some ⟨b1, 0, none⟩) m1 e1), cur) :: ((.slice (some ⟨b0, 0, none⟩) m0 e0), row9) :: RS) [(((.slice za n0 zc) : Value), ez), ((.slice ya n1 yc), ey), ((.slice xa n0 xc), ex)] [(T9, #[(.slice xa n0 xc), (.slice ya n1 yc), (.slice za n0 zc)], 22)] ∧ z9.heap.size ≤ wr.heap.size)) (fun _ s22 _ => 3 - (intOf s22).toNat)
        case atStart => exact ⟨0, Nat.zero_le _, rfl, ⟨(by show World.ownsRow _ _ _ _ _ 3 ((P.take 3).map (·.1)); rw [HPT.out]; exact HAL.out), HW.out, (by simp; omega)⟩⟩
        case round =>
          obtain ⟨i, hi, rfl, HREL⟩ := hrel
          clear HW HAL
          by_cases hi3 : i < 3
          · have i1 : (i : Int) < 3 := by omega
            obtain ⟨E, hE⟩ : ∃ E, pk3 ex ey ez i = E := ⟨_, rfl⟩
            obtain ⟨V, hV⟩ : ∃ V, pk3 ((.slice xa n0 xc) : Value) (.slice ya n1 yc) (.slice za n0 zc) i = V := ⟨_, rfl⟩
            have hmem : (V, E) ∈ [(((.slice za n0 zc) : Value), ez), ((.slice ya n1 yc), ey), ((.slice xa n0 xc), ex)] := by
              rw [← hE, ← hV]
              match i, hi3 with
              | 0, _ => exact List.mem_cons_of_mem _ (List.mem_cons_of_mem _ List.mem_cons_self)
              | 1, _ => exact List.mem_cons_of_mem _ List.mem_cons_self
              | 2, _ => exact List.mem_cons_self
            have hsub : ∀ q ∈ dat E, q ∈ (D3 ++ ((.slice (some ⟨b1, 0, none⟩) m1 e1), cur) :: ((.slice (some ⟨b0, 0, none⟩) m0 e0), row9) :: RS) := by
              rw [← hE]
              match i, hi3 with
              | 0, _ => exact HDX.out
              | 1, _ => exact HDY.out
              | 2, _ => exact HDZ.out
            have HAT : Hid (∀ k, (hk : k < E.length) → P[offs n0 n1 i + k]? = some (E[k].d, E[k].l.data)) := by
              intro k hk
              rw [← HPP.out]
              subst hE
              exact offs_at rfl HLX.out HLY.out HLZ.out i hi3 k hk
            have HNX : Hid (offs n0 n1 i + E.length = offs n0 n1 (i + 1)) := by unfold Hid; rw [← hE]; exact offs_next HLX.out HLY.out HLZ.out i hi3
            have hol := offs_le n0 n1 (i + 1)
            have HMEM := hide hmem
            have HSUB := hide hsub
            obtain ⟨ia, ic, hVs⟩ := own_form38 (HREL.out.2.1.rt.rows (V, E) hmem)
            simp only at hVs
            obtain ⟨ne, hne⟩ : ∃ ne, E.length = ne := ⟨_, rfl⟩
            rw [hne] at hVs HNX
            have HNE := hide hne
            have hne9 : ne ≤ 4000000 := by have := HNX.out; omega
            have HCT : Hid (∀ W, OS u2 W (D3 ++ ((.slice (some ⟨b1, 0, none⟩) m1 e1), cur) :: ((.slice (some ⟨b0, 0, none⟩) m0 e0), row9) :: RS) [(((.slice za n0 zc) : Value), ez), ((.slice ya n1 yc), ey), ((.slice xa n0 xc), ex)] [(T9, #[(.slice xa n0 xc), (.slice ya n1 yc), (.slice za n0 zc)], 22)] → W.cell? ⟨T9, i, none⟩ = some (.slice ia ne ic)) := by
              intro W hW
              have h9 := (hW.bx _ List.mem_cons_self).1
              rw [← hVs, ← hV]
              match i, hi3 with
              | 0, _ => simp [World.cell?, h9, pk3]
              | 1, _ => simp [World.cell?, h9, pk3]
              | 2, _ => simp [World.cell?, h9, pk3]
            have HVS := hide hVs
            clear hE hV hmem hsub hVs hne
            go_wp2
            go_loopw [20, 23] (fun s20 s23 wq => ∃ k : Nat, k ≤ ne ∧ s23 = .int .i64 (k : Int) ∧ Hid (wq.ownsRow z9.heap.size 25 1 s20 (offs n0 n1 i + k) ((P.take (offs n0 n1 i + k)).map (·.1)) ∧ OS u2 wq (D3 ++ ((.slice (some ⟨b1, 0, none⟩) m1 e1), cur) :: ((.slice (some ⟨b0, 0, none⟩) m0 e0), row9) :: RS) [(((.slice za n0 zc) : Value), ez), ((.slice ya n1 yc), ey), ((.slice xa n0 xc), ex)] [(T9, #[(.slice xa n0 xc), (.slice ya n1 yc), (.slice za n0 zc)], 22)] ∧ z9.heap.size ≤ wq.heap.size)) (fun _ s23 _ => ne - (intOf s23).toNat)
            case atStart => exact ⟨0, Nat.zero_le _, rfl, HREL⟩
            case round =>
              obtain ⟨k, hk, rfl, HQ⟩ := hrel
              clear HREL
              have hct := HCT.out _ HQ.out.2.1
              by_cases hlt3 : k < ne
              · have k1 : (k : Int) < (ne : Int) := by omega
                have hrow := HQ.out.2.1.rt.rows (V, E) HMEM.out
                simp only at hrow
                rw [HVS.out, HNE.out] at hrow
                obtain ⟨gb, gcap, hsh, -, -, -, -⟩ := own_shape38 hrow (by omega)
                cases hsh
                have hkE : k < E.length := by rw [HNE.out]; exact hlt3
                obtain ⟨x, hx⟩ : ∃ x, E[k] = x := ⟨_, rfl⟩
                have hxc : wr.cell? ⟨gb, k * 6 + 4, none⟩ = some x.d := by
                  rw [World.ownsRow.cellAt hrow (k * 6 + 4) (by omega), lflat_cell E k 4 hkE (by omega), hx]
                  rfl
                have hdt := HQ.out.2.1.rb.rows (x.d, x.l.data) (HSUB.out _ (by rw [← hx]; exact List.mem_map_of_mem (List.getElem_mem hkE)))
                simp only at hdt
                have hpa := HAT.out k hkE
                rw [hx] at hpa
                obtain ⟨da, dc, hxd⟩ := dt_form hdt
                obtain ⟨dn, hdn⟩ : ∃ dn, x.l.data.length = dn := ⟨_, rfl⟩
                rw [hdn] at hxd
                rw [hxd] at hxc hpa
                have HPA := hide hpa
                clear hrow hdt hpa hxd hdn hx
                go_wp2_with (first
                  | (at_builtin; refine wpList_append_own (wr.alloc (.cells #[.slice da dn dc] 25)) rfl (.tmp 214) (.tmp 223) 31 rfl z9.heap.size 25 j5 _ 1 24 Tryz.underlying31 HJ.out.1 HJ.out.2.1 HJ.out.2.2.1 HJ.out.2.2.2 rfl (by decide) u20 (offs n0 n1 i + k) ((P.take (offs n0 n1 i + k)).map (·.1)) rfl (HQ.out.1.alloc _) ⟨wr.heap.size, 0, none⟩ 1 1 [.slice da dn dc] rfl rfl (cells_news (heap_alloc_new wr _)) (by simp [Value.oneCell']) (by have := HNX.out; simp only [maxLen]; omega) (by have := HNX.out; omega) (by have := HQ.out.2.2; simp; omega) ?_; intro v8 t8 own8 grow8 _h8
                     have HO8 := hide own8
                     have HS8 := hide ((HQ.out.2.1.up (below_alloc wr (.cells #[.slice da dn dc] 25))).other (HQ.out.1.alloc _) hU2 grow8 (fun b hb => by rw [List.mem_singleton.1 hb]; show (22 : Nat) ≠ 25; decide))
                     have HZ8 : Hid (z9.heap.size ≤ t8.heap.size) := by have h7 := HQ.out.2.2; have h8 := grow8.size; simp at h8; unfold Hid; omega
                     clear own8 grow8 _h8))
                go_roundw
                case rel =>
                  refine ⟨k + 1, by omega, by go_num, ?_⟩
                  refine (show Hid _ from ⟨?_, HS8.out, HZ8.out⟩)
                  have e9 : (P.take (offs n0 n1 i + (k + 1))).map (·.1) = (P.take (offs n0 n1 i + k)).map (·.1) ++ [.slice da dn dc] := by
                    obtain ⟨hlt9, hg9⟩ := List.getElem?_eq_some_iff.1 HPA.out
                    rw [← Nat.add_assoc, List.take_succ_eq_append_getElem hlt9, List.map_append, hg9]
                    rfl
                  rw [e9]
                  exact HO8.out
                case measure => simp [intOf]; omega
              · obtain rfl : k = ne := by omega
                have k1 : ¬ (k : Int) < (k : Int) := by omega
                go_wp2
                go_roundw
                case rel =>
                  refine ⟨i + 1, by omega, by go_num, ?_⟩
                  rw [← HNX.out]
                  exact HQ
                case measure => simp [intOf]; omega
          · obtain rfl : i = 3 := by omega
            have i1 : ¬ ((3 : Nat) : Int) < 3 := by omega
            have hPl : P.length = 3 + n0 + n1 + n0 := by rw [← HPP.out]; simp [dat, HLX.out, HLY.out, HLZ.out]; omega
            have ha := HREL.out.1
            rw [show offs n0 n1 3 = 3 + n0 + n1 + n0 from rfl, List.take_of_length_le (by omega)] at ha
            obtain ⟨M, hM⟩ : ∃ M, 3 + n0 + n1 + n0 = M := ⟨_, rfl⟩
            rw [hM] at ha hPl
            obtain ⟨G, gcap, hsG, -, -, -, -⟩ := own25_shape ha (by omega)
            subst hsG
            have hLP : LiveG encY 5 1 wr u2.heap.size P := by
              have h1 := HREL.out.2.1.rb.sub (P := D3 ++ RS) (List.Sublist.append (List.Sublist.refl _) ((List.sublist_cons_self _ _).trans (List.sublist_cons_self _ _)))
              rw [← HD3.out, ← HRS.out] at h1
              rw [← HPP.out]
              exact live_perm h1 (perm3 _ _ _ _ _ _)
            have fd0 := (pack_facts HP0.out (by rw [HL0.out]; omega)).1
            have fd1 := (pack_facts HP1.out (by rw [HL1.out]; omega)).1
            have hsm : ∀ q ∈ P, q.2.length ≤ 2000000000 := by
              intro q hq
              rw [← HPP.out] at hq
              have dz : ∀ {es : List Le} {ls : List Lf}, es.map Le.l = ls → (∀ l ∈ ls, l.path.size ≤ 1023 ∧ l.target.size ≤ 127 ∧ l.data.length ≤ 16777216) → q ∈ dat es → q.2.length ≤ 2000000000 := by
                intro es ls he hf hd
                obtain ⟨x, hx, rfl⟩ := List.mem_map.1 hd
                have := (hf x.l (by rw [← he]; exact List.mem_map_of_mem hx)).2.2
                simp only
                omega
              rcases List.mem_append.1 hq with hq | hq
              · simp only [List.mem_cons, List.not_mem_nil, or_false] at hq
                rcases hq with rfl | rfl | rfl
                · simp only [HL0.out]; omega
                · simp only [HL1.out]; omega
                · simp only [HL0.out]; omega
              · rcases List.mem_append.1 hq with hq | hq
                · exact dz HEX.out fd0 hq
                · rcases List.mem_append.1 hq with hq | hq
                  · exact dz HEY.out fd1 hq
                  · exact dz HEZ.out fd0 hq
            have HAP := hide (apart_own hLP hPl ha (by omega) hsm)
            have HSR := hide HREL.out.2.1
            have hM9 : M ≤ 2000000 := by omega
            have lt0 : ft.length = n0 := by rw [← HNN0.out]; simpa using congrArg List.length HFT.out
            obtain ⟨xf, rf, hxf⟩ := List.exists_cons_of_ne_nil (show ft ≠ [] by
              intro h9
              have h8 := HFT.out
              rw [h9] at h8
              have h7 := HP0.out
              rw [← h8] at h7
              cases h7)
            subst hxf
            have HLT0 := hide lt0
            have hn0p : 0 < n0 := by rw [← lt0]; simp
            have hlt9 := HLT2.out.own
            rw [lt0] at hlt9
            obtain ⟨gt, ct, hvt, -, -, hgB, hgl⟩ := own_shape38 hlt9 hn0p
            subst hvt
            obtain ⟨y0, r0, hy0⟩ := List.exists_cons_of_ne_nil (show es0 ≠ [] by
              intro h9
              have h7 := HP0.out
              rw [h9] at h7
              cases h7)
            have hyx : xf.l = y0.l ∧ rf.map Le.l = r0.map Le.l := by
              have h8 := HFT.out
              rw [hy0, List.map_cons, List.map_cons] at h8
              exact List.cons.inj h8
            have HYX := hide hyx
            have HY0 := hide hy0
            obtain ⟨s0, hs0⟩ : ∃ s0, xf.l.stamp = s0 := ⟨_, rfl⟩
            have hsb := HLK0.out xf.l (by rw [← HFT.out]; exact List.mem_cons_self)
            have q9 : IntKind.u64.wrap (s0 + 1) = (s0 + 1) % 18446744073709551616 := by rw [IntKind.wrap_u64]
            have HS0 := hide hs0
            have HSB : Hid (0 ≤ s0 ∧ s0 < 18446744073709551616) := by rw [← hs0]; exact ⟨hsb.s0, hsb.s1⟩
            obtain ⟨rowB, hpB, hlB⟩ := bump_pack HP0.out
            have hfB : (bump (xf :: rf)).map Le.l = (bump es0).map Le.l := by
              rw [hy0]
              show _ :: _ = _ :: _
              rw [hyx.1, hyx.2]
            rw [HL0.out] at hlB
            have HPB := hide hpB
            have HLB := hide hlB
            have HFB := hide hfB
            have HLKB := hide (bump_lok HLK0.out)
            have HNE : Hid (∀ (X : World) {vv : Value} {ev : List Le}, ev.map Le.l = (bump es0).map Le.l → VwL X vv ev → Below w.heap.size w X → Calls Tryz.prog 11 #[vv, .slice a0 n0 c0] X fun e w' => e = .returned (.bool false) ∧ Below X.heap.size X w') := by
              intro X vv ev he hv hb
              have ht := (HR0.out.up hb).vw (Nat.le_refl _)
              rw [HY0.out] at ht he
              cases ev with
              | nil => cases he
              | cons xe re =>
                rw [bump, List.map_cons, List.map_cons] at he
                obtain ⟨h1, h2⟩ := List.cons.inj he
                have hst : xe.l.stamp = (y0.l.stamp + 1) % 18446744073709551616 := by rw [h1]
                have hsy : y0.l.stamp = s0 := by rw [← HYX.out.1]; exact HS0.out
                have hsb9 := HSB.out
                refine alike_ne _ _ xe y0 re r0 X hv ht (by simpa using congrArg List.length h2) (by rw [h1]) (by rw [h1]) (by rw [h1]) (by rw [h1]) ?_
                rw [hst, hsy]
                omega
            have C0 : Hid True := trivial
            clear HREL ha hLP hsm fd0 fd1 hPl hyx hy0 hs0 hsb hpB hlB hfB hlt9 lt0
            go_wp2_with (first
              | (go_at_call 8; refine (lno_any _ _).mono ?_; rintro e z9 ⟨rfl, hz9⟩; rw [hz9]; clear hz9)
              | (go_at_call 12; have zz := C0; clear C0 zz; refine (unmet_any wr u2.heap.size G M gcap _ _ _ HAP.out hM9 HSR.out.bB.size).mono ?_; rintro e x1 ⟨rfl, hk⟩
                 have HRT := hide (live_kb HSR.out.rt hk)
                 have HBT := hide (hk.oth T9 _ 22 (by decide) (HSR.out.bx _ List.mem_cons_self).1)
                 have HB1 := hide (HSR.out.bB.trans hk.bel)
                 clear hk HSR HAP
                 have C1 : Hid True := trivial)
              | (go_at_call 13; have zz := C1; clear C1 zz; refine (trees_any x1 u2.heap.size T9 3 3 _ _ _ (trees_start HRT.out HBT.out (by rw [HLX.out]; omega) (by rw [HLY.out]; omega) (by rw [HLZ.out]; omega)) (by omega) HB1.out.size).mono ?_; rintro e x2 ⟨rfl, hb⟩
                 have HB2 := hide (HB1.out.trans hb)
                 clear hb HB1 HRT HBT
                 have C2 : Hid True := trivial)
              | (go_at_call 11; have zz := C2; clear C2 zz; refine (alike_vw _ _ (xf :: rf) es0 _ (ls_vw HLT2.out HB2.out HFT.out HLK0.out) ((HR0.out.up (bel_up HBW.out HB2.out HBW.out.size)).vw (Nat.le_refl _)) HFT.out).mono ?_; rintro e x3 ⟨rfl, hb⟩
                 have HB3 := hide (bel_up HB2.out hb HB2.out.size)
                 clear hb HB2
                 have C3 : Hid True := trivial)
              | (go_at_call 11; have zz := C3; clear C3 zz; refine (alike_vw _ _ fu es1 _ (ls_vw HLU.out HB3.out HFU.out HLK1.out) ((HR1.out.up (bel_up HBW.out HB3.out HBW.out.size)).vw (Nat.le_refl _)) HFU.out).mono ?_; rintro e x4 ⟨rfl, hb⟩
                 have HB4 := hide (bel_up HB3.out hb HB3.out.size)
                 have hL4 := HLT2.out.below HB4.out
                 have hlo := hL4.own
                 rw [HLT0.out] at hlo
                 have hcs : x4.cell? ⟨gt, 3, none⟩ = some (.int .u64 s0) := by
                   have h9 := World.ownsRow.cellAt hlo 3 (by omega)
                   rw [← HS0.out]
                   exact h9
                 have hfz : x4.frozen? ⟨gt, 3, none⟩ = false := World.ownsRow.frozenAt hlo 3
                 have HL4 := hide (bump_ls hL4)
                 rw [HS0.out] at HL4
                 have HB5 := hide ((bel_up HBW.out HB4.out HBW.out.size).setCell (p := ⟨gt, 3, none⟩) (Nat.le_trans HUW.out hgB) (.int .u64 ((s0 + 1) % 18446744073709551616)))
                 have HT5 := hide (HT.out.below HB5.out)
                 clear hb HB3 hL4 hlo
                 have C4 : Hid True := trivial)
              | (go_at_call 7; have zz := C4; clear C4 zz; refine (own_pack _ _ _ (bump (xf :: rf)) _ rowB HL4.out HFB.out HLKB.out HPB.out (by rw [HLB.out]; omega) HT5.out).mono ?_; rintro e x5 ⟨g5, d5, rfl, ho, hb⟩
                 rw [HLB.out] at ho ⊢
                 have HO5 := hide ho
                 have HB6 := hide (bel_up HB5.out hb HB5.out.size)
                 have HL6 := hide (HL4.out.below hb)
                 have HT6 := hide (HT5.out.below hb)
                 clear ho hb HB5 HT5 HL4 hcs hfz
                 have C5 : Hid True := trivial)
              | (go_at_call 10; have zz := C5; clear C5 zz; refine (own_read _ _ g5 m0 d5 rowB _ HO5.out HLKB.out HPB.out HLB.out (by omega) f0 HT6.out).mono ?_; rintro e x6 ⟨vv, ev, rfl, hev, hlv, hfv, hb⟩
                 have HEV := hide hev
                 have HVV := hide (hlv.vw (fun x hx => (loks hev HLKB.out x hx).byt))
                 have HL7 := hide (HL6.out.below hb)
                 have HB7 := hide (bel_up HB6.out hb HB6.out.size)
                 clear hev hlv hfv hb HB6 HL6
                 have C6 : Hid True := trivial)
              | (go_at_call 11; have zz := C6; clear C6 zz; refine (alike_vw _ _ ev (bump (xf :: rf)) _ HVV.out (HL7.out.vw (fun x hx => (loks HFB.out HLKB.out x hx).byt)) (HEV.out.trans HFB.out.symm)).mono ?_; rintro e x7 ⟨rfl, hb⟩
                 have HV8 := hide (HVV.out.below hb)
                 have HB8 := hide (bel_up HB7.out hb HB7.out.size)
                 clear hb HB7 HL7 HVV
                 have C7 : Hid True := trivial)
              | (go_at_call 11; have zz := C7; clear C7 zz; refine (HNE.out _ HEV.out HV8.out HB8.out).mono ?_; rintro e x8 ⟨rfl, hb⟩
                 have HB9 := hide (bel_up HB8.out hb HB8.out.size)
                 clear hb HB8 HV8))
            go_ret
            exact ⟨rfl, HB9.out⟩
/-- Pack of a tree of the law's own that may not be. -/
theorem own_packE (u : World) (B : Nat) (v : Value) (fs es : List Le) (x : Int) (h : LsOn u B v fs) (he : fs.map Le.l = es.map Le.l) (hl : ∀ l ∈ es.map Le.l, Lok l) (hx : ∀ y ∈ es, y.l.path.size ≤ 1048576 ∧ y.l.target.size ≤ 1048576 ∧ y.l.data.length ≤ 1048576) (hz : szL (es.map Le.l) ≤ 38000000000000) (hp : packM (es.map Le.l) = .error x) (ht : Tab u) :
    Calls Tryz.prog 7 #[v] u fun e u' => e = .returned (.tuple #[.slice none 0 0, .int .i64 x]) ∧ Below u.heap.size u u' := by
  have hlk := loks he hl
  have R := h.rdl hlk (fun y hy => by
    have h1 : y.l ∈ es.map Le.l := by rw [← he]; exact List.mem_map_of_mem hy
    obtain ⟨z, hz1, hz2⟩ := List.mem_map.1 h1
    have := hx z hz1
    rw [← hz2]
    omega)
  refine (pack_any v fs u R (by rw [he]; exact hz) ht).mono ?_
  rintro e u' ⟨hv, hb2⟩
  rw [he, hp] at hv
  exact ⟨hv, hb2⟩
theorem same_nil (w : World) : Calls Tryz.prog 9 #[.slice none 0 0, .slice none 0 0] w fun e w' => e = .returned (.bool true) ∧ w' = w := same_eq none none 0 0 0 [] w (reads_nil9 w) (reads_nil9 w)

set_option maxHeartbeats 4000000 in
set_option maxRecDepth 100000 in
theorem own_err0 (v0 v1 : Value) (es0 es1 : List Le) (x : Int) (w : World) (h0 : RdL w w.heap.size v0 es0) (h1 : RdL w w.heap.size v1 es1) (hT : Tab w) (hp0 : packM (es0.map Le.l) = .error x) (hm1 : ∀ row1, packM (es1.map Le.l) = .ok row1 → row1.length ≤ 4194300) (hn0 : es0.length ≤ 200000) (hn1 : es1.length ≤ 200000) (hx0 : ∀ y ∈ es0, y.l.path.size ≤ 1048576 ∧ y.l.target.size ≤ 1048576 ∧ y.l.data.length ≤ 1048576) (hx1 : ∀ y ∈ es1, y.l.path.size ≤ 1048576 ∧ y.l.target.size ≤ 1048576 ∧ y.l.data.length ≤ 1048576) (hz0 : szL (es0.map Le.l) ≤ 38000000000000) (hz1 : szL (es1.map Le.l) ≤ 38000000000000) :
    Calls Tryz.prog 3 #[v0, v1] w fun e w' => e = .returned (.bool true) ∧ Below w.heap.size w w' := by
  have hxne := packM_err _ _ hp0
  have HLK0 := hide h0.lok
  have HLK1 := hide h1.lok
  have HT := hide hT
  have HP0 := hide hp0
  have HR0 := hide h0
  have HR1 := hide h1
  have HX0 := hide hx0
  have HZ0 := hide hz0
  have HPT : Hid (∀ (u : World) (B : Nat) (v : Value) (fs : List Le), LsOn u B v fs → fs.map Le.l = es1.map Le.l → Tab u → Calls Tryz.prog 7 #[v] u fun e u' => (∃ a n c y, e = .returned (.tuple #[.slice a n c, .int .i64 y])) ∧ Below u.heap.size u u') := by
    intro u B v fs h he ht
    cases hp1 : packM (es1.map Le.l) with
    | error y => exact (own_packE u B v fs es1 y h he h1.lok hx1 hz1 hp1 ht).mono fun e u' ⟨ha, hb⟩ => ⟨⟨_, _, _, _, ha⟩, hb⟩
    | ok row => exact (own_pack u B v fs _ row h he h1.lok hp1 (by have := hm1 row hp1; omega) ht).mono fun e u' ⟨g, cap, ha, _, hb⟩ => ⟨⟨_, _, _, _, ha⟩, hb⟩
  obtain ⟨a0, c0, hv0, -⟩ := h0.shape
  obtain ⟨a1, c1, hv1, -⟩ := h1.shape
  subst hv0
  subst hv1
  have hxb : (x != 0) = true := by simp [hxne]
  have K0 : Hid True := trivial
  clear h0 h1 hT hp0 hx0 hx1 hz0 hz1 hm1
  go_enter Tryz.func3, Tryz.ntmps3
  go_wp2_with (first
    | (go_at_call 8; refine (lno_any _ _).mono ?_; rintro e z9 ⟨rfl, hz9⟩; rw [hz9]; clear hz9)
    | (go_at_call 5; have zz := K0; clear K0 zz; refine (heads_any _ HT.out).mono ?_; rintro e u0 ⟨rfl, hb0⟩; have HB0 := hide hb0; clear hb0; have K1 : Hid True := trivial)
    | (go_at_call 6; have zz := K1; clear K1 zz; refine (copied_any _ es0 _ (HR0.out.up HB0.out) (by omega)).mono ?_; rintro e u1 ⟨vt, ft, rfl, hft, hlt, hb1⟩
       have HFT := hide hft
       have HLT := hide hlt
       have HBT := hide (bel_up HB0.out hb1 HB0.out.size)
       clear hft hlt hb1 HB0
       have K2 : Hid True := trivial)
    | (go_at_call 6; have zz := K2; clear K2 zz; refine (copied_any _ es1 _ (HR1.out.up HBT.out) (by omega)).mono ?_; rintro e u2 ⟨vu, fu, rfl, hfu, hlu, hb2⟩
       have HFU := hide hfu
       have HLU := hide hlu
       have HLT2 := hide (HLT.out.below hb2)
       have HBW := hide (bel_up HBT.out hb2 HBT.out.size)
       have HTB := hide (HT.out.below HBW.out)
       clear hfu hlu hb2 HLT HBT
       have K3 : Hid True := trivial)
    | (go_at_call 7; have zz := K3; clear K3 zz; refine (own_packE _ _ vt ft es0 x HLT2.out HFT.out HLK0.out HX0.out HZ0.out HP0.out HTB.out).mono ?_; rintro e u3 ⟨rfl, hb⟩
       have HB3 := hide hb
       clear hb
       have K4 : Hid True := trivial)
    | (go_at_call 7; have zz := K4; clear K4 zz; refine (HPT.out _ _ vu fu (HLU.out.below HB3.out) HFU.out (HTB.out.below HB3.out)).mono ?_; rintro e u4 ⟨⟨ya, yn, yc, yy, rfl⟩, hb⟩
       have HB4 := hide (bel_up HB3.out hb HB3.out.size)
       clear hb HB3
       have K5 : Hid True := trivial)
    | (go_at_call 7; have zz := K5; clear K5 zz; refine (own_packE _ _ vt ft es0 x (HLT2.out.below HB4.out) HFT.out HLK0.out HX0.out HZ0.out HP0.out (HTB.out.below HB4.out)).mono ?_; rintro e u5 ⟨rfl, hb⟩
       have HB5 := hide (bel_up HB4.out hb HB4.out.size)
       clear hb HB4
       have K6 : Hid True := trivial)
    | (go_at_call 9; have zz := K6; clear K6 zz; refine (same_nil _).mono ?_; rintro e z9 ⟨rfl, hz9⟩; rw [hz9]; clear hz9))
  go_ret
  exact ⟨rfl, bel_up HBW.out HB5.out HBW.out.size⟩

set_option maxHeartbeats 4000000 in
set_option maxRecDepth 100000 in
theorem own_err1 (v0 v1 : Value) (es0 es1 : List Le) (row0 : List Int) (x : Int) (w : World) (h0 : RdL w w.heap.size v0 es0) (h1 : RdL w w.heap.size v1 es1) (hT : Tab w) (hp0 : packM (es0.map Le.l) = .ok row0) (hm0 : row0.length ≤ 4194300) (hp1 : packM (es1.map Le.l) = .error x) (hn0 : es0.length ≤ 200000) (hn1 : es1.length ≤ 200000) (hx1 : ∀ y ∈ es1, y.l.path.size ≤ 1048576 ∧ y.l.target.size ≤ 1048576 ∧ y.l.data.length ≤ 1048576) (hz1 : szL (es1.map Le.l) ≤ 38000000000000) :
    Calls Tryz.prog 3 #[v0, v1] w fun e w' => e = .returned (.bool true) ∧ Below w.heap.size w w' := by
  have hxne := packM_err _ _ hp1
  have HLK0 := hide h0.lok
  have HLK1 := hide h1.lok
  have HBY := hide (pack_open _ _ hp0 h0.lok).1
  have HT := hide hT
  have HP0 := hide hp0
  have HP1 := hide hp1
  have HR0 := hide h0
  have HR1 := hide h1
  have HX1 := hide hx1
  have HZ1 := hide hz1
  obtain ⟨m0, hl0⟩ : ∃ m0, row0.length = m0 := ⟨_, rfl⟩
  have HL0 := hide hl0
  rw [hl0] at hm0
  obtain ⟨a0, c0, hv0, -⟩ := h0.shape
  obtain ⟨a1, c1, hv1, -⟩ := h1.shape
  subst hv0
  subst hv1
  have hxb : (x != 0) = true := by simp [hxne]
  have K0 : Hid True := trivial
  clear h0 h1 hT hp0 hp1 hx1 hz1 hl0
  go_enter Tryz.func3, Tryz.ntmps3
  go_wp2_with (first
    | (go_at_call 8; refine (lno_any _ _).mono ?_; rintro e z9 ⟨rfl, hz9⟩; rw [hz9]; clear hz9)
    | (go_at_call 5; have zz := K0; clear K0 zz; refine (heads_any _ HT.out).mono ?_; rintro e u0 ⟨rfl, hb0⟩; have HB0 := hide hb0; clear hb0; have K1 : Hid True := trivial)
    | (go_at_call 6; have zz := K1; clear K1 zz; refine (copied_any _ es0 _ (HR0.out.up HB0.out) (by omega)).mono ?_; rintro e u1 ⟨vt, ft, rfl, hft, hlt, hb1⟩
       have HFT := hide hft
       have HLT := hide hlt
       have HBT := hide (bel_up HB0.out hb1 HB0.out.size)
       clear hft hlt hb1 HB0
       have K2 : Hid True := trivial)
    | (go_at_call 6; have zz := K2; clear K2 zz; refine (copied_any _ es1 _ (HR1.out.up HBT.out) (by omega)).mono ?_; rintro e u2 ⟨vu, fu, rfl, hfu, hlu, hb2⟩
       have HFU := hide hfu
       have HLU := hide hlu
       have HLT2 := hide (HLT.out.below hb2)
       have HBW := hide (bel_up HBT.out hb2 HBT.out.size)
       have HTB := hide (HT.out.below HBW.out)
       have HS2 := hide (OS.start u2)
       clear hfu hlu hb2 HLT HBT
       have K3 : Hid True := trivial)
    | (go_at_call 7; have zz := K3; clear K3 zz; refine (own_pack _ _ vt ft _ row0 HLT2.out HFT.out HLK0.out HP0.out (by rw [HL0.out]; omega) HTB.out).mono ?_; rintro e u3 ⟨g1, d1, rfl, ho, hb⟩
       rw [HL0.out] at ho ⊢
       have HS3 := hide (HS2.out.row hb HL0.out ho)
       clear ho hb HS2
       have K4 : Hid True := trivial)
    | (go_at_call 7; have zz := K4; clear K4 zz; refine (own_packE _ _ vu fu es1 x (HLU.out.below HS3.out.bB) HFU.out HLK1.out HX1.out HZ1.out HP1.out (HTB.out.below HS3.out.bB)).mono ?_; rintro e u4 ⟨rfl, hb⟩
       have HS4 := hide (HS3.out.up hb)
       clear hb HS3
       have K5 : Hid True := trivial)
    | (go_at_call 7; have zz := K5; clear K5 zz; refine (own_pack _ _ vt ft _ row0 (HLT2.out.below HS4.out.bB) HFT.out HLK0.out HP0.out (by rw [HL0.out]; omega) (HTB.out.below HS4.out.bB)).mono ?_; rintro e u5 ⟨g3, d3, rfl, ho, hb⟩
       rw [HL0.out] at ho ⊢
       have HS5 := hide (HS4.out.row hb HL0.out ho)
       clear ho hb HS4
       have K6 : Hid True := trivial)
    | (go_at_call 9; have zz := K6; clear K6 zz; refine (same_eq _ _ m0 _ _ row0 _ (own_all_reads (HS5.out.own (List.mem_cons_of_mem _ List.mem_cons_self) HL0.out) HBY.out) (own_all_reads (HS5.out.own List.mem_cons_self HL0.out) HBY.out)).mono ?_; rintro e z9 ⟨rfl, hz9⟩; rw [hz9]; clear hz9))
  go_ret
  exact ⟨rfl, bel_up HBW.out HS5.out.bB HBW.out.size⟩
theorem ownWalk (v0 : Value) (es0 : List Le) (v1 : Value) (es1 : List Le) (w : World) (h0 : RdL w w.heap.size v0 es0) (hs0 : 22 * ((es0.map Le.l).map wt).sum ≤ 23068672) (h1 : RdL w w.heap.size v1 es1) (hs1 : 22 * ((es1.map Le.l).map wt).sum ≤ 23068672) (hT : Tab w) :
    Calls Tryz.prog 3 #[v0, v1] w fun e w' => e = .returned (.bool true) ∧ Below w.heap.size w w' := by
  have len : ∀ es : List Le, 22 * ((es.map Le.l).map wt).sum ≤ 23068672 → es.length ≤ 200000 := by
    intro es h
    have key : ∀ l : List Lf, 7 * l.length ≤ (l.map wt).sum := by
      intro l
      induction l with
      | nil => exact Nat.le_refl _
      | cons x r ih =>
        rw [List.map_cons, List.sum_cons, List.length_cons]
        have : 7 ≤ wt x := by unfold wt; omega
        omega
    have := key (es.map Le.l)
    rw [List.length_map] at this
    omega
  have txt : ∀ es : List Le, 22 * ((es.map Le.l).map wt).sum ≤ 23068672 → ∀ y ∈ es, y.l.path.size ≤ 1048576 ∧ y.l.target.size ≤ 1048576 ∧ y.l.data.length ≤ 1048576 := by
    intro es h y hy
    have h9 := wt_mem (es.map Le.l) y.l (List.mem_map_of_mem hy)
    have h8 : wt y.l = 7 + y.l.path.size + y.l.target.size + y.l.data.length := rfl
    omega
  have big : ∀ (es : List Le) (row : List Int), 22 * ((es.map Le.l).map wt).sum ≤ 23068672 → packM (es.map Le.l) = .ok row → row.length ≤ 4194300 := by
    intro es row h hp
    have h2 := pack_most _ _ hp
    have h3 := most_wt (es.map Le.l)
    have h4 := mostS_tail (es.map Le.l)
    omega
  have z0 := sz_wt (es0.map Le.l)
  have z1 := sz_wt (es1.map Le.l)
  cases hp0 : packM (es0.map Le.l) with
  | error x => exact own_err0 v0 v1 es0 es1 x w h0 h1 hT hp0 (fun row1 h => big es1 row1 hs1 h) (len es0 hs0) (len es1 hs1) (txt es0 hs0) (txt es1 hs1) (by omega) (by omega)
  | ok row0 =>
    cases hp1 : packM (es1.map Le.l) with
    | error x => exact own_err1 v0 v1 es0 es1 row0 x w h0 h1 hT hp0 (big es0 row0 hs0 hp0) hp1 (len es0 hs0) (len es1 hs1) (txt es1 hs1) (by omega)
    | ok row1 => exact own_ok v0 v1 es0 es1 row0 row1 w h0 h1 hT hp0 hp1 (big es0 row0 hs0 hp0) (big es1 row1 hs1 hp1) (len es0 hs0) (len es1 hs1)
end Go.Proofs.YtdiifegljonojaaGreatDoor
namespace Go.Proofs.YtdiifegljonojaaGreatDoor.parcelOwn
open Go.ChangeShapes Go.WideShapes Go.ChangeAt Go.RowKit Go.Joins Go.Deep
set_option linter.unusedVariables false

theorem own : ownKnob Tryz.prog.godebug = none := by kernel_rfl
theorem laidOut : laidOutB Tryz.prog = true := by kernel_rfl
theorem gTab : Tryz.prog.globalNamed "shale/words.halves" = some 0 := by kernel_rfl
theorem gTabType : (Tryz.prog.globals[0]?).map (·.type) = some 95 := by kernel_rfl
theorem cells95 : Tryz.prog.cellsOf 95 = 16 := by kernel_rfl
theorem cells67 : Tryz.prog.cellsOf 67 = 1 := by kernel_rfl
theorem tabInts : ∀ i, i < 16 → ([0, 498536548, 997073096, 651767980, 1994146192, 1802195444, 1303535960, 1342533948, 3988292384, 4027552580, 3604390888, 3412177804, 2607071920, 2262029012, 2685067896, 3183342108] : List Int).getD i 0 = ((tab.getD i 0 : Nat) : Int) := by decide +kernel
theorem table {W : World} (h : laidMetH Tryz.prog Rows.parcelOwnUptoRow.laid W) : Tab W := by
  have h0 : laidMet Tryz.prog Rows.parcelOwnUptoRow.laid W := h
  have h1 := h0.tail
  have ht : Lib.TabIs Tryz.prog W "shale/words.halves" .u32 [0, 498536548, 997073096, 651767980, 1994146192, 1802195444, 1303535960, 1342533948, 3988292384, 4027552580, 3604390888, 3412177804, 2607071920, 2262029012, 2685067896, 3183342108] :=
    Lib.tabIs_of_head gTab gTabType Tryz.underlying95 Tryz.underlying67 cells67 cells95 h1
  intro i hi
  rw [ht.cell gTab i hi, tabInts i hi]

set_option maxHeartbeats 1000000 in
set_option maxRecDepth 100000 in
theorem contract (H : Type) (enc : TypeId × Value → H) (W : World) (base : Nat) (args : Array Value) (ds gs : List (DataW H)) (before : List MemPlace)
    (hval : ∀ (j : Nat) t v, Tryz.f3.params[j]? = some t → args[j]? = some v → Value.okWide Tryz.prog W .any base t v)
    (hW : DataW.Whole enc Tryz.prog Tryz.f3.params.toList Rows.parcelOwnSpec.vars false W args.toList ds gs before)
    (hL : laidMetH Tryz.prog Rows.parcelOwnUptoRow.laid W) (hk : Rows.uptoSmall H (ds ++ gs) = true) :
    Calls Tryz.prog 3 args W fun e W' => ∃ v, e = .returned v ∧ Rows.parcelOwnSpec.post enc Tryz.prog Tryz.f3 false true false false W args v W' := by
  have hW' := hW
  obtain ⟨pp, q, hA0, hV, rfl, hfz, hnd⟩ := hW
  have hA : DataW.TrodAll enc Tryz.prog W 0 (fun _ => true) true Tryz.f3.params.toList args.toList ds pp := hA0
  rw [Tryz.params3] at hA hval
  obtain ⟨v0, vs0, d0, ds0, p0, q0, hargs, rfl, rfl, h0, r0⟩ := trodAll_cons hA
  obtain ⟨v1, vs1, d1, ds1, p1, q1, rfl, rfl, rfl, h1, r1⟩ := trodAll_cons r0
  obtain ⟨rfl, rfl, rfl⟩ := trodAll_nil r1
  obtain rfl : args = #[v0, v1] := by cases args; simp_all
  obtain ⟨rfl, rfl⟩ := trodVars_none hV
  have k0 := h0
  have lt0 : ∀ x ∈ p0, x.block < W.heap.size := by obtain ⟨m, hm⟩ := k0; exact DataW.trod_lt m _ _ _ hm
  obtain ⟨a0, len0, cap0, rfl⟩ := okWide_slice Tryz.underlying22 (hval 0 22 v0 rfl rfl)
  obtain ⟨fuel0, hf0⟩ := h0
  obtain ⟨es0, rd0, sm0⟩ := open_leavesB hf0 (Nat.le_trans (bulk_mem _ d0 (by simp)) (of_decide_eq_true hk))
  have sm0 : ((es0.map Le.l).map wt).sum ≤ Rows.uptoBulk d0 := sm0
  have k1 := h1
  have lt1 : ∀ x ∈ p1, x.block < W.heap.size := by obtain ⟨m, hm⟩ := k1; exact DataW.trod_lt m _ _ _ hm
  obtain ⟨a1, len1, cap1, rfl⟩ := okWide_slice Tryz.underlying22 (hval 1 22 v1 rfl rfl)
  obtain ⟨fuel1, hf1⟩ := h1
  obtain ⟨es1, rd1, sm1⟩ := open_leavesB hf1 (Nat.le_trans (bulk_mem _ d1 (by simp)) (of_decide_eq_true hk))
  have sm1 : ((es1.map Le.l).map wt).sum ≤ Rows.uptoBulk d1 := sm1
  clear hA0
  have tot := of_decide_eq_true hk
  simp only [List.append_nil, Rows.uptoBulkAll] at tot
  refine (ownWalk (.slice a0 len0 cap0) es0 (.slice a1 len1 cap1) es1 W rd0 (by omega) rd1 (by omega) (table hL)).mono fun e W' ⟨he, bel⟩ => ?_
  subst he
  exact ⟨_, rfl, _, _, _, [], _, [], hW', trodAll_mk1 (shut_bool Tryz.underlying4 _), (trodAll_cons_mk (Below.trod laidOut (by kernel_rfl) (of_decide_eq_true (by kernel_rfl)) k0 bel lt0) (trodAll_cons_mk (Below.trod laidOut (by kernel_rfl) (of_decide_eq_true (by kernel_rfl)) k1 bel lt1) trodAll_mk0)), rfl, bel.frame _, fun h => by cases h⟩

/-- What the text lays, into a table's block. -/
def layTab (cs : Array Value) : Obj → Obj
  | .cells _ t frozen => .cells cs t frozen
  | o => o
def th : Array Value := #[.int .u32 0, .int .u32 498536548, .int .u32 997073096, .int .u32 651767980, .int .u32 1994146192, .int .u32 1802195444, .int .u32 1303535960, .int .u32 1342533948, .int .u32 3988292384, .int .u32 4027552580, .int .u32 3604390888, .int .u32 3412177804, .int .u32 2607071920, .int .u32 2262029012, .int .u32 2685067896, .int .u32 3183342108]
def ta : Array Value := #[.int .u8 128, .int .u8 191, .int .u8 160, .int .u8 191, .int .u8 128, .int .u8 159, .int .u8 144, .int .u8 191, .int .u8 128, .int .u8 143, .int .u8 0, .int .u8 0, .int .u8 0, .int .u8 0, .int .u8 0, .int .u8 0, .int .u8 0, .int .u8 0, .int .u8 0, .int .u8 0, .int .u8 0, .int .u8 0, .int .u8 0, .int .u8 0, .int .u8 0, .int .u8 0, .int .u8 0, .int .u8 0, .int .u8 0, .int .u8 0, .int .u8 0, .int .u8 0]
def tf : Array Value := (Go.Pinned.utf8FirstZ.map fun z : Nat => Value.int .u8 (z : Int)).toArray
theorem laid_met (os : Os) : laidMet Tryz.prog Rows.parcelOwnUptoRow.laid (({ (World.holding Tryz.prog os ⟨#[], #[], []⟩) with heap := (((World.holding Tryz.prog os ⟨#[], #[], []⟩).heap.modify 0 (layTab th)).modify 2 (layTab tf)).modify 3 (layTab ta) } : World).forCall (fun _ _ => 0) ⟨#[], #[.slice none 0 0, .slice none 0 0], []⟩).memory :=
  laidMet_of_run' 8 (by kernel_rfl) (by kernel_rfl)
theorem reads (os : Os) {H : Type} (enc : TypeId × Value → H) : ∃ places, DataW.whole enc Tryz.prog (({ (World.holding Tryz.prog os ⟨#[], #[], []⟩) with heap := (((World.holding Tryz.prog os ⟨#[], #[], []⟩).heap.modify 0 (layTab th)).modify 2 (layTab tf)).modify 3 (layTab ta) } : World).forCall (fun _ _ => 0) ⟨#[], #[.slice none 0 0, .slice none 0 0], []⟩).memory Tryz.f3.params.toList Rows.parcelOwnSpec.vars false (#[.slice none 0 0, .slice none 0 0] : Array Value).toList 8 = some ([.nil, .nil], [], places) :=
  ⟨[], by kernel_rfl⟩

set_option maxRecDepth 100000 in
theorem lifted (os : Os) (started : os.Started) (H : Type) (enc : TypeId × Value → H) (F : Stop.Interp) :
    ReturnsInHanded {} Tryz.checked os 3 .any ((Rows.OpenSpec.upto Rows.parcelOwnSpec).preRow enc Tryz.prog Tryz.f3 Rows.parcelOwnUptoRow.domain false Rows.parcelOwnUptoRow.laid) (((Rows.OpenSpec.upto Rows.parcelOwnSpec).at F).post enc Tryz.prog Tryz.f3 false true false false) := by
  obtain ⟨places, hx⟩ := reads os enc
  refine returnsInHanded_of_row (C := Tryz.checked) (s := Rows.OpenSpec.upto Rows.parcelOwnSpec) own started (by kernel_rfl) Tryz.func3
    (witness_row_at (enc := enc) (C := Tryz.checked) false ({ (World.holding Tryz.prog os ⟨#[], #[], []⟩) with heap := (((World.holding Tryz.prog os ⟨#[], #[], []⟩).heap.modify 0 (layTab th)).modify 2 (layTab tf)).modify 3 (layTab ta) } : World) #[.slice none 0 0, .slice none 0 0] rfl (by kernel_rfl) (by kernel_rfl) (by kernel_rfl)
      (OpenSpec.preRow_of_cond 8 hx (by kernel_rfl) (fun k hk => by cases hk; kernel_rfl) (by kernel_rfl) (laid_met os))) ?_
  intro W base args ds gs before hval hW _ hcnd hsz hL _ _
  exact contract H enc W base args ds gs before hval hW hL (hcnd _ rfl)

theorem said : Rows.ParcelOwnUptoSaid :=
  OpenClaim.holds_of_cond 3 Tryz.f3 rfl rfl rfl rfl rfl rfl rfl ⟨rfl, rfl, rfl, rfl, rfl⟩ rfl rfl rfl rfl rfl (by kernel_rfl) Tryz.func3 (by kernel_rfl)
    (of_decide_eq_true (by kernel_rfl)) (by unfold Func.isWrapper; first | (rw [if_pos (by decide +kernel)]; kernel_rfl) | (rw [if_neg (by decide +kernel)]; exact ⟨rfl, rfl⟩))
    (fun os started H enc _ F => by rw [OpenClaim.pre_eq_preRow]; exact lifted os started H enc F)

theorem plain (f : FuncId) (fn : Func) (hf : Tryz.pinned.checked.prog.funcNamed "shale/shalelaw18.ParcelOwn" = some f) (hfn : Tryz.pinned.checked.prog.funcs[f]? = some fn) :
    true = Tryz.pinned.checked.prog.looks [] ∧ ∀ (j : Nat) t, fn.params[j]? = some t → Tryz.pinned.checked.prog.wantsStandIn t = false := by
  obtain rfl : f = 3 := Option.some.inj ((show Tryz.prog.funcNamed "shale/shalelaw18.ParcelOwn" = some 3 by kernel_rfl).symm.trans hf) |>.symm
  obtain rfl : fn = Tryz.f3 := (Option.some.inj (Tryz.func3.symm.trans hfn)).symm
  refine ⟨by kernel_rfl, fun j t ht => ?_⟩
  rw [Tryz.params3] at ht
  obtain rfl : t = 22 := by simpa using Array.mem_of_getElem? ht
  exact (show Tryz.prog.wantsStandIn 22 = false by kernel_rfl)
end Go.Proofs.YtdiifegljonojaaGreatDoor.parcelOwn
namespace Go.Proofs.YtdiifegljonojaaGreatDoor
theorem parcelOwnUpto_card : Rows.ParcelOwnUptoCardSaid :=
  Claim7.holds_tied_plain_at .later [] _ _ _ _ parcelOwn.said (fun _ h => by cases h) (by kernel_rfl) (fun _ h => by cases h) parcelOwnUpto_row_tie rfl ⟨rfl, rfl⟩ (by kernel_rfl) rfl parcelOwn.plain (by kernel_rfl)
#print axioms parcelOwnUpto_card
end Go.Proofs.YtdiifegljonojaaGreatDoor
