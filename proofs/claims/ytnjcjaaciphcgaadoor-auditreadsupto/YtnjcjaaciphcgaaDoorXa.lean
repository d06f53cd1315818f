/-
  SEAT YtnjcjaaciphcgaaDoor: rows of findings that have memory of their own: one that is grown of another.
-/
import Derived.Test.YtnjcjaaciphcgaaDoorUf
import Derived.Maps.AppendAt
namespace Go.Proofs.YtnjcjaaciphcgaaDoor
open Go.RowKit Go.Sort
set_option linter.unusedVariables false

/-- A row that is grown of another one: the other one stands. -/
structure Grown (u w : World) (B : Nat) (vi v : Value) (n k : Nat) (F X : List Fd) : Prop where
  old : w.ownsRow B 29 4 vi n (flatF F)
  new : w.ownsRow B 29 4 v (n + k) (flatF (F ++ X))
  place : (∃ g c, v = .slice (some ⟨g, 0, none⟩) (n + k) c ∧ vi = .slice (some ⟨g, 0, none⟩) n c) ∨ ∀ g, v.ownBlock = some g → u.heap.size ≤ g
  grow : u.grownBy w vi.ownBlock
  was : ∀ g, vi.ownBlock = some g → g < u.heap.size

theorem grownBy_out {u w w' : World} {r s : Option Nat} (h : u.grownBy w r) (k : w.grownBy w' s) (hs : ∀ g, s = some g → some g ≠ r → u.heap.size ≤ g) : u.grownBy w' r :=
  ⟨k.os.trans h.os, k.tape.trans h.tape, k.output.trans h.output, Nat.le_trans h.size k.size, fun i hi hr => by
    rw [k.block i (Nat.lt_of_lt_of_le hi h.size) (fun e => by have := hs i e.symm hr; omega)]
    exact h.block i hi hr⟩
theorem grown_tr' {a b c : World} {r : Option Nat} (h : a.grownBy b r) (k : b.grownBy c r) : a.grownBy c r :=
  ⟨k.os.trans h.os, k.tape.trans h.tape, k.output.trans h.output, Nat.le_trans h.size k.size, fun i hi hne => (k.block i (Nat.lt_of_lt_of_le hi h.size) hne).trans (h.block i hi hne)⟩
theorem own_front {w : World} {B g n m cap : Nat} {xs ys : List Value} (h : w.ownsRow B 29 4 (.slice (some ⟨g, 0, none⟩) (n + m) cap) (n + m) (xs ++ ys)) (hx : xs.length = n * 4) : w.ownsRow B 29 4 (.slice (some ⟨g, 0, none⟩) n cap) n xs := by
  refine ⟨hx, ?_⟩
  rcases h.2 with ⟨h0, _⟩ | ⟨g', cap', cur, hv, hB, hg, hnc, hcm, hcs, htk⟩
  · cases h0
  · cases hv
    refine Or.inr ⟨g, cap, cur, rfl, hB, hg, by omega, hcm, hcs, ?_⟩
    have h1 : cur.toList.take (n * 4) = (cur.toList.take ((n + m) * 4)).take (n * 4) := by rw [List.take_take, Nat.min_eq_left (by omega)]
    rw [h1, htk, List.take_left' hx]
theorem news_F (u : World) (G : Fd) : ∀ j x, (flatF [G])[j]? = some x → (u.alloc (.cells #[.int .i64 G.k, .int .i64 G.b, .int .i64 G.p, .int .i64 G.o] 29)).cell? ((⟨u.heap.size, 0, none⟩ : Addr).add j) = some x := by
  intro j x hj
  rw [plain_add, Nat.zero_add]
  have h9 := heap_alloc_new u (.cells #[.int .i64 G.k, .int .i64 G.b, .int .i64 G.p, .int .i64 G.o] 29)
  simp only [World.cell?, h9]
  match j, hj with
  | 0, hj => simpa [flatF, Fd.cells] using hj
  | 1, hj => simpa [flatF, Fd.cells] using hj
  | 2, hj => simpa [flatF, Fd.cells] using hj
  | 3, hj => simpa [flatF, Fd.cells] using hj
  | j + 4, hj => simp [flatF, Fd.cells] at hj

theorem run_grow (ty : TypeId) {u w : World} {B : Nat} {vi v : Value} {n k : Nat} {F X : List Fd} (h : Grown u w B vi v n k F X) (hB : B ≤ u.heap.size) (G : Fd) (hn : n + k ≤ 1000000000000) :
    ∃ v' w', (Builtin.append_ #[23, 23] ty #[v, .slice (some ⟨w.heap.size, 0, none⟩) 1 1]).run Tryd.prog (w.alloc (.cells #[.int .i64 G.k, .int .i64 G.b, .int .i64 G.p, .int .i64 G.o] 29)) = .ok v' w' ∧ Grown u w' B vi v' n (k + 1) F (X ++ [G]) ∧ Below B w w' := by
  obtain ⟨i0, hi, hz0, hz1, hz2⟩ := info_parts info29
  obtain ⟨h1, h2, h3, h4, h5⟩ := h
  obtain ⟨O, hO⟩ : ∃ O, Obj.cells #[.int .i64 G.k, .int .i64 G.b, .int .i64 G.p, .int .i64 G.o] 29 = O := ⟨_, rfl⟩
  have hnew := news_F w G
  rw [hO] at hnew ⊢
  have hsz : B ≤ (w.alloc O).heap.size := by have := h4.size; simp; omega
  have ga : u.grownBy (w.alloc O) vi.ownBlock := grownBy_out h4 (World.grownBy_alloc w _ none) (fun g e => by cases e)
  have h1a := h1.alloc O
  have h2a := h2.alloc O
  have hbel0 : Below B w (w.alloc O) := (Below.refl B w).alloc (by have := h4.size; omega) _
  have hlast : ((F ++ X) ++ [G]) = F ++ (X ++ [G]) := List.append_assoc ..
  by_cases hv : v = .slice none 0 0
  · obtain ⟨v', w', hr, ho, hg, _, hp⟩ := run_append_own_at (P := Tryd.prog) (w := w.alloc O) B 23 ty 29 i0 _ 4 32 Tryd.underlying23 hi hz0 hz1 hz2 rfl (by decide) v (n + k) _ h2a ⟨w.heap.size, 0, none⟩ 1 1 (flatF [G]) rfl hnew (flatF_one _) (by simp [maxLen]; omega) (by omega) hsz
    subst hv
    have hvi : vi.ownBlock = none ∨ vi.ownBlock ≠ none := by cases vi.ownBlock <;> simp
    have hown : w'.ownsRow B 29 4 vi n (flatF F) := by
      refine h1a.kept hg ?_
      simp only [Value.ownBlock]
      exact hvi
    refine ⟨v', w', hr, ⟨hown, ?_, Or.inr ?_, grownBy_out ga hg (fun g e => by cases e), h5⟩, hbel0.grown hg hsz (fun g e => by cases e)⟩
    · rw [← hlast, flatF_append]; exact ho
    · intro g e
      rcases hp with hp | hp
      · rw [hp] at e; cases e
      · rw [hp] at e; cases e
        have := h4.size
        simp
        omega
  · obtain ⟨g, c, cur, rfl, hBg, hgc, hnc, hcm, hcs, htk⟩ : ∃ g cap cur, v = .slice (some ⟨g, 0, none⟩) (n + k) cap ∧ B ≤ g ∧ w.heap[g]? = some (.cells cur 29 (0, 0)) ∧ n + k ≤ cap ∧ cap ≤ maxLen ∧ cur.size = cap * 4 ∧ cur.toList.take ((n + k) * 4) = flatF (F ++ X) := by
      rcases h2.2 with ⟨h, _⟩ | h
      · exact absurd h hv
      · exact h
    by_cases hroom : n + k + 1 ≤ c
    · obtain ⟨w', r1, r2, r3⟩ := run_append_fits (P := Tryd.prog) (w.alloc O) B 23 ty 29 i0 4 Tryd.underlying23 hi hz1 g (n + k) c _ h2a ⟨w.heap.size, 0, none⟩ 1 1 (flatF [G]) rfl hnew (flatF_one _) hroom
      have hout : ∀ q, (some g : Option Nat) = some q → some q ≠ vi.ownBlock → u.heap.size ≤ q := by
        intro q e hne
        cases e
        rcases h3 with ⟨g', c', e1, e2⟩ | h3
        · cases e1
          rw [e2] at hne
          exact absurd rfl hne
        · exact h3 g rfl
      refine ⟨_, w', r1, ⟨?_, ?_, ?_, grownBy_out ga r3 hout, h5⟩, hbel0.grown r3 hsz (fun q e => by cases e; exact hBg)⟩
      · rcases h3 with ⟨g', c', e1, e2⟩ | h3
        · cases e1
          rw [e2]
          rw [flatF_append, List.append_assoc, Nat.add_assoc] at r2
          exact own_front r2 h1.1
        · refine h1a.kept r3 ?_
          by_cases hb : vi.ownBlock = some g
          · have := h3 g rfl
            have := h5 g hb
            omega
          · exact Or.inr hb
      · rw [← hlast, flatF_append]; exact r2
      · rcases h3 with ⟨g', c', e1, e2⟩ | h3
        · cases e1
          exact Or.inl ⟨g, c, rfl, e2⟩
        · exact Or.inr fun q e => h3 q e
    · have hlx : (flatF (F ++ X)).length = (n + k) * 4 := h2.1
      have holds : ∀ j q, (flatF (F ++ X))[j]? = some q → (w.alloc O).cell? ((⟨g, 0, none⟩ : Addr).add j) = some q := World.ownsRow.cells h2a (g := g) rfl
      have hr := run_append_grow (P := Tryd.prog) (w.alloc O) 23 ty 29 i0 _ Tryd.underlying23 hi hz0 ⟨g, 0, none⟩ (n + k) c (flatF (F ++ X)) (by rw [hlx, hz1]) holds ⟨w.heap.size, 0, none⟩ 1 1 (flatF [G]) (by rw [hz1]; rfl) hnew (by omega) (by omega) (growslice_fits (by omega) (by rw [hz2]; omega))
      have hge := grownCap_ge (w.alloc O) (n + k + 1) c 29
      have hcm2 : grownCap (w.alloc O) (n + k + 1) c 29 ≤ maxLen := grownCap_le_maxLen _ (n + k + 1) c 29 (by simp [maxLen]; omega)
      have gb : ∀ o, (w.alloc O).grownBy ((w.alloc O).drew.alloc o) none := fun o => ⟨rfl, rfl, rfl, by simp, fun q hq _ => Below.heap_alloc (w.alloc O).drew o q hq⟩
      have hkeep : vi.ownBlock = none ∨ vi.ownBlock ≠ none := by cases vi.ownBlock <;> simp
      have hlen1 : (flatF [G]).length = 4 := rfl
      refine ⟨_, _, hr, ⟨h1a.kept (gb _) hkeep, ⟨?_, .inr ⟨(w.alloc O).heap.size, _, _, rfl, hsz, heap_alloc_new (w.alloc O).drew _, hge, hcm2, ?_, ?_⟩⟩, Or.inr ?_, grownBy_out ga (gb _) (fun g e => by cases e), h5⟩, hbel0.grown (gb _) hsz (fun q e => by cases e)⟩
      · rw [← hlast, flatF_append, List.length_append, hlx, hlen1]; omega
      · simp only [Array.size_append, List.size_toArray, size_zeroCells, hlx, Value.cells, hlen1]
        simp
        omega
      · simp only [Array.toList_append, List.append_assoc]
        rw [← List.append_assoc, List.take_left' (by rw [List.length_append, hlx, hlen1]; omega), ← hlast, flatF_append (F ++ X)]
      · intro q e
        cases e
        have := h4.size
        simp
        omega

theorem grown_start {w : World} {B n : Nat} {v : Value} {F : List Fd} (h : w.ownsRow B 29 4 v n (flatF F)) : Grown w w B v v n 0 F [] := by
  refine ⟨h, by simpa using h, ?_, World.grownBy.refl _ _, fun g hg => (h.lt g hg).2⟩
  rcases h.2 with ⟨rfl, _⟩ | ⟨g, cap, cur, rfl, _⟩
  · exact Or.inr fun g e => by cases e
  · exact Or.inl ⟨g, cap, rfl, rfl⟩

theorem wpList_grow {u w : World} {ops : Array Oper} {rest : List Oper} {o : Oper} {a : Act} {Q : Exit → Act → World → Prop} (hgd : o.guard = none) (s x : Operand)
    (ho : o.op = .call { callee := .builtin .append, args := #[s, x], argTypes := #[23, 23] })
    {B : Nat} {vi v : Value} {n k : Nat} {F X : List Fd} (h : Grown u w B vi v n k F X) (hB : B ≤ u.heap.size) (G : Fd) (hn : n + k ≤ 1000000000000)
    (hs : a.eval s = v) (hx : a.eval x = .slice (some ⟨w.heap.size, 0, none⟩) 1 1)
    (hk : ∀ v' w', Grown u w' B vi v' n (k + 1) F (X ++ [G]) → Below B w w' → wpList Tryd.prog ops Q rest (a.put o.dst v') w') : wpList Tryd.prog ops Q (o :: rest) a (w.alloc (.cells #[.int .i64 G.k, .int .i64 G.b, .int .i64 G.p, .int .i64 G.o] 29)) := by
  obtain ⟨v', w', hr, h1, h2⟩ := run_grow o.type h hB G hn
  refine wpList_plain hgd fun K hK => ?_
  unfold Oper.wp
  simp [execOp, ho, resolve, invoke, builtin, hs, hx, hr, Result.andThen]
  exact hK _ _ (hk v' w' h1 h2)

/-- m reports in a list at the block G, their findings each in a block of its own. -/
structure Apart (w : World) (B G m : Nat) (vs : Nat → Value) (ns : Nat → Nat) (X : Nat → List Fd) : Prop where
  outer : ∀ i, i < m → w.cell? ⟨G, i * 7 + 6, none⟩ = some (vs i)
  small : ∀ i, i < m → ns i ≤ 100000000000
  rows : ∀ i, i < m → w.ownsRow B 29 4 (vs i) (ns i) (flatF (X i))
  ne : ∀ i j, i < m → j < m → i ≠ j → ∀ g, (vs i).ownBlock = some g → (vs j).ownBlock ≠ some g
  neG : ∀ i, i < m → (vs i).ownBlock ≠ some G
  hG : G < w.heap.size

theorem Apart.move {w w' : World} {B G m : Nat} {vs : Nat → Value} {ns : Nat → Nat} {X Y : Nat → List Fd} (h : Apart w B G m vs ns X) (i : Nat) (hi : i < m) (hg : w.grownBy w' (vs i).ownBlock)
    (hr : w'.ownsRow B 29 4 (vs i) (ns i) (flatF (Y i))) (hY : ∀ j, j < m → j ≠ i → Y j = X j) : Apart w' B G m vs ns Y := by
  obtain ⟨h1, h2, h3, h4, h5, h6⟩ := h
  refine ⟨fun j hj => ?_, h2, fun j hj => ?_, h4, h5, Nat.lt_of_lt_of_le h6 hg.size⟩
  · rw [World.cell?_of_block (hg.block G h6 (fun e => h5 i hi e.symm))]
    exact h1 j hj
  · by_cases e : j = i
    · subst e; exact hr
    · rw [hY j hj e]
      refine (h3 j hj).kept hg ?_
      cases hb : (vs j).ownBlock with
      | none => exact Or.inl rfl
      | some g => exact Or.inr (fun e2 => h4 j i hj hi e g hb e2.symm)
theorem Apart.drewN {w : World} {B G m : Nat} {vs : Nat → Value} {ns : Nat → Nat} {X : Nat → List Fd} (h : Apart w B G m vs ns X) (q : Nat) : Apart (w.drewN q) B G m vs ns X := by
  obtain ⟨h1, h2, h3, h4, h5, h6⟩ := h
  exact ⟨fun i hi => by simpa using h1 i hi, h2, fun i hi => h3 i hi, h4, h5, h6⟩
theorem own_formF {w : World} {B n : Nat} {v : Value} {xs : List Value} (h : w.ownsRow B 29 4 v n xs) : ∃ a c, v = .slice a n c := by
  rcases h.2 with ⟨hv, h0⟩ | ⟨g, cap, cur, hv, _⟩
  · exact ⟨none, 0, by rw [hv, h0]⟩
  · exact ⟨_, _, hv⟩

/-- The mark of the report i. -/
def mk (i : Nat) : Fd := ⟨1000 + (i : Int), 0, 0, 0⟩
def fillT (i k : Nat) (xs : List Fd) : List Fd := List.replicate k (mk i) ++ xs.drop k
theorem fillT_step (i k : Nat) (xs : List Fd) (h : k < xs.length) : (fillT i k xs).set k (mk i) = fillT i (k + 1) xs := by
  unfold fillT
  rw [List.set_append_right _ _ (by simp), List.length_replicate, Nat.sub_self, List.drop_eq_getElem_cons h, List.set_cons_zero, List.replicate_succ']
  simp
def markT (i n : Nat) : List Fd := List.replicate n (mk i)
theorem fillT_all (i n : Nat) (xs : List Fd) (h : xs.length = n) : fillT i n xs = markT i n := by
  unfold fillT markT
  rw [List.drop_of_length_le (by omega), List.append_nil]
theorem fillT_length (i k : Nat) (xs : List Fd) (h : k ≤ xs.length) : (fillT i k xs).length = xs.length := by
  unfold fillT
  simp
  omega
/-- The rows when the first i are filled. -/
def part1 (ns : Nat → Nat) (X : Nat → List Fd) (i : Nat) : Nat → List Fd := fun j => if j < i then markT j (ns j) else X j

end Go.Proofs.YtnjcjaaciphcgaaDoor
