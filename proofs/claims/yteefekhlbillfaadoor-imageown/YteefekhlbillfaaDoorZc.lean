/-
  SEAT YteefekhlbillfaaDoor: Zc, of several texts.
-/
import Derived.Test.YteefekhlbillfaaDoorUe
import Derived.Maps.AppendAt
namespace Go.Proofs.YteefekhlbillfaaDoor
open Go.RowKit
set_option linter.unusedVariables false

/-- A row that is grown of another one: the other one stands. -/
structure GrownP (u w : World) (B : Nat) (vi v : Value) (n k : Nat) (F X : List Pl) : Prop where
  old : w.ownsRow B 40 2 vi n (flatP F)
  new : w.ownsRow B 40 2 v (n + k) (flatP (F ++ X))
  place : (∃ g c, v = .slice (some ⟨g, 0, none⟩) (n + k) c ∧ vi = .slice (some ⟨g, 0, none⟩) n c) ∨ ∀ g, v.ownBlock = some g → u.heap.size ≤ g
  grow : u.grownBy w vi.ownBlock
  was : ∀ g, vi.ownBlock = some g → g < u.heap.size

theorem grownBy_outP {u w w' : World} {r s : Option Nat} (h : u.grownBy w r) (k : w.grownBy w' s) (hs : ∀ g, s = some g → some g ≠ r → u.heap.size ≤ g) : u.grownBy w' r :=
  ⟨k.os.trans h.os, k.tape.trans h.tape, k.output.trans h.output, Nat.le_trans h.size k.size, fun i hi hr => by
    rw [k.block i (Nat.lt_of_lt_of_le hi h.size) (fun e => by have := hs i e.symm hr; omega)]
    exact h.block i hi hr⟩
theorem grown_tr' {a b c : World} {r : Option Nat} (h : a.grownBy b r) (k : b.grownBy c r) : a.grownBy c r :=
  ⟨k.os.trans h.os, k.tape.trans h.tape, k.output.trans h.output, Nat.le_trans h.size k.size, fun i hi hne => (k.block i (Nat.lt_of_lt_of_le hi h.size) hne).trans (h.block i hi hne)⟩
theorem own_frontP {w : World} {B g n m cap : Nat} {xs ys : List Value} (h : w.ownsRow B 40 2 (.slice (some ⟨g, 0, none⟩) (n + m) cap) (n + m) (xs ++ ys)) (hx : xs.length = n * 2) : w.ownsRow B 40 2 (.slice (some ⟨g, 0, none⟩) n cap) n xs := by
  refine ⟨hx, ?_⟩
  rcases h.2 with ⟨h0, _⟩ | ⟨g', cap', cur, hv, hB, hg, hnc, hcm, hcs, htk⟩
  · cases h0
  · cases hv
    refine Or.inr ⟨g, cap, cur, rfl, hB, hg, by omega, hcm, hcs, ?_⟩
    have h1 : cur.toList.take (n * 2) = (cur.toList.take ((n + m) * 2)).take (n * 2) := by rw [List.take_take, Nat.min_eq_left (by omega)]
    rw [h1, htk, List.take_left' hx]
theorem news_P (u : World) (G : Pl) : ∀ j x, (flatP [G])[j]? = some x → (u.alloc (.cells #[.int .i64 G.x, .int .i64 G.y] 40)).cell? ((⟨u.heap.size, 0, none⟩ : Addr).add j) = some x := by
  intro j x hj
  rw [plain_add, Nat.zero_add]
  have h9 := heap_alloc_new u (.cells #[.int .i64 G.x, .int .i64 G.y] 40)
  simp only [World.cell?, h9]
  match j, hj with
  | 0, hj => simpa [flatP, Pl.cells] using hj
  | 1, hj => simpa [flatP, Pl.cells] using hj
  | j + 2, hj => simp [flatP, Pl.cells] at hj

theorem run_growP (ty : TypeId) {u w : World} {B : Nat} {vi v : Value} {n k : Nat} {F X : List Pl} (h : GrownP u w B vi v n k F X) (hB : B ≤ u.heap.size) (G : Pl) (hn : n + k ≤ 1000000000000) :
    ∃ v' w', (Builtin.append_ #[50, 50] ty #[v, .slice (some ⟨w.heap.size, 0, none⟩) 1 1]).run Tryd.prog (w.alloc (.cells #[.int .i64 G.x, .int .i64 G.y] 40)) = .ok v' w' ∧ GrownP u w' B vi v' n (k + 1) F (X ++ [G]) ∧ Below B w w' := by
  obtain ⟨i0, hi, hz0, hz1, hz2⟩ := info_parts info40
  obtain ⟨h1, h2, h3, h4, h5⟩ := h
  obtain ⟨O, hO⟩ : ∃ O, Obj.cells #[.int .i64 G.x, .int .i64 G.y] 40 = O := ⟨_, rfl⟩
  have hnew := news_P w G
  rw [hO] at hnew ⊢
  have hsz : B ≤ (w.alloc O).heap.size := by have := h4.size; simp; omega
  have ga : u.grownBy (w.alloc O) vi.ownBlock := grownBy_outP h4 (World.grownBy_alloc w _ none) (fun g e => by cases e)
  have h1a := h1.alloc O
  have h2a := h2.alloc O
  have hbel0 : Below B w (w.alloc O) := (Below.refl B w).alloc (by have := h4.size; omega) _
  have hlast : ((F ++ X) ++ [G]) = F ++ (X ++ [G]) := List.append_assoc ..
  by_cases hv : v = .slice none 0 0
  · obtain ⟨v', w', hr, ho, hg, _, hp⟩ := run_append_own_at (P := Tryd.prog) (w := w.alloc O) B 50 ty 40 i0 _ 2 16 Tryd.underlying50 hi hz0 hz1 hz2 rfl (by decide) v (n + k) _ h2a ⟨w.heap.size, 0, none⟩ 1 1 (flatP [G]) rfl hnew (flatP_one _) (by simp [maxLen]; omega) (by omega) hsz
    subst hv
    have hvi : vi.ownBlock = none ∨ vi.ownBlock ≠ none := by cases vi.ownBlock <;> simp
    have hown : w'.ownsRow B 40 2 vi n (flatP F) := by
      refine h1a.kept hg ?_
      simp only [Value.ownBlock]
      exact hvi
    refine ⟨v', w', hr, ⟨hown, ?_, Or.inr ?_, grownBy_outP ga hg (fun g e => by cases e), h5⟩, hbel0.grown hg hsz (fun g e => by cases e)⟩
    · rw [← hlast, flatP_append]; exact ho
    · intro g e
      rcases hp with hp | hp
      · rw [hp] at e; cases e
      · rw [hp] at e; cases e
        have := h4.size
        simp
        omega
  · obtain ⟨g, c, cur, rfl, hBg, hgc, hnc, hcm, hcs, htk⟩ : ∃ g cap cur, v = .slice (some ⟨g, 0, none⟩) (n + k) cap ∧ B ≤ g ∧ w.heap[g]? = some (.cells cur 40 (0, 0)) ∧ n + k ≤ cap ∧ cap ≤ maxLen ∧ cur.size = cap * 2 ∧ cur.toList.take ((n + k) * 2) = flatP (F ++ X) := by
      rcases h2.2 with ⟨h, _⟩ | h
      · exact absurd h hv
      · exact h
    by_cases hroom : n + k + 1 ≤ c
    · obtain ⟨w', r1, r2, r3⟩ := run_append_fits (P := Tryd.prog) (w.alloc O) B 50 ty 40 i0 2 Tryd.underlying50 hi hz1 g (n + k) c _ h2a ⟨w.heap.size, 0, none⟩ 1 1 (flatP [G]) rfl hnew (flatP_one _) hroom
      have hout : ∀ q, (some g : Option Nat) = some q → some q ≠ vi.ownBlock → u.heap.size ≤ q := by
        intro q e hne
        cases e
        rcases h3 with ⟨g', c', e1, e2⟩ | h3
        · cases e1
          rw [e2] at hne
          exact absurd rfl hne
        · exact h3 g rfl
      refine ⟨_, w', r1, ⟨?_, ?_, ?_, grownBy_outP ga r3 hout, h5⟩, hbel0.grown r3 hsz (fun q e => by cases e; exact hBg)⟩
      · rcases h3 with ⟨g', c', e1, e2⟩ | h3
        · cases e1
          rw [e2]
          rw [flatP_append, List.append_assoc, Nat.add_assoc] at r2
          exact own_frontP r2 h1.1
        · refine h1a.kept r3 ?_
          by_cases hb : vi.ownBlock = some g
          · have := h3 g rfl
            have := h5 g hb
            omega
          · exact Or.inr hb
      · rw [← hlast, flatP_append]; exact r2
      · rcases h3 with ⟨g', c', e1, e2⟩ | h3
        · cases e1
          exact Or.inl ⟨g, c, rfl, e2⟩
        · exact Or.inr fun q e => h3 q e
    · have hlx : (flatP (F ++ X)).length = (n + k) * 2 := h2.1
      have holds : ∀ j q, (flatP (F ++ X))[j]? = some q → (w.alloc O).cell? ((⟨g, 0, none⟩ : Addr).add j) = some q := World.ownsRow.cells h2a (g := g) rfl
      have hr := run_append_grow (P := Tryd.prog) (w.alloc O) 50 ty 40 i0 _ Tryd.underlying50 hi hz0 ⟨g, 0, none⟩ (n + k) c (flatP (F ++ X)) (by rw [hlx, hz1]) holds ⟨w.heap.size, 0, none⟩ 1 1 (flatP [G]) (by rw [hz1]; rfl) hnew (by omega) (by omega) (growslice_fits (by omega) (by rw [hz2]; omega))
      have hge := grownCap_ge (w.alloc O) (n + k + 1) c 40
      have hcm2 : grownCap (w.alloc O) (n + k + 1) c 40 ≤ maxLen := grownCap_le_maxLen _ (n + k + 1) c 40 (by simp [maxLen]; omega)
      have gb : ∀ o, (w.alloc O).grownBy ((w.alloc O).drew.alloc o) none := fun o => ⟨rfl, rfl, rfl, by simp, fun q hq _ => Below.heap_alloc (w.alloc O).drew o q hq⟩
      have hkeep : vi.ownBlock = none ∨ vi.ownBlock ≠ none := by cases vi.ownBlock <;> simp
      have hlen1 : (flatP [G]).length = 2 := rfl
      refine ⟨_, _, hr, ⟨h1a.kept (gb _) hkeep, ⟨?_, .inr ⟨(w.alloc O).heap.size, _, _, rfl, hsz, heap_alloc_new (w.alloc O).drew _, hge, hcm2, ?_, ?_⟩⟩, Or.inr ?_, grownBy_outP ga (gb _) (fun g e => by cases e), h5⟩, hbel0.grown (gb _) hsz (fun q e => by cases e)⟩
      · rw [← hlast, flatP_append, List.length_append, hlx, hlen1]; omega
      · simp only [Array.size_append, List.size_toArray, size_zeroCells, hlx, Value.cells, hlen1]
        simp
        omega
      · simp only [Array.toList_append, List.append_assoc]
        rw [← List.append_assoc, List.take_left' (by rw [List.length_append, hlx, hlen1]; omega), ← hlast, flatP_append (F ++ X)]
      · intro q e
        cases e
        have := h4.size
        simp
        omega

theorem grown_startP {w : World} {B n : Nat} {v : Value} {F : List Pl} (h : w.ownsRow B 40 2 v n (flatP F)) : GrownP w w B v v n 0 F [] := by
  refine ⟨h, by simpa using h, ?_, World.grownBy.refl _ _, fun g hg => (h.lt g hg).2⟩
  rcases h.2 with ⟨rfl, _⟩ | ⟨g, cap, cur, rfl, _⟩
  · exact Or.inr fun g e => by cases e
  · exact Or.inl ⟨g, cap, rfl, rfl⟩

theorem wpList_growP {u w : World} {ops : Array Oper} {rest : List Oper} {o : Oper} {a : Act} {Q : Exit → Act → World → Prop} (hgd : o.guard = none) (s x : Operand)
    (ho : o.op = .call { callee := .builtin .append, args := #[s, x], argTypes := #[50, 50] })
    {B : Nat} {vi v : Value} {n k : Nat} {F X : List Pl} (h : GrownP u w B vi v n k F X) (hB : B ≤ u.heap.size) (G : Pl) (hn : n + k ≤ 1000000000000)
    (hs : a.eval s = v) (hx : a.eval x = .slice (some ⟨w.heap.size, 0, none⟩) 1 1)
    (hk : ∀ v' w', GrownP u w' B vi v' n (k + 1) F (X ++ [G]) → Below B w w' → wpList Tryd.prog ops Q rest (a.put o.dst v') w') : wpList Tryd.prog ops Q (o :: rest) a (w.alloc (.cells #[.int .i64 G.x, .int .i64 G.y] 40)) := by
  obtain ⟨v', w', hr, h1, h2⟩ := run_growP o.type h hB G hn
  refine wpList_plain hgd fun K hK => ?_
  unfold Oper.wp
  simp [execOp, ho, resolve, invoke, builtin, hs, hx, hr, Result.andThen]
  exact hK _ _ (hk v' w' h1 h2)
theorem ReadsP.news {w : World} {x : Addr} {len : Nat} {bs : List Pl} (h : ReadsP w (some x) len bs) : ∀ j u, (flatP bs)[j]? = some u → w.cell? (x.add j) = some u := by
  intro j u hj
  have hlt : j < (flatP bs).length := (List.getElem?_eq_some_iff.1 hj).1
  rw [flatP_length, h.1] at hlt
  have h1 := h.2.2 x rfl (j / 2) (by omega) (j % 2) (by omega)
  have h2 := flatP_cell bs (j / 2) (j % 2) (by rw [h.1]; omega) (by omega)
  rw [show j / 2 * 2 + j % 2 = j by omega] at h1 h2
  rw [h1, ← h2, hj]
theorem wpList_append_P {w : World} {ops : Array Oper} {rest : List Oper} {o : Oper} {a : Act} {Q : Exit → Act → World → Prop} (hgd : o.guard = none) (s x : Operand)
    (ho : o.op = .call { callee := .builtin .append, args := #[s, x], argTypes := #[50, 50] })
    (base : Nat) (v : Value) (n : Nat) (xs : List Pl) (hs : a.eval s = v) (hown : w.ownsRow base 40 2 v n (flatP xs))
    (ad : Option Addr) (m c : Nat) (zs : List Pl) (hx : a.eval x = .slice ad m c) (hrd : ReadsP w ad m zs)
    (hb : n + m ≤ 4000000000000) (hbase : base ≤ w.heap.size)
    (h : ∀ v' w', w'.ownsRow base 40 2 v' (n + m) (flatP (xs ++ zs)) → w.grownBy w' v.ownBlock → wpList Tryd.prog ops Q rest (a.put o.dst v') w') : wpList Tryd.prog ops Q (o :: rest) a w := by
  obtain ⟨i0, hi, hz0, hz1, hz2⟩ := info_parts info40
  cases ad with
  | some ad =>
    refine wpList_append_own w hgd s x 50 ho base 40 i0 (.agg #[.int .i64 0, .int .i64 0]) 2 16 Tryd.underlying50 hi hz0 hz1 hz2 rfl (by decide) v n _ hs hown ad m c (flatP zs) hx (by rw [flatP_length, hrd.1]) hrd.news (flatP_one _) (by simp [maxLen]; omega) (by omega) hbase ?_
    intro v' w' h1 h2 _
    exact h v' w' (by rw [flatP_append]; exact h1) h2
  | none =>
    have h0 := hrd.2.1 rfl
    have hz : zs = [] := List.eq_nil_of_length_eq_zero (by have := hrd.1; omega)
    subst h0
    subst hz
    have hrun : (Builtin.append_ #[50, 50] o.type #[v, .slice none 0 c]).run Tryd.prog w = .ok v w := by
      rcases hown.2 with ⟨rfl, rfl⟩ | ⟨g, cap, cur, rfl, _, _, hnc, _⟩
      · simp [Builtin.append_, run_underlying Tryd.underlying50, sizeOf, typeInfo, hi, Builtin.lenOf, Builtin.firstCells]
      · simp [Builtin.append_, run_underlying Tryd.underlying50, sizeOf, typeInfo, hi, Builtin.lenOf, Builtin.firstCells, hnc, storeCells]
    refine wpList_plain hgd fun K hK => ?_
    unfold Oper.wp
    simp [execOp, ho, resolve, invoke, builtin, hs, hx, hrun, Result.andThen]
    exact hK _ _ (h v w (by simpa using hown) (World.grownBy.refl _ _))
theorem made0P (w : World) : (w.alloc (.cells #[] 40)).ownsRow w.heap.size 40 2 (.slice (some ⟨w.heap.size, 0, none⟩) 0 0) 0 (flatP []) := World.ownsRow_made w #[] 0 (Nat.le_refl _) (by simp [maxLen]) rfl
theorem own_formP {w : World} {B n : Nat} {v : Value} {xs : List Value} (h : w.ownsRow B 40 2 v n xs) : ∃ a c, v = .slice a n c := by
  rcases h.2 with ⟨hv, h0⟩ | ⟨g, cap, cur, hv, _⟩
  · exact ⟨none, 0, by rw [hv, h0]⟩
  · exact ⟨_, _, hv⟩
theorem own_shapeP {w : World} {B n : Nat} {v : Value} {xs : List Value} (h : w.ownsRow B 40 2 v n xs) (hn : 0 < n) : ∃ g cap, v = .slice (some ⟨g, 0, none⟩) n cap ∧ n ≤ cap ∧ cap ≤ maxLen ∧ B ≤ g ∧ g < w.heap.size := by
  rcases h.2 with ⟨_, h0⟩ | ⟨g, cap, cur, hv, hb, hg, hnc, hcm, _⟩
  · omega
  · exact ⟨g, cap, hv, hnc, hcm, hb, (Array.getElem?_eq_some_iff.1 hg).1⟩
theorem setP (G : Pl) (xs : List Pl) : ∀ k, k < xs.length → ((flatP xs).set (k * 2) (.int .i64 G.x)).set (k * 2 + 1) (.int .i64 G.y) = flatP (xs.set k G) := by
  induction xs with
  | nil => intro k hk; exact absurd hk (Nat.not_lt_zero _)
  | cons x r ih =>
    intro k hk
    have e : ∀ (y : Pl) (t : List Pl), flatP (y :: t) = .int .i64 y.x :: .int .i64 y.y :: flatP t := fun y t => rfl
    match k, hk with
    | 0, _ => rw [List.set_cons_zero, e, e]; rfl
    | k + 1, hk =>
      rw [List.set_cons_succ, e, e, ← ih k (by simpa using hk), show (k + 1) * 2 = k * 2 + 2 by omega]
      rfl
theorem ownP_set {w : World} {B g n cap : Nat} {xs : List Pl} (h : w.ownsRow B 40 2 (.slice (some ⟨g, 0, none⟩) n cap) n (flatP xs)) (k : Nat) (hk : k < xs.length) (G : Pl) :
    ((w.setCell ⟨g, k * 2, none⟩ (.int .i64 G.x)).setCell ⟨g, k * 2 + 1, none⟩ (.int .i64 G.y)).ownsRow B 40 2 (.slice (some ⟨g, 0, none⟩) n cap) n (flatP (xs.set k G))
      ∧ w.grownBy ((w.setCell ⟨g, k * 2, none⟩ (.int .i64 G.x)).setCell ⟨g, k * 2 + 1, none⟩ (.int .i64 G.y)) (some g) := by
  obtain ⟨a1, b1⟩ := h.stored (k * 2) (.int .i64 G.x)
  obtain ⟨a2, b2⟩ := a1.stored (k * 2 + 1) (.int .i64 G.y)
  rw [setP G xs k hk] at a2
  exact ⟨a2, grownBy_trans b1 b2⟩
theorem ownP_cell {w : World} {B g n cap : Nat} {xs : List Pl} (h : w.ownsRow B 40 2 (.slice (some ⟨g, 0, none⟩) n cap) n (flatP xs)) (k : Nat) (hk : k < n) :
    w.cell? ⟨g, k * 2, none⟩ = some (.int .i64 (xs.getD k Pl.zero).x) ∧ w.cell? ⟨g, k * 2 + 1, none⟩ = some (.int .i64 (xs.getD k Pl.zero).y) := by
  have hl : xs.length = n := by have := h.1; rw [flatP_length] at this; omega
  have c : ∀ j, j < 2 → w.cell? ⟨g, k * 2 + j, none⟩ = some ((xs.getD k Pl.zero).cell j) := fun j hj => by
    rw [h.cellAt (k * 2 + j) (by omega)]
    exact flatP_cell xs k j (by omega) hj
  exact ⟨c 0 (by omega), c 1 (by omega)⟩
def mkP (k : Nat) : Pl := ⟨-7, (k : Int)⟩
def markP (n : Nat) : List Pl := (List.range n).map mkP
def filP (k : Nat) (xs : List Pl) : List Pl := markP k ++ xs.drop k
theorem filP_step (k : Nat) (xs : List Pl) (h : k < xs.length) : (filP k xs).set k (mkP k) = filP (k + 1) xs := by
  unfold filP markP
  rw [List.set_append_right _ _ (by simp), List.length_map, List.length_range, Nat.sub_self, List.drop_eq_getElem_cons h, List.set_cons_zero, List.range_succ, List.map_append]
  simp
theorem filP_all (n : Nat) (xs : List Pl) (h : xs.length = n) : filP n xs = markP n := by
  unfold filP
  rw [List.drop_of_length_le (by omega), List.append_nil]
theorem filP_length (k : Nat) (xs : List Pl) (h : k ≤ xs.length) : (filP k xs).length = xs.length := by
  unfold filP markP
  simp
  omega
theorem grown_up {w u v : World} {r : Option Nat} (h : Below w.heap.size w u) (k : u.grownBy v r) : w.grownBy v r :=
  ⟨k.os.trans h.os, k.tape.trans h.tape, k.output.trans h.output, Nat.le_trans h.size k.size, fun i hi hr => (k.block i (Nat.lt_of_lt_of_le hi h.size) hr).trans (h.block i hi)⟩
theorem grown_drewN {w v : World} {r : Option Nat} (h : w.grownBy v r) (q : Nat) : w.grownBy (v.drewN q) r := ⟨h.os, h.tape, h.output, h.size, fun i hi hr => h.block i hi hr⟩

set_option maxHeartbeats 4000000 in
set_option maxRecDepth 100000 in
theorem placesApart_any (w : World) (B : Nat) (a : Option Addr) (n c : Nat) (ps : List Pl) (a' : Option Addr) (n' c' : Nat) (qs : List Pl) (hn : n ≤ 1000000000) (hn' : n' ≤ 1000000000) (ho : w.ownsRow B 40 2 (.slice a n c) n (flatP ps)) (ho' : w.ownsRow B 40 2 (.slice a' n' c') n' (flatP qs)) (hfar : ∀ g, (Value.slice a n c).ownBlock = some g → (Value.slice a' n' c').ownBlock ≠ some g) (hB : B ≤ w.heap.size) :
    Calls Tryd.prog 21 #[.slice a n c, .slice a' n' c'] w fun e w' => e = .returned (.bool true) ∧ w.grownBy w' (Value.slice a n c).ownBlock := by
  have hpl : ps.length = n := by have := ho.1; rw [flatP_length] at this; omega
  have HPL : Hid (ps.length = n) := hpl
  have hrd : ReadsP w a' n' qs := by
    obtain ⟨a9, c9, h9, h8⟩ := ownP_reads ho'
    cases h9
    exact h8
  have HRD : Hid (ReadsP (w.alloc (.cells #[] 40)) a' n' qs) := hrd.below (below_alloc w _)
  have HO : Hid (w.ownsRow B 40 2 (.slice a n c) n (flatP ps)) := ho
  have HO' : Hid (w.ownsRow B 40 2 (.slice a' n' c') n' (flatP qs)) := ho'
  have HL : Hid (∀ g, (Value.slice a n c).ownBlock = some g → g < w.heap.size) := fun g hg => (ho.lt g hg).2
  have HF : Hid (∀ g, (Value.slice a n c).ownBlock = some g → (Value.slice a' n' c').ownBlock ≠ some g) := hfar
  clear ho ho' hrd hfar hpl
  go_enter Tryd.func21, Tryd.ntmps21
  go_wp2_with (first
    | (at_builtin; refine wpList_append_P rfl (.tmp 10) (.tmp 11) rfl w.heap.size _ 0 [] rfl (made0P w) a' n' c' qs rfl HRD.out (by omega) (by simp) ?_; intro v1 t1 own1 grow1
       have bl1 : Below w.heap.size w t1 := (below_alloc w (.cells #[] 40)).grown grow1 (by simp) (fun i hi => by cases hi; exact Nat.le_refl _)
       have own2 : t1.ownsRow w.heap.size 40 2 v1 n' (flatP qs) := (by simpa using own1)
       obtain ⟨a1, c1, rfl⟩ := own_formP own2
       have HW : Hid (t1.ownsRow w.heap.size 40 2 (.slice a1 n' c1) n' (flatP qs)) := own2
       have HB1 : Hid (Below w.heap.size w t1) := bl1
       clear own1 grow1 own2 bl1))
  go_loopw [6] (fun kk wq => ∃ k : Nat, k ≤ n ∧ kk = .int .i64 k ∧ Hid (wq.ownsRow B 40 2 (.slice a n c) n (flatP (filP k ps))) ∧ Hid (t1.grownBy wq (Value.slice a n c).ownBlock)) (fun kk _ => n - (intOf kk).toNat)
  case atStart => exact ⟨0, Nat.zero_le _, rfl, (by have h9 := rowG_below HO.out HB1.out; have e : filP 0 ps = ps := (by simp [filP, markP]); rw [e]; exact h9), World.grownBy.refl _ _⟩
  case round =>
    obtain ⟨k, hk, rfl, HR, HG⟩ := hrel
    by_cases hlt : k < n
    · obtain ⟨g, cap, hsh, hcap, _, hBg, hgl⟩ := own_shapeP HR.out (by omega)
      cases hsh
      obtain ⟨q0, q1⟩ := ownP_cell HR.out k hlt
      obtain ⟨z0, hz0⟩ : ∃ z0, ((filP k ps).getD k Pl.zero).x = z0 := ⟨_, rfl⟩
      obtain ⟨z1, hz1⟩ : ∃ z1, ((filP k ps).getD k Pl.zero).y = z1 := ⟨_, rfl⟩
      rw [hz0] at q0
      rw [hz1] at q1
      clear hz0 hz1
      have f0 := World.ownsRow.frozenAt HR.out (k * 2)
      have f1 := World.ownsRow.frozenAt HR.out (k * 2 + 1)
      have hset := ownP_set HR.out k (by rw [filP_length k ps (by rw [HPL.out]; omega), HPL.out]; exact hlt) (mkP k)
      rw [filP_step k ps (by rw [HPL.out]; exact hlt)] at hset
      have HS : Hid _ := hset.1
      have HG2 : Hid _ := grownBy_trans HG.out hset.2
      have m2 : (k : Int) < (n : Int) := by omega
      have hd2 : decide ((k : Int) < (n : Int)) = true := decide_eq_true m2
      clear hset HR HG
      go_wp2
      go_roundw
      case rel => exact ⟨k + 1, by omega, by go_num, HS, HG2⟩
      case measure => simp [intOf]; omega
    · have hkn : n = k := by omega
      subst hkn
      have hr2 := HR.out
      rw [filP_all n ps HPL.out] at hr2
      have HG0 : Hid (GrownP wr wr B (.slice a n c) (.slice a n c) n 0 (markP n) []) := grown_startP hr2
      have hBw : B ≤ wr.heap.size := by have h1 := HB1.out.size; have h2 := HG.out.size; omega
      obtain ⟨W1, hW1⟩ : ∃ W1, W1 = wr := ⟨_, rfl⟩
      subst hW1
      clear hr2 HR
      go_wp2
      go_loopw [7, 8] (fun v tt wq => ∃ (t : Nat) (Y : List Pl), t ≤ 70 ∧ tt = .int .i64 t ∧ Hid (GrownP W1 wq B (.slice a n c) v n t (markP n) Y)) (fun _ tt _ => 70 - (intOf tt).toNat)
      case atStart => exact ⟨0, [], by omega, rfl, HG0⟩
      case round =>
        obtain ⟨t, Y, ht, rfl, HGr⟩ := hrel
        clear HG0
        by_cases hlt3 : t < 70
        · have hGr := HGr.out
          have m2 : (t : Int) < 70 := by omega
          have hd2 : decide ((t : Int) < 70) = true := decide_eq_true m2
          clear HGr
          go_wp2_with (first
            | (at_builtin; refine wpList_growP rfl (.tmp 29) (.tmp 32) rfl hGr hBw ⟨-8, (t : Int)⟩ (by omega) rfl rfl ?_; intro v5 w5 hg5 bel5; have HG5 : Hid (GrownP _ _ _ _ _ _ _ _ _) := hg5; clear hGr hg5 bel5))
          go_roundw
          case rel => exact ⟨t + 1, _, by omega, by go_num, HG5⟩
          case measure => simp [intOf]; omega
        · have ht9 : t = 70 := by omega
          subst ht9
          obtain ⟨W2, hW2⟩ : ∃ W2, W2 = wr := ⟨_, rfl⟩
          subst hW2
          obtain ⟨g2, cap2, rfl, hc1, hc2, hg21, hg22⟩ := own_shapeP HGr.out.new (by omega)
          have HN : Hid (W2.ownsRow B 40 2 (.slice (some ⟨g2, 0, none⟩) (n + 70) cap2) (n + 70) (flatP (markP n ++ Y))) := HGr.out.new
          have HGW : Hid (t1.grownBy W2 (Value.slice a n c).ownBlock) := grownBy_trans HG.out HGr.out.grow
          have HRB : Hid (ReadsP W2 a' n' qs) := by
            have h9 := (rowG_below HO'.out HB1.out).kept HGW.out (by
              cases h8 : (Value.slice a' n' c').ownBlock with
              | none => exact Or.inl rfl
              | some g => exact Or.inr (fun e9 => HF.out g e9.symm h8))
            obtain ⟨a9, c9, h8, h7⟩ := ownP_reads h9
            cases h8
            exact h7
          have HRW : Hid (ReadsP W2 a1 n' qs) := by
            have h9 := HW.out.kept HGW.out (by
              cases h8 : (Value.slice a1 n' c1).ownBlock with
              | none => exact Or.inl rfl
              | some g => exact Or.inr (fun e9 => by
                  have h7 := HL.out g e9.symm
                  have h6 := (HW.out.lt g h8).1
                  omega))
            obtain ⟨a9, c9, h8, h7⟩ := ownP_reads h9
            cases h8
            exact h7
          clear HGr HW HG
          go_wp2
          go_loopw [9] (fun ii wq => ∃ (i : Nat), i ≤ n ∧ ii = .int .i64 i ∧ wq = W2) (fun ii _ => n - (intOf ii).toNat)
          case atStart => exact ⟨0, Nat.zero_le _, rfl, rfl⟩
          case round =>
            obtain ⟨i, hi, rfl, rfl⟩ := hrel
            by_cases hlt4 : i < n
            · obtain ⟨q0, q1⟩ := ownP_cell HN.out i (by omega)
              have e9 : (markP n ++ Y).getD i Pl.zero = mkP i := by
                unfold markP
                rw [List.getD_eq_getElem?_getD, List.getElem?_append_left (by simp; omega), List.getElem?_map, List.getElem?_range hlt4]
                rfl
              rw [e9] at q0 q1
              have r0 : wr.cell? ⟨g2, i * 2, none⟩ = some (.int .i64 (-7)) := q0
              have r1 : wr.cell? ⟨g2, i * 2 + 1, none⟩ = some (.int .i64 (i : Int)) := q1
              have m2 : (i : Int) < (n : Int) := by omega
              have hd2 : decide ((i : Int) < (n : Int)) = true := decide_eq_true m2
              clear e9 q0 q1
              go_wp2
              go_roundw
              case rel => exact ⟨i + 1, by omega, by go_num, by first | rfl | trivial⟩
              case measure => simp [intOf]; omega
            · have hin : n = i := by omega
              subst hin
              go_wp2_with (first
                | (go_at_call 20; refine (samePl_eq a' a1 n' c' c1 qs _ HRB.out HRW.out (by omega)).mono ?_; rintro e u ⟨rfl, q, hu⟩; rw [hu]; clear hu))
              go_ret
              exact ⟨by first | rfl | simp, grown_drewN (grown_up HB1.out HGW.out) _⟩
theorem newsM_one (w : World) (z : Bool) : ∀ j u, [Value.bool z][j]? = some u → (w.alloc (.cells #[.bool z] 4)).cell? ((⟨w.heap.size, 0, none⟩ : Addr).add j) = some u := by
  intro j u hj
  have h9 := heap_alloc_new w (.cells #[.bool z] 4)
  match j, hj with
  | 0, hj =>
    rw [plain_add]
    simp only [World.cell?, h9]
    simpa using hj
  | j + 1, hj => simp at hj
theorem OwnM_front {w : World} {B g n cap m : Nat} {xs : List Value} (h : w.ownsRow B 4 1 (.slice (some ⟨g, 0, none⟩) n cap) n xs) (hm : m ≤ n) : w.ownsRow B 4 1 (.slice (some ⟨g, 0, none⟩) m cap) m (xs.take m) := by
  refine ⟨by have := h.1; simp; omega, ?_⟩
  rcases h.2 with ⟨h0, _⟩ | ⟨g', cap', cur, hv, hB, hg, hnc, hcm, hcs, htk⟩
  · cases h0
  · cases hv
    refine Or.inr ⟨g, cap, cur, rfl, hB, hg, by omega, hcm, hcs, ?_⟩
    rw [← htk, List.take_take, Nat.min_eq_left (by omega), Nat.mul_one]
/-- append of a byte to a row that is grown of another one: the other one stands. -/
structure GrownM (u w : World) (B : Nat) (vi v : Value) (n k : Nat) (F X : List Bool) : Prop where
  old : w.ownsRow B 4 1 vi n (F.map Value.bool)
  new : w.ownsRow B 4 1 v (n + k) ((F ++ X).map Value.bool)
  place : (∃ g c, v = .slice (some ⟨g, 0, none⟩) (n + k) c ∧ vi = .slice (some ⟨g, 0, none⟩) n c) ∨ ∀ g, v.ownBlock = some g → u.heap.size ≤ g
  grow : u.grownBy w vi.ownBlock
  was : ∀ g, vi.ownBlock = some g → g < u.heap.size

theorem grownBy_outM {u w w' : World} {r s : Option Nat} (h : u.grownBy w r) (k : w.grownBy w' s) (hs : ∀ g, s = some g → some g ≠ r → u.heap.size ≤ g) : u.grownBy w' r :=
  ⟨k.os.trans h.os, k.tape.trans h.tape, k.output.trans h.output, Nat.le_trans h.size k.size, fun i hi hr => by
    rw [k.block i (Nat.lt_of_lt_of_le hi h.size) (fun e => by have := hs i e.symm hr; omega)]
    exact h.block i hi hr⟩

theorem run_growM (ty : TypeId) {u w : World} {B : Nat} {vi v : Value} {n k : Nat} {F X : List Bool} (h : GrownM u w B vi v n k F X) (hB : B ≤ u.heap.size) (z : Bool) (hn : n + k ≤ 4000000000) :
    ∃ v' w', (Builtin.append_ #[28, 28] ty #[v, .slice (some ⟨w.heap.size, 0, none⟩) 1 1]).run Tryd.prog (w.alloc (.cells #[.bool z] 4)) = .ok v' w' ∧ GrownM u w' B vi v' n (k + 1) F (X ++ [z]) ∧ Below B w w' := by
  obtain ⟨i0, hi, hz0, hz1, hz2⟩ := info_parts info4
  obtain ⟨h1, h2, h3, h4, h5⟩ := h
  have hsz : B ≤ (w.alloc (.cells #[.bool z] 4)).heap.size := by have := h4.size; simp; omega
  have ga : u.grownBy (w.alloc (.cells #[.bool z] 4)) vi.ownBlock := grownBy_outM h4 (World.grownBy_alloc w _ none) (fun g e => by cases e)
  have h1a := h1.alloc (.cells #[.bool z] 4)
  have h2a := h2.alloc (.cells #[.bool z] 4)
  have hbel0 : Below B w (w.alloc (.cells #[.bool z] 4)) := (Below.refl B w).alloc (by have := h4.size; omega) _
  have hlast : ((F ++ X) ++ [z]) = F ++ (X ++ [z]) := List.append_assoc ..
  by_cases hv : v = .slice none 0 0
  · -- nothing was there
    obtain ⟨v', w', hr, ho, hg, _, hp⟩ := run_append_own_at (P := Tryd.prog) (w := w.alloc (.cells #[.bool z] 4)) B 28 ty 4 i0 (.bool false) 1 1 Tryd.underlying28 hi hz0 hz1 hz2 rfl (by decide) v (n + k) _ h2a ⟨w.heap.size, 0, none⟩ 1 1 [.bool z] rfl (newsM_one _ _) (by simp [Value.oneCell']) (by simp [maxLen]; omega) (by omega) hsz
    subst hv
    have hvi : vi.ownBlock = none ∨ vi.ownBlock ≠ none := by cases vi.ownBlock <;> simp
    have hnk : n + k = 0 := by
      rcases h2.2 with ⟨_, h⟩ | ⟨g, c, cur, e, _⟩
      · exact h
      · cases e
    have hn0 : n = 0 := by omega
    have hown : w'.ownsRow B 4 1 vi n (F.map Value.bool) := by
      refine h1a.kept hg ?_
      simp only [Value.ownBlock]
      exact hvi
    refine ⟨v', w', hr, ⟨hown, ?_, Or.inr ?_, grownBy_outM ga hg (fun g e => by cases e), h5⟩, hbel0.grown hg hsz (fun g e => by cases e)⟩
    · rw [← hlast, List.map_append]; exact ho
    · intro g e
      rcases hp with hp | hp
      · rw [hp] at e; cases e
      · rw [hp] at e; cases e
        have := h4.size
        simp
        omega
  · obtain ⟨g, c, cur, rfl, hBg, hgc, hnc, hcm, hcs, htk⟩ : ∃ g cap cur, v = .slice (some ⟨g, 0, none⟩) (n + k) cap ∧ B ≤ g ∧ w.heap[g]? = some (.cells cur 4 (0, 0)) ∧ n + k ≤ cap ∧ cap ≤ maxLen ∧ cur.size = cap * 1 ∧ cur.toList.take ((n + k) * 1) = ((F ++ X).map Value.bool) := by
      rcases h2.2 with ⟨h, _⟩ | h
      · exact absurd h hv
      · exact h
    have hgw : g < w.heap.size := by
      rcases Nat.lt_or_ge g w.heap.size with h | h
      · exact h
      · simp [Array.getElem?_eq_none h] at hgc
    by_cases hroom : n + k + 1 ≤ c
    · obtain ⟨w', r1, r2, r3⟩ := run_append_fits (P := Tryd.prog) (w.alloc (.cells #[.bool z] 4)) B 28 ty 4 i0 1 Tryd.underlying28 hi hz1 g (n + k) c _ h2a ⟨w.heap.size, 0, none⟩ 1 1 [.bool z] rfl (newsM_one _ _) (by simp [Value.oneCell']) hroom
      have hout : ∀ q, (some g : Option Nat) = some q → some q ≠ vi.ownBlock → u.heap.size ≤ q := by
        intro q e hne
        cases e
        rcases h3 with ⟨g', c', e1, e2⟩ | h3
        · cases e1
          rw [e2] at hne
          exact absurd rfl hne
        · exact h3 g rfl
      refine ⟨_, w', r1, ⟨?_, ?_, ?_, grownBy_outM ga r3 hout, h5⟩, hbel0.grown r3 hsz (fun q e => by cases e; exact hBg)⟩
      · rcases h3 with ⟨g', c', e1, e2⟩ | h3
        · cases e1
          rw [e2]
          have hf := OwnM_front r2 (show n ≤ n + k + 1 by omega)
          have hFl : F.length = n := by have := h1.1; simpa using this
          rw [List.map_append, List.append_assoc, List.take_left' (by simp [hFl])] at hf
          exact hf
        · refine h1a.kept r3 ?_
          by_cases hb : vi.ownBlock = some g
          · have := h3 g rfl
            have := h5 g hb
            omega
          · exact Or.inr hb
      · rw [← hlast, List.map_append]; exact r2
      · rcases h3 with ⟨g', c', e1, e2⟩ | h3
        · cases e1
          exact Or.inl ⟨g, c, rfl, e2⟩
        · exact Or.inr fun q e => h3 q e
    · have hlx : (F ++ X).length = n + k := by have := h2.1; simpa using this
      have holds : ∀ j q, ((F ++ X).map Value.bool)[j]? = some q → (w.alloc (.cells #[.bool z] 4)).cell? ((⟨g, 0, none⟩ : Addr).add j) = some q := World.ownsRow.cells h2a (g := g) rfl
      have hr := run_append_grow (P := Tryd.prog) (w.alloc (.cells #[.bool z] 4)) 28 ty 4 i0 (.bool false) Tryd.underlying28 hi hz0 ⟨g, 0, none⟩ (n + k) c ((F ++ X).map Value.bool) (by rw [List.length_map, hlx, hz1, Nat.mul_one]) holds ⟨w.heap.size, 0, none⟩ 1 1 [.bool z] (by simp [hz1]) (newsM_one _ _) (by omega) (by omega) (growslice_fits (by omega) (by rw [hz2]; omega))
      have hge := grownCap_ge (w.alloc (.cells #[.bool z] 4)) (n + k + 1) c 4
      have hcm2 : grownCap (w.alloc (.cells #[.bool z] 4)) (n + k + 1) c 4 ≤ maxLen := grownCap_le_maxLen _ (n + k + 1) c 4 (by simp [maxLen]; omega)
      have gb : ∀ o, (w.alloc (.cells #[.bool z] 4)).grownBy ((w.alloc (.cells #[.bool z] 4)).drew.alloc o) none := fun o => ⟨rfl, rfl, rfl, by simp, fun q hq _ => Below.heap_alloc (w.alloc (.cells #[.bool z] 4)).drew o q hq⟩
      have hkeep : vi.ownBlock = none ∨ vi.ownBlock ≠ none := by cases vi.ownBlock <;> simp
      refine ⟨_, _, hr, ⟨h1a.kept (gb _) hkeep, ⟨?_, .inr ⟨(w.alloc (.cells #[.bool z] 4)).heap.size, _, _, rfl, hsz, heap_alloc_new (w.alloc (.cells #[.bool z] 4)).drew _, hge, hcm2, ?_, ?_⟩⟩, Or.inr ?_, grownBy_outM ga (gb _) (fun g e => by cases e), h5⟩, hbel0.grown (gb _) hsz (fun q e => by cases e)⟩
      · rw [← hlast, List.length_map, List.length_append, hlx]; simp; rfl
      · simp only [Array.size_append, List.size_toArray, size_zeroCells, List.length_map, hlx, Value.cells]
        simp
        omega
      · simp only [Array.toList_append, List.append_assoc, Nat.mul_one]
        rw [← List.append_assoc, List.take_left' (by rw [List.length_append, List.length_map, hlx]; rfl), ← hlast]
        simp
      · intro q e
        cases e
        have := h4.size
        simp
        omega
theorem grown_startM {w : World} {B n : Nat} {v : Value} {F : List Bool} (h : w.ownsRow B 4 1 v n (F.map Value.bool)) : GrownM w w B v v n 0 F [] := by
  refine ⟨h, by simpa using h, ?_, World.grownBy.refl _ _, fun g hg => (h.lt g hg).2⟩
  rcases h.2 with ⟨rfl, _⟩ | ⟨g, cap, cur, rfl, _⟩
  · exact Or.inr fun g e => by cases e
  · exact Or.inl ⟨g, cap, rfl, rfl⟩

theorem wpList_growM {u w : World} {ops : Array Oper} {rest : List Oper} {o : Oper} {a : Act} {Q : Exit → Act → World → Prop} (hgd : o.guard = none) (s x : Operand)
    (ho : o.op = .call { callee := .builtin .append, args := #[s, x], argTypes := #[28, 28] })
    {B : Nat} {vi v : Value} {n k : Nat} {F X : List Bool} (h : GrownM u w B vi v n k F X) (hB : B ≤ u.heap.size) (z : Bool) (hn : n + k ≤ 4000000000)
    (hs : a.eval s = v) (hx : a.eval x = .slice (some ⟨w.heap.size, 0, none⟩) 1 1)
    (hk : ∀ v' w', GrownM u w' B vi v' n (k + 1) F (X ++ [z]) → Below B w w' → wpList Tryd.prog ops Q rest (a.put o.dst v') w') : wpList Tryd.prog ops Q (o :: rest) a (w.alloc (.cells #[.bool z] 4)) := by
  obtain ⟨v', w', hr, h1, h2⟩ := run_growM o.type h hB z hn
  refine wpList_plain hgd fun K hK => ?_
  unfold Oper.wp
  simp [execOp, ho, resolve, invoke, builtin, hs, hx, hr, Result.andThen]
  exact hK _ _ (hk v' w' h1 h2)
theorem info28 : (Tryd.prog.info? 28).map (fun i => (i.zero, i.size, i.bytes)) = some (some (.slice none 0 0), 1, 24) := by kernel_rfl
/-- What lies below B, and every block that is no row of marks, stays. -/
structure Kt (B : Nat) (w w' : World) : Prop where
  bel : Below B w w'
  five : ∀ (i : Nat) (cs : Array Value) (e : TypeId), e ≠ 4 → w.heap[i]? = some (Obj.cells cs e (0, 0)) → w'.heap[i]? = some (Obj.cells cs e (0, 0))
theorem Kt.refl (B : Nat) (w : World) : Kt B w w := ⟨Below.refl _ _, fun _ _ _ _ h => h⟩
theorem Kt.up {B : Nat} {w u v : World} (h : Kt B w u) (hb : Below u.heap.size u v) (hB : B ≤ w.heap.size) : Kt B w v :=
  ⟨h.bel.trans (hb.mono (Nat.le_trans hB h.bel.size)), fun i cs e he hi => (hb.block i (Array.getElem?_eq_some_iff.1 (h.five i cs e he hi)).1).trans (h.five i cs e he hi)⟩
theorem Kt.grow {B : Nat} {w u v : World} {r : Option Nat} (h : Kt B w u) (hg : u.grownBy v r) (hB : B ≤ w.heap.size) (hr : ∀ g, r = some g → B ≤ g ∧ (w.heap.size ≤ g ∨ ∃ cs : Array Value, u.heap[g]? = some (Obj.cells cs 4 (0, 0)))) : Kt B w v :=
  ⟨h.bel.grown hg (Nat.le_trans hB h.bel.size) (fun g hg => (hr g hg).1), fun i cs e he hi => by
    have h1 := h.five i cs e he hi
    refine (hg.block i (Array.getElem?_eq_some_iff.1 h1).1 (fun e9 => ?_)).trans h1
    rcases (hr i e9.symm).2 with h2 | ⟨cs', h2⟩
    · have := (Array.getElem?_eq_some_iff.1 hi).1
      omega
    · rw [h1] at h2
      injection h2 with h2
      injection h2 with _ h8 _
      exact he h8⟩
theorem row_blk {w : World} {B sz n : Nat} {e : TypeId} {v : Value} {xs : List Value} (h : w.ownsRow B e sz v n xs) : ∀ g, v.ownBlock = some g → B ≤ g ∧ ∃ cs : Array Value, w.heap[g]? = some (Obj.cells cs e (0, 0)) := by
  intro g hg
  rcases h.2 with ⟨hv, _⟩ | ⟨g', cap, cur, hv, hB, hb, _⟩
  · rw [hv] at hg; cases hg
  · rw [hv] at hg
    have e8 : g' = g := Option.some.inj hg
    subst e8
    exact ⟨hB, cur, hb⟩

/-- m rows of marks in a list at the block G, each in a block of its own. -/
structure ApartM (w : World) (B G m : Nat) (vs : Nat → Value) (ns : Nat → Nat) (X : Nat → List Bool) : Prop where
  outer : ∀ i, i < m → w.cell? ⟨G, i, none⟩ = some (vs i)
  small : ∀ i, i < m → 0 < ns i ∧ ns i ≤ 2000000000
  rows : ∀ i, i < m → w.ownsRow B 4 1 (vs i) (ns i) ((X i).map Value.bool)
  ne : ∀ i j, i < m → j < m → i ≠ j → ∀ g, (vs i).ownBlock = some g → (vs j).ownBlock ≠ some g
  neG : ∀ i, i < m → (vs i).ownBlock ≠ some G
  hG : G < w.heap.size
theorem ApartM.move {w w' : World} {B G m : Nat} {vs : Nat → Value} {ns : Nat → Nat} {X Y : Nat → List Bool} (h : ApartM w B G m vs ns X) (i : Nat) (hi : i < m) (hg : w.grownBy w' (vs i).ownBlock)
    (hr : w'.ownsRow B 4 1 (vs i) (ns i) ((Y i).map Value.bool)) (hY : ∀ j, j < m → j ≠ i → Y j = X j) : ApartM w' B G m vs ns Y := by
  obtain ⟨h1, h2, h3, h4, h5, h6⟩ := h
  refine ⟨fun j hj => ?_, h2, fun j hj => ?_, h4, h5, Nat.lt_of_lt_of_le h6 hg.size⟩
  · rw [World.cell?_of_block (hg.block G h6 (fun e => h5 i hi e.symm))]
    exact h1 j hj
  · by_cases e : j = i
    · subst e; exact hr
    · rw [hY j hj e]
      refine (h3 j hj).kept hg ?_
      cases hb : (vs j).ownBlock with
      | none => exact Or.inl rfl
      | some g => exact Or.inr (fun e2 => h4 j i hj hi e g hb e2.symm)
theorem ApartM.far {w w' : World} {B G m B0 : Nat} {vs : Nat → Value} {ns : Nat → Nat} {X : Nat → List Bool} {r : Option Nat} (h : ApartM w B G m vs ns X) (hg : w.grownBy w' r) (hr : ∀ g, r = some g → B0 ≤ g) (hlt : ∀ j, j < m → ∀ g, (vs j).ownBlock = some g → g < B0) (hG : G < B0) : ApartM w' B G m vs ns X := by
  obtain ⟨h1, h2, h3, h4, h5, h6⟩ := h
  refine ⟨fun j hj => ?_, h2, fun j hj => ?_, h4, h5, Nat.lt_of_lt_of_le h6 hg.size⟩
  · rw [World.cell?_of_block (hg.block G h6 (fun e => by have := hr G e.symm; omega))]
    exact h1 j hj
  · refine (h3 j hj).kept hg ?_
    cases hb : (vs j).ownBlock with
    | none => exact Or.inl rfl
    | some g => exact Or.inr (fun e2 => by have := hr g e2.symm; have := hlt j hj g hb; omega)
theorem ApartM.below {w w' : World} {B G m : Nat} {vs : Nat → Value} {ns : Nat → Nat} {X : Nat → List Bool} (h : ApartM w B G m vs ns X) (hb : Below w.heap.size w w') : ApartM w' B G m vs ns X :=
  ⟨fun j hj => (World.cell?_of_block (hb.block G h.hG)).trans (h.outer j hj), h.small, fun j hj => rowG_below (h.rows j hj) hb, h.ne, h.neG, Nat.lt_of_lt_of_le h.hG hb.size⟩

/-- The copies. -/
structure Cps (w : World) (B0 j : Nat) (gv : Value) (cps : Nat → Value) (ns : Nat → Nat) (X : Nat → List Bool) : Prop where
  list : w.ownsRow B0 28 1 gv j ((List.range j).map cps)
  rows : ∀ t, t < j → w.ownsRow B0 4 1 (cps t) (ns t) ((X t).map Value.bool)
theorem Cps.below {w w' : World} {B0 j : Nat} {gv : Value} {cps : Nat → Value} {ns : Nat → Nat} {X : Nat → List Bool} (h : Cps w B0 j gv cps ns X) (hb : Below w.heap.size w w') : Cps w' B0 j gv cps ns X := ⟨rowG_below h.list hb, fun t ht => rowG_below (h.rows t ht) hb⟩
theorem Cps.keep {w w' : World} {B0 j : Nat} {gv : Value} {cps : Nat → Value} {ns : Nat → Nat} {X : Nat → List Bool} {r : Option Nat} (h : Cps w B0 j gv cps ns X) (hg : w.grownBy w' r) (hr : ∀ g, r = some g → g < B0) : Cps w' B0 j gv cps ns X := by
  have k : ∀ {e : TypeId} {n : Nat} {v : Value} {xs : List Value}, w.ownsRow B0 e 1 v n xs → w'.ownsRow B0 e 1 v n xs := fun {e n v xs} h9 => by
    refine h9.kept hg ?_
    cases hb : v.ownBlock with
    | none => exact Or.inl rfl
    | some g => exact Or.inr (fun e2 => by have := hr g e2.symm; have := (h9.lt g hb).1; omega)
  exact ⟨k h.list, fun t ht => k (h.rows t ht)⟩
theorem Cps.add {w w' : World} {B0 j : Nat} {gv gv' v : Value} {cps : Nat → Value} {ns : Nat → Nat} {X : Nat → List Bool} (h : Cps w B0 j gv cps ns X) (hrow : w.ownsRow B0 4 1 v (ns j) ((X j).map Value.bool)) (hg : w.grownBy w' gv.ownBlock) (hl : w'.ownsRow B0 28 1 gv' (j + 1) ((List.range j).map cps ++ [v])) :
    Cps w' B0 (j + 1) gv' (fun t => if t = j then v else cps t) ns X := by
  refine ⟨?_, fun t ht => ?_⟩
  · rw [List.range_succ, List.map_append]
    have e1 : (List.range j).map (fun t => if t = j then v else cps t) = (List.range j).map cps := by
      apply List.map_congr_left
      intro t ht
      rw [if_neg (by have := List.mem_range.1 ht; omega)]
    rw [e1]
    simpa using hl
  · by_cases e : t = j
    · subst e
      rw [if_pos rfl]
      exact rowG_other hrow hg h.list (by decide)
    · rw [if_neg e]
      exact rowG_other (h.rows t (by omega)) hg h.list (by decide)
/-- The rows when the first i are turned round. -/
def turn1 (X : Nat → List Bool) (i : Nat) : Nat → List Bool := fun j => if j < i then (X j).map not else X j
def turnK (xs : List Bool) (k : Nat) : List Bool := (xs.take k).map not ++ xs.drop k
theorem turnK_length (xs : List Bool) (k : Nat) : (turnK xs k).length = xs.length := by simp [turnK]; omega
theorem turnK_getD (xs : List Bool) (k : Nat) (h : k < xs.length) : (turnK xs k).getD k false = xs.getD k false := by
  unfold turnK
  rw [List.getD_eq_getElem?_getD, List.getElem?_append_right (by simp; omega), List.getElem?_drop, List.getD_eq_getElem?_getD]
  congr 2
  simp
  omega
theorem turnK_step (xs : List Bool) (k : Nat) (h : k < xs.length) : (turnK xs k).set k (!xs.getD k false) = turnK xs (k + 1) := by
  have hl : ((xs.take k).map not).length = k := by simp; omega
  unfold turnK
  rw [List.set_append_right _ _ (by omega), hl, Nat.sub_self, List.drop_eq_getElem_cons h, List.set_cons_zero, List.take_succ_eq_append_getElem h, List.map_append, List.getD_eq_getElem?_getD, List.getElem?_eq_getElem h]
  simp
theorem ownM_cell {w : World} {B g n cap : Nat} {xs : List Bool} (h : w.ownsRow B 4 1 (.slice (some ⟨g, 0, none⟩) n cap) n (xs.map Value.bool)) (j : Nat) (hj : j < n) : w.cell? ⟨g, j, none⟩ = some (.bool (xs.getD j false)) := by
  have hl : xs.length = n := by have := h.1; simpa using this
  rw [h.cellAt j (by omega), List.getElem?_map, List.getElem?_eq_getElem (by omega), List.getD_eq_getElem?_getD, List.getElem?_eq_getElem (by omega)]
  rfl
theorem made0M (w : World) : (w.alloc (.cells #[] 4)).ownsRow w.heap.size 4 1 (.slice (some ⟨w.heap.size, 0, none⟩) 0 0) 0 [] := World.ownsRow_made w #[] 0 (Nat.le_refl _) (by simp [maxLen]) rfl
theorem cell_one28 (u : World) (v : Value) : ∀ j x, [v][j]? = some x → (u.alloc (.cells #[v] 28)).cell? ((⟨u.heap.size, 0, none⟩ : Addr).add j) = some x := by
  intro j x hj
  have h9 := heap_alloc_new u (.cells #[v] 28)
  match j, hj with
  | 0, hj =>
    rw [plain_add]
    simp only [World.cell?, h9]
    simpa using hj
  | j + 1, hj => simp at hj
theorem own_form28 {w : World} {B n : Nat} {v : Value} {xs : List Value} (h : w.ownsRow B 28 1 v n xs) : ∃ a c, v = .slice a n c := by
  rcases h.2 with ⟨hv, h0⟩ | ⟨g, cap, cur, hv, _⟩
  · exact ⟨none, 0, by rw [hv, h0]⟩
  · exact ⟨_, _, hv⟩
theorem not_ne (a b : Bool) (h : a = !b) : (a == b) = false := by cases a <;> cases b <;> simp_all

set_option maxHeartbeats 8000000 in
set_option maxRecDepth 100000 in
theorem marksApart_any (w : World) (B G m cm : Nat) (vs : Nat → Value) (ns : Nat → Nat) (X : Nat → List Bool) (hA : ApartM w B G m vs ns X) (hm : m ≤ 100) (hB : B ≤ w.heap.size) :
    Calls Tryd.prog 22 #[.slice (some ⟨G, 0, none⟩) m cm] w fun e w' => e = .returned (.bool true) ∧ Kt B w w' := by
  obtain ⟨i0, hi0, hz0, hz1, hz2⟩ := info_parts info4
  obtain ⟨j0, hj0, kz0, kz1, kz2⟩ := info_parts info28
  have HA : Hid (ApartM w B G m vs ns X) := hA
  clear hA
  go_enter Tryd.func22, Tryd.ntmps22
  go_wp2
  go_loopw [3] (fun i wr => ∃ k : Nat, k ≤ m ∧ i = .int .i64 k ∧ Hid (ApartM wr B G m vs ns (turn1 X k)) ∧ Hid (Kt B w wr)) (fun i _ => m - (intOf i).toNat)
  case atStart =>
    refine ⟨0, Nat.zero_le _, rfl, ?_, Kt.refl _ _⟩
    have e : turn1 X 0 = X := by funext j; simp [turn1]
    rw [e]
    exact HA
  case round =>
    obtain ⟨i, hi, rfl, HA1, HK1⟩ := hrel
    clear HA
    by_cases hlt : i < m
    · obtain ⟨W0, hW0⟩ : ∃ W0, W0 = wr := ⟨_, rfl⟩
      subst hW0
      obtain ⟨B0, hB0⟩ : ∃ B0, B0 = W0.heap.size := ⟨_, rfl⟩
      have HLT : Hid (∀ j, j < m → ∀ g, (vs j).ownBlock = some g → g < B0) := fun j hj g hg => by rw [hB0]; exact ((HA1.out.rows j hj).lt g hg).2
      have hGB : G < B0 := by rw [hB0]; exact HA1.out.hG
      have hBB : B ≤ B0 := by rw [hB0]; exact Nat.le_trans hB HK1.out.bel.size
      have hB0w : B0 ≤ W0.heap.size := by omega
      have hBw0 : w.heap.size ≤ B0 := by rw [hB0]; exact HK1.out.bel.size
      have HC0 : Hid (Cps W0 B0 0 (.slice none 0 0) (fun _ => .slice none 0 0) ns (turn1 X i)) := ⟨World.ownsRow_nil _ _ _ _, fun t ht => absurd ht (Nat.not_lt_zero _)⟩
      have m1 : (i : Int) < (m : Int) := by omega
      have hd1 : decide ((i : Int) < (m : Int)) = true := decide_eq_true m1
      clear hB0
      go_wp2
      go_loopw [4, 5] (fun gv jj wq => ∃ (j : Nat) (cps : Nat → Value), j ≤ m ∧ jj = .int .i64 j ∧ Hid (Cps wq B0 j gv cps ns (turn1 X i)) ∧ Hid (ApartM wq B G m vs ns (turn1 X i)) ∧ Hid (Kt B w wq) ∧ B0 ≤ wq.heap.size) (fun _ jj _ => m - (intOf jj).toNat)
      case atStart => exact ⟨0, _, Nat.zero_le _, rfl, HC0, HA1, HK1, hB0w⟩
      case round =>
        obtain ⟨j, cps, hj, rfl, HC, HA2, HK2, hBq⟩ := hrel
        clear HC0 HA1 HK1 hB0w
        obtain ⟨ga, gc, hgv⟩ := own_form28 HC.out.list
        subst hgv
        by_cases hlt2 : j < m
        · have hrow := HA2.out.rows j hlt2
          obtain ⟨n, hn⟩ : ∃ n, n = ns j := ⟨_, rfl⟩
          obtain ⟨v, hv⟩ : ∃ v, v = vs j := ⟨_, rfl⟩
          have hc := HA2.out.outer j hlt2
          have hns := HA2.out.small j hlt2
          rw [← hn] at hns hrow
          rw [← hv] at hrow hc
          obtain ⟨g, c, rfl, hBg, hgl⟩ := ownB_shape hrow hns.1
          obtain ⟨bs, hbs⟩ : ∃ bs, turn1 X i j = bs := ⟨_, rfl⟩
          rw [hbs] at hrow
          have hrd : ∀ q u, (bs.map Value.bool)[q]? = some u → (wr.alloc (.cells #[] 4)).cell? ((⟨g, 0, none⟩ : Addr).add q) = some u := World.ownsRow.cells (hrow.alloc _) rfl
          have hlen : (bs.map Value.bool).length = n * 1 := by have := hrow.1; simpa using this
          have HN : Hid (n = ns j) := hn
          have HBS : Hid (turn1 X i j = bs) := hbs
          have HRD : Hid _ := hrd
          have HLEN : Hid ((bs.map Value.bool).length = n * 1) := hlen
          have HLI : Hid (wr.ownsRow B0 28 1 (.slice ga j gc) j ((List.range j).map cps)) := HC.out.list
          have hc' : (wr.alloc (.cells #[] 4)).cell? ⟨G, j, none⟩ = some (.slice (some ⟨g, 0, none⟩) n c) := (World.cell?_of_block (Below.heap_alloc wr _ G HA2.out.hG)).trans hc
          have m2 : (j : Int) < (m : Int) := by omega
          have hd2 : decide ((j : Int) < (m : Int)) = true := decide_eq_true m2
          have T1 : Hid True := trivial
          have hn2 : n ≤ 2000000000 := hns.2
          have hn1 : 0 < n := hns.1
          clear hn hv hrow hbs hrd hlen hns hc
          go_wp2_with (first
            | (at_builtin; have zz := T1; clear T1 zz; refine wpList_append_own _ rfl (.tmp 24) (.tmp 28) 28 rfl B0 4 i0 (.bool false) 1 1 Tryd.underlying28 hi0 hz0 hz1 hz2 rfl (by decide) _ 0 [] rfl (ownsRow_base (made0M wr) hBq) ⟨g, 0, none⟩ n c (bs.map Value.bool) rfl HLEN.out HRD.out (by intro u hu; obtain ⟨z, _, rfl⟩ := List.mem_map.1 hu; rfl) (by simp [maxLen]; omega) (by omega) (by simp; omega) ?_; intro v1 t1 own1 grow1 _
               have bl1 : Below wr.heap.size wr t1 := (below_alloc wr (.cells #[] 4)).grown grow1 (by simp) (fun i hi => by cases hi; exact Nat.le_refl _)
               have own2 : t1.ownsRow B0 4 1 v1 n (bs.map Value.bool) := (by simpa using own1)
               obtain ⟨h1, c1, rfl, hb1, hb2⟩ := ownB_shape own2 hn1
               have HOV : Hid (t1.ownsRow B0 4 1 (.slice (some ⟨h1, 0, none⟩) n c1) n (bs.map Value.bool)) := own2
               have HBL : Hid (Below wr.heap.size wr t1) := bl1
               clear own1 grow1 own2 bl1)
            | (at_builtin; refine wpList_append_own _ rfl (.tmp 23) (.tmp 30) 55 rfl B0 28 j0 (.slice none 0 0) 1 24 Tryd.underlying55 hj0 kz0 kz1 kz2 rfl (by decide) _ j ((List.range j).map cps) rfl ((rowG_below HLI.out HBL.out).alloc _) ⟨t1.heap.size, 0, none⟩ 1 1 [.slice (some ⟨h1, 0, none⟩) n c1] rfl rfl (cell_one28 t1 _) (by simp [Value.oneCell']) (by simp [maxLen]; omega) (by omega) (by have := HBL.out.size; simp; omega) ?_; intro v2 t2 own2 grow2 _
               have grow3 : t1.grownBy t2 (Value.slice ga j gc).ownBlock := grown_up (below_alloc t1 (.cells #[.slice (some ⟨h1, 0, none⟩) n c1] 28)) grow2
               have HC2 : Hid (Cps t2 B0 (j + 1) v2 (fun t => if t = j then .slice (some ⟨h1, 0, none⟩) n c1 else cps t) ns (turn1 X i)) := (HC.out.below HBL.out).add (by rw [HBS.out, ← HN.out]; exact HOV.out) grow3 own2
               have hgb : ∀ q, (Value.slice ga j gc).ownBlock = some q → B0 ≤ q := fun q hq => (HLI.out.lt q hq).1
               have HA3 : Hid (ApartM t2 B G m vs ns (turn1 X i)) := (HA2.out.below HBL.out).far grow3 hgb HLT.out hGB
               have HK3 : Hid (Kt B w t2) := (HK2.out.up HBL.out hB).grow grow3 hB (fun q hq => ⟨Nat.le_trans hBB (hgb q hq), Or.inl (Nat.le_trans hBw0 (hgb q hq))⟩)
               have hB3 : B0 ≤ t2.heap.size := (by have h8 := HBL.out.size; have h7 := grow3.size; omega)
               clear own2 grow2 grow3 hgb))
          go_roundw
          case rel => exact ⟨j + 1, _, by omega, by go_num, HC2, HA3, HK3, hB3⟩
          case measure => simp [intOf]; omega
        · have hjm : m = j := by omega
          subst hjm
          have hrow := HA2.out.rows i hlt
          obtain ⟨n, hn⟩ : ∃ n, n = ns i := ⟨_, rfl⟩
          obtain ⟨v, hv⟩ : ∃ v, v = vs i := ⟨_, rfl⟩
          have hc := HA2.out.outer i hlt
          have hns := HA2.out.small i hlt
          rw [← hn] at hns hrow
          rw [← hv] at hrow hc
          obtain ⟨g, c, rfl, hBg, hgl⟩ := ownB_shape hrow hns.1
          have hti : turn1 X i i = X i := by simp [turn1]
          rw [hti] at hrow
          obtain ⟨bs, hbs⟩ : ∃ bs, X i = bs := ⟨_, rfl⟩
          rw [hbs] at hrow
          have hlen : bs.length = n := by have := hrow.1; simpa using this
          have HN : Hid (n = ns i) := hn
          have HV : Hid (Value.slice (some ⟨g, 0, none⟩) n c = vs i) := hv
          have HBS : Hid (X i = bs) := hbs
          have HLEN : Hid (bs.length = n) := hlen
          have hGg : g ≠ G := fun e => HA2.out.neG i hlt (by rw [← hv, e]; rfl)
          have hgB0 : g < B0 := HLT.out i hlt g (by rw [← hv]; rfl)
          have hGs := HA2.out.hG
          obtain ⟨W1, hW1⟩ : ∃ W1, W1 = wr := ⟨_, rfl⟩
          subst hW1
          have HROW : Hid (W1.ownsRow B 4 1 (.slice (some ⟨g, 0, none⟩) n c) n (bs.map Value.bool)) := hrow
          clear hn hv hrow hbs hlen hti
          go_wp2
          go_loopw [6] (fun kk wq => ∃ k : Nat, k ≤ n ∧ kk = .int .i64 k ∧ Hid (wq.ownsRow B 4 1 (.slice (some ⟨g, 0, none⟩) n c) n ((turnK bs k).map Value.bool)) ∧ Hid (W1.grownBy wq (some g))) (fun kk _ => n - (intOf kk).toNat)
          case atStart =>
            refine ⟨0, Nat.zero_le _, rfl, ?_, World.grownBy.refl _ _⟩
            have e : turnK bs 0 = bs := by simp [turnK]
            rw [e]
            exact HROW
          case round =>
            obtain ⟨k, hk, rfl, HR, HG⟩ := hrel
            have hc2 := (World.cell?_of_block (a := ⟨G, i, none⟩) (HG.out.block G hGs (fun e => hGg (Option.some.inj e).symm))).trans hc
            by_cases hlt3 : k < n
            · have q0 := ownM_cell HR.out k hlt3
              rw [turnK_getD bs k (by rw [HLEN.out]; exact hlt3)] at q0
              have f0 := World.ownsRow.frozenAt HR.out k
              have hset := World.ownsRow.stored HR.out k (.bool (!bs.getD k false))
              rw [← List.map_set, turnK_step bs k (by rw [HLEN.out]; exact hlt3)] at hset
              obtain ⟨z, hz⟩ : ∃ z, bs.getD k false = z := ⟨_, rfl⟩
              rw [hz] at q0 hset
              have HS : Hid _ := hset.1
              have HG2 : Hid _ := grownBy_trans HG.out hset.2
              have m2 : (k : Int) < (n : Int) := by omega
              have hd2 : decide ((k : Int) < (n : Int)) = true := decide_eq_true m2
              clear hset HR HG hz
              go_wp2
              go_region
              go_wp2
              go_roundw
              case rel => exact ⟨k + 1, by omega, by go_num, World.ownsRow.drew HS.out, ⟨HG2.out.os, HG2.out.tape, HG2.out.output, HG2.out.size, fun q hq hr => HG2.out.block q hq hr⟩⟩
              case measure => simp [intOf]; omega
            · have hkn : n = k := by omega
              subst hkn
              have hr2 := HR.out
              have e2 : turnK bs n = bs.map not := by unfold turnK; rw [List.take_of_length_le (by rw [HLEN.out]; exact Nat.le_refl _), List.drop_of_length_le (by rw [HLEN.out]; exact Nat.le_refl _), List.append_nil]
              rw [e2] at hr2
              obtain ⟨W2, hW2⟩ : ∃ W2, W2 = wr := ⟨_, rfl⟩
              subst hW2
              have HG0 : Hid (GrownM W2 W2 B (.slice (some ⟨g, 0, none⟩) n c) (.slice (some ⟨g, 0, none⟩) n c) n 0 (bs.map not) []) := grown_startM hr2
              have hBw : B ≤ W2.heap.size := by have h1 := HK2.out.bel.size; have h2 := HG.out.size; omega
              clear hr2 HR e2
              go_wp2
              go_loopw [7, 8] (fun v tt wq => ∃ (t : Nat) (Y : List Bool), t ≤ 20 ∧ tt = .int .i64 t ∧ Hid (GrownM W2 wq B (.slice (some ⟨g, 0, none⟩) n c) v n t (bs.map not) Y)) (fun _ tt _ => 20 - (intOf tt).toNat)
              case atStart => exact ⟨0, [], by omega, rfl, HG0⟩
              case round =>
                obtain ⟨t, Y, ht, rfl, HGr⟩ := hrel
                clear HG0
                by_cases hlt4 : t < 20
                · have hGr := HGr.out
                  have m2 : (t : Int) < 20 := by omega
                  have hd2 : decide ((t : Int) < 20) = true := decide_eq_true m2
                  obtain ⟨zz, hzz⟩ : ∃ zz, ((t : Int) % 2 == (i : Int) % 2) = zz := ⟨_, rfl⟩
                  clear HGr
                  go_wp2_with (first
                    | (at_builtin; refine wpList_growM rfl (.tmp 63) (.tmp 69) rfl hGr hBw zz (by omega) rfl rfl ?_; intro v5 w5 hg5 bel5; have HG5 : Hid (GrownM _ _ _ _ _ _ _ _ _) := hg5; clear hGr hg5 bel5))
                  go_roundw
                  case rel => exact ⟨t + 1, _, by omega, by go_num, HG5⟩
                  case measure => simp [intOf]; omega
                · have ht9 : t = 20 := by omega
                  subst ht9
                  obtain ⟨W3, hW3⟩ : ∃ W3, W3 = wr := ⟨_, rfl⟩
                  subst hW3
                  have hg3 : W1.grownBy W3 (some g) := grownBy_trans HG.out HGr.out.grow
                  have hlong : ∃ h c9, (some ⟨h, 0, none⟩ : Option Addr) = some ⟨h, 0, none⟩ ∧ True := ⟨0, 0, rfl, trivial⟩
                  have HA4 : Hid (ApartM W3 B G m vs ns (turn1 X (i + 1))) := by
                    refine HA2.out.move i hlt (by rw [← HV.out]; exact hg3) ?_ ?_
                    · have e1 : turn1 X (i + 1) i = (X i).map not := by simp [turn1]
                      rw [e1, HBS.out, ← HV.out, ← HN.out]
                      exact HGr.out.old
                    · intro q hq hne
                      unfold turn1
                      by_cases h1 : q < i
                      · rw [if_pos h1, if_pos (by omega)]
                      · rw [if_neg h1, if_neg (by omega)]
                  have HC4 : Hid (Cps W3 B0 m (.slice ga m gc) cps ns (turn1 X i)) := HC.out.keep hg3 (fun q hq => by cases hq; exact hgB0)
                  have HK4 : Hid (Kt B w W3) := HK2.out.grow hg3 hB (fun q hq => by
                    cases hq
                    obtain ⟨h8, cs, h7⟩ := row_blk HROW.out g rfl
                    exact ⟨h8, Or.inr ⟨cs, h7⟩⟩)
                  obtain ⟨g2, cap2, hv2, hgl21, hgl22⟩ := ownB_shape HGr.out.new (by omega)
                  subst hv2
                  obtain ⟨gg, gcc, hgg⟩ : ∃ gg gcc, Value.slice ga m gc = .slice (some ⟨gg, 0, none⟩) m gcc := by
                    rcases HC4.out.list.2 with ⟨h8, h7⟩ | ⟨g', cap', cur, h8, _⟩
                    · omega
                    · exact ⟨g', cap', h8⟩
                  cases hgg
                  have H3 : Hid (∀ q, q < m → ∃ y1 z1 y2 z2, W3.cell? ⟨G, q, none⟩ = some (.slice (some ⟨y1, 0, none⟩) (ns q) z1) ∧ W3.cell? ⟨gg, q, none⟩ = some (.slice (some ⟨y2, 0, none⟩) (ns q) z2) ∧ ns q ≤ 2000000000 ∧ ∀ t, t < ns q → W3.cell? ⟨y1, t, none⟩ = some (.bool ((turn1 X (i + 1) q).getD t false)) ∧ W3.cell? ⟨y2, t, none⟩ = some (.bool ((turn1 X i q).getD t false))) := fun q hq => by
                    have r1 := HA4.out.rows q hq
                    have r2 := HC4.out.rows q hq
                    have r3 := HA4.out.small q hq
                    have r4 := HA4.out.outer q hq
                    have r5 := World.ownsRow.cellAt HC4.out.list q (by omega)
                    rw [List.getElem?_map, List.getElem?_range hq, Option.map_some] at r5
                    obtain ⟨y1, z1, h1, _, _⟩ := ownB_shape r1 r3.1
                    obtain ⟨y2, z2, h2, _, _⟩ := ownB_shape r2 r3.1
                    rw [h1] at r1 r4
                    rw [h2] at r2 r5
                    exact ⟨y1, z1, y2, z2, r4, r5, r3.2, fun t ht => ⟨ownM_cell r1 t ht, ownM_cell r2 t ht⟩⟩
                  have HXL : Hid (∀ q, q < m → (turn1 X i q).length = ns q) := fun q hq => by have := (HC4.out.rows q hq).1; simpa using this
                  have hc9 : W3.cell? ⟨G, i, none⟩ = some (.slice (some ⟨g, 0, none⟩) n c) := by
                    have h8 := HA4.out.outer i hlt
                    rw [← HV.out] at h8
                    exact h8
                  clear HGr HG HC HA2 HK2 hg3 hlong hc HC4
                  go_wp2
                  go_loopw [9] (fun ii wq => ∃ (q p : Nat), q ≤ m ∧ ii = .int .i64 q ∧ wq = W3.drewN p) (fun ii _ => m - (intOf ii).toNat)
                  case atStart => exact ⟨0, 0, Nat.zero_le _, rfl, rfl⟩
                  case round =>
                    obtain ⟨q, p, hq, rfl, rfl⟩ := hrel
                    by_cases hlt5 : q < m
                    · obtain ⟨y1, z1, y2, z2, e1, e2, hnq, hcells⟩ := H3.out q hlt5
                      obtain ⟨Nq, hnq9⟩ : ∃ Nq, ns q = Nq := ⟨_, rfl⟩
                      have HXQ : Hid ((turn1 X i q).length = Nq) := by unfold Hid; rw [← hnq9]; exact HXL.out q hlt5
                      rw [hnq9] at e1 e2 hnq hcells
                      have HCE : Hid (∀ t, t < Nq → W3.cell? ⟨y1, t, none⟩ = some (.bool ((turn1 X (i + 1) q).getD t false)) ∧ W3.cell? ⟨y2, t, none⟩ = some (.bool ((turn1 X i q).getD t false))) := hcells
                      have m3 : (q : Int) < (m : Int) := by omega
                      have hd3 : decide ((q : Int) < (m : Int)) = true := decide_eq_true m3
                      clear hcells hnq9
                      go_wp2
                      go_loopw [10] (fun tt wq => ∃ (t p2 : Nat), t ≤ Nq ∧ tt = .int .i64 t ∧ wq = W3.drewN p2) (fun tt _ => Nq - (intOf tt).toNat)
                      case atStart => exact ⟨0, p, Nat.zero_le _, rfl, rfl⟩
                      case round =>
                        obtain ⟨t, p2, ht2, rfl, rfl⟩ := hrel
                        by_cases hlt6 : t < Nq
                        · obtain ⟨s1, s2⟩ := HCE.out t hlt6
                          obtain ⟨Z, hZ⟩ : ∃ Z, (turn1 X i q).getD t false = Z := ⟨_, rfl⟩
                          rw [hZ] at s2
                          have m4 : (t : Int) < (Nq : Int) := by omega
                          have hd4 : decide ((t : Int) < (Nq : Int)) = true := decide_eq_true m4
                          by_cases hqi : q = i
                          · have hY : (turn1 X (i + 1) q).getD t false = !Z := by
                              rw [← hZ, hqi]
                              unfold turn1
                              rw [if_pos (by omega), if_neg (by omega), List.getD_eq_getElem?_getD, List.getD_eq_getElem?_getD, List.getElem?_map]
                              have h9 := HXQ.out
                              rw [hqi] at h9
                              unfold turn1 at h9
                              rw [if_neg (by omega)] at h9
                              rw [List.getElem?_eq_getElem (by omega)]
                              rfl
                            rw [hY] at s1
                            have hb1 : ((!Z) == Z) = false := not_ne _ _ rfl
                            have hb2 : ((i : Int) == (q : Int)) = true := by rw [beq_iff_eq]; omega
                            clear hY hZ hqi
                            go_wp2
                            go_quiet (fail)
                            all_goals go_wp2
                            all_goals
                              go_roundw
                              case rel => exact ⟨t + 1, _, by omega, by go_num, rfl⟩
                              case measure => simp [intOf]; omega
                          · have hY : (turn1 X (i + 1) q).getD t false = Z := by
                              rw [← hZ]
                              unfold turn1
                              by_cases h1 : q < i
                              · rw [if_pos h1, if_pos (by omega)]
                              · rw [if_neg h1, if_neg (by omega)]
                            rw [hY] at s1
                            have hb2 : ((i : Int) == (q : Int)) = false := by rw [beq_eq_false_iff_ne]; omega
                            have hn1 : ¬ (i : Int) = (q : Int) := by omega
                            have hn2 : ¬ i = q := by omega
                            have hbn : ((i : Int) != (q : Int)) = true := by rw [bne, hb2]; rfl
                            clear hY hZ hqi
                            cases Z
                            all_goals
                              go_wp2
                              go_quiet (fail)
                            all_goals go_wp2
                            all_goals
                              go_roundw
                              case rel => exact ⟨t + 1, _, by omega, by go_num, rfl⟩
                              case measure => simp [intOf]; omega
                        · have htn : Nq = t := by omega
                          subst htn
                          go_wp2
                          go_roundw
                          case rel => exact ⟨q + 1, p2, by omega, by go_num, rfl⟩
                          case measure => simp [intOf]; omega
                    · have hqm : m = q := by omega
                      subst hqm
                      go_wp2
                      go_roundw
                      case rel => exact ⟨i + 1, by omega, by go_num, HA4.out.below (below_drewN (Below.refl _ _) _), HK4.out.up (below_drewN (Below.refl _ _) _) hB⟩
                      case measure => simp [intOf]; omega
    · have him : m = i := by omega
      subst him
      go_wp2
      go_ret
      exact ⟨rfl, HK1.out⟩
end Go.Proofs.YteefekhlbillfaaDoor
