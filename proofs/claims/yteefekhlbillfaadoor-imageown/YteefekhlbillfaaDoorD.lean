/-
  SEAT YteefekhlbillfaaDoor: rows of marks: marks, held.
-/
import Derived.Test.YteefekhlbillfaaDoorC
namespace Go.Proofs.YteefekhlbillfaaDoor
open Go.RowKit
set_option linter.unusedVariables false

def ReadsB (w : World) (a : Option Addr) (len : Nat) (bs : List Bool) : Prop :=
  bs.length = len ∧ (a = none → len = 0) ∧ ∀ x, a = some x → ∀ i, i < len → w.cell? (x.add i) = some (.bool (bs.getD i false))

theorem ReadsB.pos {w : World} {a : Option Addr} {len : Nat} {bs : List Bool} (h : ReadsB w a len bs) (hp : 0 < len) :
    ∃ b off, a = some ⟨b, off, none⟩ ∧ b < w.heap.size ∧ ∀ i, i < len → w.cell? ⟨b, off + i, none⟩ = some (.bool (bs.getD i false)) := by
  obtain ⟨hl, hn, hc⟩ := h
  cases a with
  | none => have := hn rfl; omega
  | some x =>
    obtain ⟨b, off, spot⟩ := x
    have h0 := hc _ rfl 0 hp
    have hspot : spot = none := by simpa [Addr.add] using World.cell?_spot h0
    subst hspot
    refine ⟨b, off, rfl, by simpa [Addr.add] using block_lt_of_cell h0, fun i hi => ?_⟩
    have h1 := hc _ rfl i hi
    rw [plain_add] at h1
    exact h1

theorem ReadsB.below {w w' : World} {a : Option Addr} {len : Nat} {bs : List Bool} (h : ReadsB w a len bs) (hb : Below w.heap.size w w') : ReadsB w' a len bs := by
  obtain ⟨hl, hn, hc⟩ := h
  refine ⟨hl, hn, fun x hx i hi => ?_⟩
  have h1 := hc x hx i hi
  rw [hb.cell (block_lt_of_cell h1)]
  exact h1

def OwnB (w : World) (B g n cap : Nat) (xs : List Bool) : Prop :=
  w.ownsRow B 4 1 (.slice (some ⟨g, 0, none⟩) n cap) n (xs.map Value.bool)

theorem info4 : (Tryd.prog.info? 4).map (fun i => (i.zero, i.size, i.bytes)) = some (some (.bool false), 1, 1) := by kernel_rfl

theorem bools_oneCell (zs : List Bool) : ∀ u ∈ zs.map Value.bool, u.oneCell' = true := by
  intro u hu
  obtain ⟨b, _, rfl⟩ := List.mem_map.1 hu
  rfl

theorem ReadsB.news {w : World} {x : Addr} {len : Nat} {zs : List Bool} (h : ReadsB w (some x) len zs) : ∀ j u, (zs.map Value.bool)[j]? = some u → w.cell? (x.add j) = some u := by
  intro j u hj
  obtain ⟨hl, _, hc⟩ := h
  rw [List.getElem?_map] at hj
  cases hz : zs[j]? with
  | none => rw [hz] at hj; simp at hj
  | some q =>
    rw [hz] at hj
    simp at hj
    have hlt : j < zs.length := by
      rcases Nat.lt_or_ge j zs.length with h | h
      · exact h
      · rw [List.getElem?_eq_none h] at hz; simp at hz
    rw [hc x rfl j (by omega), ← hj]
    simp [List.getD, hz]

theorem news_oneB (w : World) (z : Bool) : ∀ j u, [Value.bool z][j]? = some u → (w.alloc (.cells #[.bool z] 4)).cell? ((⟨w.heap.size, 0, none⟩ : Addr).add j) = some u := by
  intro j u hj
  match j, hj with
  | 0, hj => simp at hj; subst hj; simp [Addr.add]

theorem own_shapeB {w : World} {B n : Nat} {v : Value} {xs : List Value} (h : w.ownsRow B 4 1 v n xs) (hn : 0 < n) : ∃ g cap, v = .slice (some ⟨g, 0, none⟩) n cap ∧ n ≤ cap ∧ cap ≤ maxLen ∧ B ≤ g ∧ g < w.heap.size := by
  rcases h.2 with ⟨_, h0⟩ | ⟨g, cap, cur, hv, hb, hg, hnc, hcm, _⟩
  · omega
  · refine ⟨g, cap, hv, hnc, hcm, hb, ?_⟩
    rcases Nat.lt_or_ge g w.heap.size with h | h
    · exact h
    · simp [Array.getElem?_eq_none h] at hg

theorem made_ownB (w : World) (n : Nat) (hn : n ≤ 9223372036854775807) : OwnB (w.alloc (.cells (madeCells #[.bool false] n) 4)) w.heap.size w.heap.size 0 n [] := by
  simpa [OwnB] using World.ownsRow_made w (madeCells #[.bool false] n) n (Nat.le_refl _) (by simp [maxLen]; omega) (by simp [madeCells])

theorem wpList_append_readsB {w : World} {ops : Array Oper} {rest : List Oper} {o : Oper} {a : Act} {Q : Exit → Act → World → Prop} (hgd : o.guard = none) (s x : Operand)
    (ho : o.op = .call { callee := .builtin .append, args := #[s, x], argTypes := #[28, 28] })
    (base : Nat) (v : Value) (n : Nat) (xs : List Bool) (hs : a.eval s = v) (hown : w.ownsRow base 4 1 v n (xs.map (Value.bool)))
    (ad : Option Addr) (m c : Nat) (zs : List Bool) (hx : a.eval x = .slice ad m c) (hrd : ReadsB w ad m zs)
    (hb : n + m ≤ 140737488355328) (hbase : base ≤ w.heap.size)
    (h : ∀ v' w', w'.ownsRow base 4 1 v' (n + m) ((xs ++ zs).map (Value.bool)) → w.grownBy w' v.ownBlock → wpList Tryd.prog ops Q rest (a.put o.dst v') w') : wpList Tryd.prog ops Q (o :: rest) a w := by
  obtain ⟨i0, hi, hz0, hz1, hz2⟩ := info_parts info4
  cases ad with
  | some ad =>
    refine wpList_append_own w hgd s x 28 ho base 4 i0 (.bool false) 1 1 Tryd.underlying28 hi hz0 hz1 hz2 rfl (by decide) v n _ hs hown ad m c (zs.map (Value.bool)) hx (by simp [hrd.1]) hrd.news (bools_oneCell _) (by simp [maxLen]; omega) (by omega) hbase ?_
    intro v' w' h1 h2 _
    exact h v' w' (by rw [List.map_append]; exact h1) h2
  | none =>
    have h0 := hrd.2.1 rfl
    have hz : zs = [] := List.eq_nil_of_length_eq_zero (by have := hrd.1; omega)
    subst h0
    subst hz
    have hrun : (Builtin.append_ #[28, 28] o.type #[v, .slice none 0 c]).run Tryd.prog w = .ok v w := by
      rcases hown.2 with ⟨rfl, rfl⟩ | ⟨g, cap, cur, rfl, _, _, hnc, _⟩
      · simp [Builtin.append_, run_underlying Tryd.underlying28, sizeOf, typeInfo, hi, Builtin.lenOf, Builtin.firstCells]
      · simp [Builtin.append_, run_underlying Tryd.underlying28, sizeOf, typeInfo, hi, Builtin.lenOf, Builtin.firstCells, hnc, storeCells]
    refine wpList_plain hgd fun K hK => ?_
    unfold Oper.wp
    simp [execOp, ho, resolve, invoke, builtin, hs, hx, hrun, Result.andThen]
    exact hK _ _ (h v w (by simpa using hown) (World.grownBy.refl _ _))

def roomB (zs : List Bool) (k : Nat) : List Bool := zs ++ List.replicate k true
theorem roomB_succ (zs : List Bool) (k : Nat) : roomB zs (k + 1) = roomB zs k ++ [true] := by simp [roomB, List.replicate_succ']

theorem OwnB.len {w : World} {B g n cap : Nat} {xs : List Bool} (h : OwnB w B g n cap xs) : xs.length = n := by
  have := h.1
  simpa using this

theorem OwnB.cell {w : World} {B g n cap : Nat} {xs : List Bool} (h : OwnB w B g n cap xs) (j : Nat) (hj : j < n) : w.cell? ⟨g, j, none⟩ = some (.bool (xs.getD j false)) := by
  have hl := h.len
  have h1 := World.ownsRow.cellAt h j (by omega)
  rw [h1, List.getElem?_map, List.getElem?_eq_getElem (by omega)]
  simp [List.getD, List.getElem?_eq_getElem (show j < xs.length by omega)]

theorem OwnB.below {w w' : World} {B g n cap : Nat} {xs : List Bool} (h : OwnB w B g n cap xs) (hb : Below w.heap.size w w') : OwnB w' B g n cap xs := by
  obtain ⟨h1, h2⟩ := h
  refine ⟨h1, ?_⟩
  rcases h2 with h2 | ⟨g', cap', cur, hv, hg, hh, r⟩
  · exact Or.inl h2
  · refine Or.inr ⟨g', cap', cur, hv, hg, ?_, r⟩
    rw [hb.block g' ?_]
    · exact hh
    · rcases Nat.lt_or_ge g' w.heap.size with h | h
      · exact h
      · simp [Array.getElem?_eq_none h] at hh

theorem OwnB.room_le {w : World} {B g n cap : Nat} {xs : List Bool} (h : OwnB w B g n cap xs) (hn : 0 < n) : n ≤ cap ∧ cap ≤ maxLen := by
  obtain ⟨g', c', h1, h2, h3, _⟩ := own_shapeB h hn
  simp only [Value.slice.injEq, true_and] at h1
  obtain ⟨_, rfl⟩ := h1
  exact ⟨h2, h3⟩

theorem OwnB.reads {w : World} {B g n cap : Nat} {xs : List Bool} (h : OwnB w B g n cap xs) (m : Nat) (hm : m ≤ n) : ReadsB w (some ⟨g, 0, none⟩) m (xs.take m) := by
  have hl := h.len
  refine ⟨by simp; omega, (fun h => by cases h), fun x hx i hi => ?_⟩
  cases hx
  rw [plain_add, Nat.zero_add, h.cell i (by omega)]
  simp [List.getD, hi]

theorem roomB_getD (zs : List Bool) (i k : Nat) (h : i < zs.length) : (roomB zs k).getD i false = zs.getD i false := by
  simp [roomB, List.getD_eq_getElem?_getD, List.getElem?_append_left h]
theorem roomB_getD2 (zs : List Bool) (i k : Nat) (h : zs.length ≤ i) (h2 : i < zs.length + k) : (roomB zs k).getD i false = true := by
  simp [roomB, List.getD_eq_getElem?_getD, List.getElem?_append_right h, List.getElem?_replicate]
  rw [if_pos (by omega)]
  rfl

end Go.Proofs.YteefekhlbillfaaDoor
