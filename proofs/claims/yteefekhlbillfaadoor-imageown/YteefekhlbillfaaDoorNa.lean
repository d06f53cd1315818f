/-
  SEAT YteefekhlbillfaaDoor: the writer of a row.
-/
import Derived.Test.YteefekhlbillfaaDoorWd
import Derived.Test.YteefekhlbillfaaDoorGb
import Derived.Test.YteefekhlbillfaaDoorJ
import Derived.Test.YteefekhlbillfaaDoorPl
import Derived.Lib.AppendZerosOnto
import Derived.RangeFuncBox
namespace Go.Proofs.YteefekhlbillfaaDoor
open Go.RowKit
set_option linter.unusedVariables false

theorem zero_cells (k : Nat) : Builtin.zeroCells (Value.int .u8 0).cells k = ((List.replicate k (0 : Int)).map (Value.int .u8)).toArray := by
  apply Array.ext'
  simp [Builtin.zeroCells, Value.cells]
  apply List.ext_getElem
  · simp
  · intro i h1 h2
    simp [Nat.mod_one]

/-- append of so many zeros to a row of the call's own. -/
theorem run_append_zeros (w : World) (base g n cap k : Nat) (xs : List Int) (ty : TypeId) (hown : Own w base g n cap xs) (h0 : 0 < k) (hb : n + k ≤ 140737488355328) (hbase : base ≤ w.heap.size) :
    ∃ g' cap' w', (Builtin.append_ #[22, 3] ty #[.slice (some ⟨g, 0, none⟩) n cap, .int .i64 (k : Int)]).run Tryd.prog w = .ok (.slice (some ⟨g', 0, none⟩) (n + k) cap') w' ∧ Own w' base g' (n + k) cap' (xs ++ List.replicate k 0) ∧ w.grownBy w' (some g) := by
  obtain ⟨i, hi, hz0, hz1, hz2⟩ := info_parts info5
  have hlx := hown.len
  have hlen : ((xs ++ List.replicate k (0 : Int)).map (Value.int .u8)).length = (n + k) * 1 := by simp; omega
  rcases hown.2 with ⟨h, _⟩ | ⟨g1, cap1, cur, hv, hbg, hg, hnc, hcm, hcs, htake⟩
  · simp at h
  · simp only [Value.slice.injEq, Option.some.injEq, Addr.mk.injEq, and_true, true_and] at hv
    obtain ⟨rfl, rfl⟩ := hv
    by_cases hroom : n + k ≤ cap
    · have hw : IntKind.i64.wrap (k : Int) = k := by rw [IntKind.wrap_i64]; omega
      have hneg : ¬ ((k : Int) < 0) := by omega
      have hns : ¬ (k = 0) := by omega
      have h48 : ¬ ((281474976710656 : Int) < (k : Int)) := by omega
      have hst := run_storeCells_at Tryd.prog g (n * 1) 5 ((List.replicate k (0 : Int)).map (Value.int .u8)) 0 cur w hg (by simp; omega) (ints_oneCell _ _)
      simp only [Nat.add_zero, Nat.mul_one] at hst
      refine ⟨g, cap, _, ?_, ⟨hlen, .inr ⟨g, cap, _, rfl, hbg, setRow_heap w g cur (cur.toList.take n ++ ((List.replicate k (0 : Int)).map (Value.int .u8)) ++ cur.toList.drop (n + k)).toArray 5 _ hg, hroom, hcm, ?_, ?_⟩⟩, ⟨rfl, rfl, rfl, by simp, fun j _ hj => setRow_other w g j _ (fun e => hj (by simp [e]))⟩⟩
      · simp [Builtin.append_, run_underlying Tryd.underlying22, run_underlying Tryd.underlying3, sizeOf, typeInfo, zeroValue, hi, hz0, hz1, hz2, asInt, asIntOf, hw, hneg, hns, h48, hroom, zero_cells, Addr.add_lit] at hst ⊢
        rw [hst]
        rfl
      · simp only [List.size_toArray, List.length_append, List.length_take, List.length_drop, Array.length_toList, List.length_map, List.length_replicate]
        omega
      · rw [List.map_append, show (xs.map (Value.int .u8)) = cur.toList.take n by rw [← htake]; simp]
        exact List.take_left' (by simp; omega)
    · have holds : (Builtin.firstCells i.size n (.slice (some ⟨g, 0, none⟩) n cap)).run Tryd.prog w.drew = .ok (xs.map (Value.int .u8)).toArray w.drew := by
        have := run_firstCells_some (P := Tryd.prog) w.drew i.size n ⟨g, 0, none⟩ n cap (xs.map (Value.int .u8)) (by rw [hz1]; simp; omega) (World.ownsRow.cells hown (g := g) rfl)
        exact this
      have hr := Lib.run_append_grow_zeros (P := Tryd.prog) w 22 3 ty 5 i (.int .u8 0) .i64 .i64 Tryd.underlying22 Tryd.underlying3 hi hz0 (some ⟨g, 0, none⟩) n cap _ holds k h0 (by rw [hz1]; decide) (by omega) (by omega) (by rw [hz2]; omega) (by rw [hz2]; exact growslice_fits (by omega) (by omega))
      have hge := grownCap_ge w (n + k) cap 5
      have hcm' : grownCap w (n + k) cap 5 ≤ maxLen := grownCap_le_maxLen w (n + k) cap 5 (by simp only [maxLen]; omega)
      refine ⟨w.heap.size, grownCap w (n + k) cap 5, _, hr, ⟨hlen, .inr ⟨w.heap.size, _, _, rfl, hbase, heap_alloc_new w.drew _, hge, hcm', ?_, ?_⟩⟩, ⟨rfl, rfl, rfl, by simp, fun j hj _ => heap_alloc_old w.drew _ hj⟩⟩
      · simp only [Array.size_append, List.size_toArray, size_zeroCells, List.length_map]
        simp [Value.cells]
        omega
      · rw [zero_cells k]
        simp only [Array.toList_append, List.map_append]
        rw [List.take_left' (by simp; omega)]

theorem wpList_append_zeros {w : World} {ops : Array Oper} {rest : List Oper} {o : Oper} {a : Act} {Q : Exit → Act → World → Prop} (hgd : o.guard = none) (s x : Operand)
    (ho : o.op = .call { callee := .builtin .append, args := #[s, x], argTypes := #[22, 3] })
    (base g n cap : Nat) (xs : List Int) (hs : a.eval s = .slice (some ⟨g, 0, none⟩) n cap) (hown : Own w base g n cap xs) (k : Nat) (hx : a.eval x = .int .i64 (k : Int)) (h0 : 0 < k) (hb : n + k ≤ 140737488355328) (hbase : base ≤ w.heap.size)
    (h : ∀ g' cap' w', Own w' base g' (n + k) cap' (xs ++ List.replicate k 0) → w.grownBy w' (some g) → wpList Tryd.prog ops Q rest (a.put o.dst (.slice (some ⟨g', 0, none⟩) (n + k) cap')) w') : wpList Tryd.prog ops Q (o :: rest) a w := by
  obtain ⟨g', cap', w', hr, h1, h2⟩ := run_append_zeros w base g n cap k xs o.type hown h0 hb hbase
  refine wpList_plain hgd fun K hK => ?_
  unfold Oper.wp
  simp [execOp, ho, resolve, invoke, builtin, hs, hx, hr, Result.andThen]
  exact hK _ _ (h g' cap' w' h1 h2)

/-- A box of three cells, one of them written. -/
theorem blk3_0 {w : World} {q : Nat} {a b c : Value} {t : TypeId} (h : w.heap[q]? = some (.cells #[a, b, c] t (0, 0))) (v : Value) : (w.setCell ⟨q, 0, none⟩ v).heap[q]? = some (.cells #[v, b, c] t (0, 0)) := by
  obtain ⟨hlt, hk⟩ := Array.getElem?_eq_some_iff.1 h
  show (w.heap.modify q _)[q]? = _
  rw [Array.getElem?_eq_getElem (by rw [Array.size_modify]; exact hlt), Array.getElem_modify_self, hk]
  rfl
theorem blk3_1 {w : World} {q : Nat} {a b c : Value} {t : TypeId} (h : w.heap[q]? = some (.cells #[a, b, c] t (0, 0))) (v : Value) : (w.setCell ⟨q, 1, none⟩ v).heap[q]? = some (.cells #[a, v, c] t (0, 0)) := by
  obtain ⟨hlt, hk⟩ := Array.getElem?_eq_some_iff.1 h
  show (w.heap.modify q _)[q]? = _
  rw [Array.getElem?_eq_getElem (by rw [Array.size_modify]; exact hlt), Array.getElem_modify_self, hk]
  rfl
theorem blk3_2 {w : World} {q : Nat} {a b c : Value} {t : TypeId} (h : w.heap[q]? = some (.cells #[a, b, c] t (0, 0))) (v : Value) : (w.setCell ⟨q, 2, none⟩ v).heap[q]? = some (.cells #[a, b, v] t (0, 0)) := by
  obtain ⟨hlt, hk⟩ := Array.getElem?_eq_some_iff.1 h
  show (w.heap.modify q _)[q]? = _
  rw [Array.getElem?_eq_getElem (by rw [Array.size_modify]; exact hlt), Array.getElem_modify_self, hk]
  rfl
theorem blk3_cells {w : World} {q : Nat} {a b c : Value} {t : TypeId} (h : w.heap[q]? = some (.cells #[a, b, c] t (0, 0))) :
    w.cell? ⟨q, 0, none⟩ = some a ∧ w.cell? ⟨q, 1, none⟩ = some b ∧ w.cell? ⟨q, 2, none⟩ = some c ∧ w.frozen? ⟨q, 0, none⟩ = false ∧ w.frozen? ⟨q, 1, none⟩ = false ∧ w.frozen? ⟨q, 2, none⟩ = false := by
  refine ⟨?_, ?_, ?_, ?_, ?_, ?_⟩ <;> simp [World.cell?, World.frozen?, h]

/-- The writer's box and its row. -/
def WrAt (w : World) (B q : Nat) (st : St) : Prop :=
  ∃ g cap, w.heap[q]? = some (.cells #[.slice (some ⟨g, 0, none⟩) st.laid.length cap, .int .i64 (st.kind : Int), .int .i64 (st.count : Int)] 82 (0, 0)) ∧ Own w B g st.laid.length cap st.laid ∧ B ≤ q ∧ Byt st.laid

/-- What the writer's calls leave as it was: all that lies below, and all boxes of other kinds. -/
structure Kw (B : Nat) (w w' : World) : Prop where
  bel : Below B w w'
  oth : ∀ (i : Nat) (o : Obj), w.heap[i]? = some o → (∀ cs f, o ≠ .cells cs 82 f) → (∀ cs f, o ≠ .cells cs 5 f) → w'.heap[i]? = some o

theorem Kw.refl (B : Nat) (w : World) : Kw B w w := ⟨Below.refl _ _, fun _ _ h _ _ => h⟩
theorem Kw.trans {B : Nat} {a b c : World} (h : Kw B a b) (k : Kw B b c) : Kw B a c := ⟨h.bel.trans k.bel, fun i o h1 h2 h3 => k.oth i o (h.oth i o h1 h2 h3) h2 h3⟩
theorem Kw.of_below {B : Nat} {w w' : World} (hB : B ≤ w.heap.size) (h : Below w.heap.size w w') : Kw B w w' :=
  ⟨h.mono hB, fun i o hi _ _ => (h.block i (Array.getElem?_eq_some_iff.1 hi).1).trans hi⟩

theorem Own.blk {w : World} {B g n cap : Nat} {xs : List Int} (h : Own w B g n cap xs) : ∃ cur, w.heap[g]? = some (.cells cur 5 (0, 0)) := by
  rcases h.2 with ⟨h1, _⟩ | ⟨g1, cap1, cur, hv, _, hg, _⟩
  · simp at h1
  · simp only [Value.slice.injEq, Option.some.injEq, Addr.mk.injEq, and_true, true_and] at hv
    obtain ⟨rfl, rfl⟩ := hv
    exact ⟨cur, hg⟩

theorem Own.ne {w : World} {B g n cap q : Nat} {xs : List Int} {cs : Array Value} {t : TypeId} (h : Own w B g n cap xs) (hq : w.heap[q]? = some (.cells cs t (0, 0))) (ht : t ≠ 5) : q ≠ g := by
  intro e
  obtain ⟨cur, hc⟩ := h.blk
  rw [← e, hq] at hc
  simp only [Option.some.injEq, Obj.cells.injEq] at hc
  exact ht hc.2.1

/-- Changes of a row of bytes alone. -/
theorem Kw.of_row {B g : Nat} {w w' : World} {cur : Array Value} (hg : w.heap[g]? = some (.cells cur 5 (0, 0))) (hB : B ≤ g) (hBw : B ≤ w.heap.size) (h : w.grownBy w' (some g)) : Kw B w w' := by
  refine ⟨(Below.refl B w).grown h hBw (fun k hk => by cases hk; exact hB), fun i o hi _ h5 => ?_⟩
  refine (h.block i (Array.getElem?_eq_some_iff.1 hi).1 (fun e => ?_)).trans hi
  cases e
  rw [hg] at hi
  cases hi
  exact h5 _ _ rfl

theorem Kw.of_own {B g n cap : Nat} {w w' : World} {xs : List Int} (hown : Own w B g n cap xs) (hBw : B ≤ w.heap.size) (h : w.grownBy w' (some g)) : Kw B w w' := by
  obtain ⟨cur, hc⟩ := hown.blk
  exact Kw.of_row hc hown.lt.1 hBw h

/-- Changes of the box alone. -/
theorem Kw.of_box {B q : Nat} {w w' : World} {cs : Array Value} (hq : w.heap[q]? = some (.cells cs 82 (0, 0))) (hB : B ≤ q) (hBw : B ≤ w.heap.size) (h : w.grownBy w' (some q)) : Kw B w w' := by
  refine ⟨(Below.refl B w).grown h hBw (fun k hk => by cases hk; exact hB), fun i o hi h63 _ => ?_⟩
  refine (h.block i (Array.getElem?_eq_some_iff.1 hi).1 (fun e => ?_)).trans hi
  cases e
  rw [hq] at hi
  cases hi
  exact h63 _ _ rfl

theorem putL_tail (xs zs : List Int) (v : Int) (n : Nat) : putL (xs ++ zs) xs.length v n = xs ++ putL zs 0 v n := by
  induction n with
  | zero => rfl
  | succ n ih =>
    rw [putL, putL, ih, List.set_append_right _ _ (by omega)]
    congr 2
    omega

/-- A number's bytes. -/
def leN (n : Nat) (v : Int) : List Int := putL (List.replicate n 0) 0 v n
theorem leN_length (n : Nat) (v : Int) : (leN n v).length = n := by rw [leN, putL_length, List.length_replicate]
theorem leN_byt (n : Nat) (v : Int) : Byt (leN n v) := putL_range _ _ _ _ (fun x hx => by have := (List.mem_replicate.1 hx).2; omega)

theorem WrAt.size {w : World} {B q : Nat} {st : St} (h : WrAt w B q st) : B ≤ w.heap.size := by
  obtain ⟨g, cap, hq, ho, hB, _⟩ := h
  have := (Array.getElem?_eq_some_iff.1 hq).1
  omega

/-- Behind anything that grows memory alone. -/
theorem WrAt.below {w w' : World} {B q : Nat} {st : St} (h : WrAt w B q st) (hb : Below w.heap.size w w') : WrAt w' B q st := by
  obtain ⟨g, cap, hq, ho, hB, hr⟩ := h
  exact ⟨g, cap, (hb.block q (Array.getElem?_eq_some_iff.1 hq).1).trans hq, ho.below hb, hB, hr⟩

end Go.Proofs.YteefekhlbillfaaDoor
