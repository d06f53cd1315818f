/-
  SEAT Ytmbdacdgbmpedaa: PathJoins' walk.
-/
import Derived.Test.YtmbdacdgbmpedaaJn
import Derived.Laws.OwnMore
namespace Go.Proofs.Ytmbdacdgbmpedaa
open Go.RowKit
set_option linter.unusedVariables false

theorem info_parts9 : ∃ i0 : TypeInfo, Try.prog.info? 9 = some i0 ∧ i0.zero = some (.string ByteArray.empty) ∧ i0.size = 1 ∧ i0.bytes = 16 := info_parts info9
/-- append of a slice that came in, or of one's own. -/
theorem wpList_append_rd {w : World} {ops : Array Oper} {rest : List Oper} {o : Oper} {a : Act} {Q : Exit → Act → World → Prop} (hgd : o.guard = none) (s x : Operand)
    (ho : o.op = .call { callee := .builtin .append, args := #[s, x], argTypes := #[22, 22] })
    (base : Nat) (v : Value) (xs : List ByteArray) (hs : a.eval s = v) (hown : Ow w base v xs)
    (ad : Option Addr) (c : Nat) (ys : List ByteArray) (hx : a.eval x = .slice ad ys.length c) (hrd : RdS w ad ys.length ys)
    (hbytes : (xs.length + ys.length) * 16 ≤ 140737488355328) (hbase : base ≤ w.heap.size)
    (h : ∀ v' w', Ow w' base v' (xs ++ ys) → w.grownBy w' v.ownBlock → wpList Try.prog ops Q rest (a.put o.dst v') w') : wpList Try.prog ops Q (o :: rest) a w := by
  obtain ⟨i0, hi, hz0, hz1, hz2⟩ := info_parts9
  have h63 : xs.length + ys.length ≤ maxLen := by simp [maxLen]; omega
  cases ad with
  | some ad =>
    refine wpList_append_own w hgd s x 22 ho base 9 i0 (.string ByteArray.empty) 1 16 Try.underlying22 hi hz0 hz1 hz2 rfl (by decide) v xs.length (xs.map Value.string) hs hown ad ys.length c (ys.map Value.string) hx (by simp) ?_ ?_ h63 hbytes hbase ?_
    · intro j u hj
      rw [List.getElem?_map] at hj
      cases hb : ys[j]? with
      | none => rw [hb] at hj; simp at hj
      | some q =>
        rw [hb] at hj
        simp at hj
        rw [← hj]
        exact hrd.cell ad rfl j q hb
    · intro u hu
      obtain ⟨b, _, rfl⟩ := List.mem_map.1 hu
      rfl
    · intro v' w' o1 g1 _
      refine h v' w' ?_ g1
      show World.ownsRow _ _ _ _ _ _ _
      simpa using o1
  | none =>
    have h0 := hrd.nil rfl
    have hz0' : ys = [] := List.eq_nil_of_length_eq_zero h0
    subst hz0'
    have hrun : (Builtin.append_ #[22, 22] o.type #[v, .slice none 0 c]).run Try.prog w = .ok v w := by
      rcases hown.2 with ⟨rfl, _⟩ | ⟨g, cap, cur, rfl, _, _, hnc, _⟩
      · simp [Builtin.append_, run_underlying Try.underlying22, sizeOf, typeInfo, hi, Builtin.lenOf, Builtin.firstCells]
      · simp [Builtin.append_, run_underlying Try.underlying22, sizeOf, typeInfo, hi, Builtin.lenOf, Builtin.firstCells, hnc, storeCells]
    refine wpList_plain hgd fun K hK => ?_
    unfold Oper.wp
    simp only [List.length_nil] at hx
    simp [execOp, ho, resolve, invoke, builtin, hs, hx, hrun, Result.andThen]
    exact hK _ _ (h v w (by simpa using hown) (World.grownBy.refl _ _))

theorem ow_made (w : World) : Ow (w.alloc (.cells #[] 9)) w.heap.size (.slice (some ⟨w.heap.size, 0, none⟩) 0 0) [] := World.ownsRow_made w #[] 0 (Nat.le_refl _) (by simp [maxLen]) rfl
theorem rd_two (w : World) (x y : ByteArray) : RdS (w.alloc (.cells #[.string x, .string y] 9)) (some ⟨w.heap.size, 0, none⟩) 2 [x, y] :=
  ⟨rfl, (fun h => by cases h), fun z hz j u hj => by
    cases hz
    rw [add_zero, cell_of_row _ w.heap.size (0 + j) _ 9 (0, 0) (heap_alloc_new w _), Nat.zero_add]
    rcases j with _ | _ | j
    · injection hj with hj; subst hj; rfl
    · injection hj with hj; subst hj; rfl
    · cases hj⟩
theorem Ow.alloc {w : World} {B : Nat} {v : Value} {xs : List ByteArray} (h : Ow w B v xs) (o : Obj) : Ow (w.alloc o) B v xs := World.ownsRow.alloc h o
theorem Ow.front {w : World} {B g n c : Nat} {xs ys : List ByteArray} (h : Ow w B (.slice (some ⟨g, 0, none⟩) (xs ++ ys).length c) (xs ++ ys)) (hn : xs.length = n) : Ow w B (.slice (some ⟨g, 0, none⟩) n c) xs := by
  obtain ⟨h1, h2⟩ := h
  subst hn
  refine ⟨by simp, ?_⟩
  rcases h2 with ⟨h3, _⟩ | ⟨g', cap', cur, hv, hb, hg, hn, hc, hs, ht⟩
  · simp at h3
  · simp only [Value.slice.injEq, Option.some.injEq, Addr.mk.injEq, and_true, true_and] at hv
    obtain ⟨rfl, rfl⟩ := hv
    refine Or.inr ⟨g, c, cur, rfl, hb, hg, by simp at hn; omega, hc, hs, ?_⟩
    have e := congrArg (List.take xs.length) ht
    rw [List.take_take, List.map_append, List.take_left' (by simp)] at e
    rw [← e]
    congr 1
    simp
theorem Ow.shape {w : World} {B : Nat} {v : Value} {xs : List ByteArray} (h : Ow w B v xs) (hn : xs ≠ []) : ∃ g c, v = .slice (some ⟨g, 0, none⟩) xs.length c ∧ xs.length ≤ c ∧ c ≤ maxLen ∧ B ≤ g ∧ g < w.heap.size := by
  rcases h.2 with ⟨_, h0⟩ | ⟨g, cap, cur, hv, hb, hg, hnc, hcm, _⟩
  · exact absurd (List.eq_nil_of_length_eq_zero h0) hn
  · refine ⟨g, cap, hv, hnc, hcm, hb, ?_⟩
    rcases Nat.lt_or_ge g w.heap.size with h | h
    · exact h
    · simp [Array.getElem?_eq_none h] at hg
theorem Ow.set {w : World} {B g n c : Nat} {xs : List ByteArray} (h : Ow w B (.slice (some ⟨g, 0, none⟩) n c) xs) (hn : xs.length = n) (j : Nat) (z : ByteArray) : Ow (w.setCell ⟨g, j, none⟩ (.string z)) B (.slice (some ⟨g, 0, none⟩) n c) (xs.set j z) ∧ w.grownBy (w.setCell ⟨g, j, none⟩ (.string z)) (some g) := by
  subst hn
  have := World.ownsRow.stored h j (.string z)
  refine ⟨?_, this.2⟩
  show World.ownsRow _ _ _ _ _ _ _
  rw [List.map_set, List.length_set]
  exact this.1
theorem Ow.cell {w : World} {B g n c : Nat} {xs : List ByteArray} (h : Ow w B (.slice (some ⟨g, 0, none⟩) n c) xs) (hn : xs.length = n) (j : Nat) (y : ByteArray) (hj : xs[j]? = some y) : w.cell? ⟨g, j, none⟩ = some (.string y) := by
  subst hn
  have hl : j < xs.length := (List.getElem?_eq_some_iff.1 hj).1
  have h1 := World.ownsRow.cellAt h j (by omega)
  rw [h1, List.getElem?_map, hj]; rfl
/-- The names with the first k of others in their place. -/
def mix (k : Nat) (ys xs : List ByteArray) : List ByteArray := ys.take k ++ xs.drop k
theorem mix_len {k : Nat} {ys xs : List ByteArray} (h1 : k ≤ ys.length) (h2 : k ≤ xs.length) : (mix k ys xs).length = xs.length := by simp [mix]; omega
theorem mix_step {k : Nat} {ys xs zs : List ByteArray} {y : ByteArray} (h1 : k < ys.length) (h2 : k < xs.length) (hy : ys[k] = y) : (mix k ys xs ++ zs).set k y = mix (k + 1) ys xs ++ zs := by
  have hl : (ys.take k).length = k := by simp; omega
  unfold mix
  rw [List.append_assoc, List.set_append_right _ _ (by omega), hl, Nat.sub_self, List.drop_eq_getElem_cons h2, List.cons_append, List.set_cons_zero, List.take_succ_eq_append_getElem h1, hy]
  simp
end Go.Proofs.Ytmbdacdgbmpedaa
