/-
  SEAT YtmbdacdgbmpedaaDoor: follow.
-/
import Derived.Test.YtmbdacdgbmpedaaDoorGt
import Derived.Shelf.Spec.SlicesGrow
namespace Go.Proofs
def Tryd.lays8n4_f53_ren : Go.Shelf.Ren := ⟨fun | 4 => 53 | n => n, fun | 22 => 22 | 25 => 9 | 3 => 3 | 4 => 4 | 9 => 9 | 20 => 20 | 0 => 0 | n => n, fun | n => n⟩
theorem Tryd.lays8n4_f53 : Go.Proofs.Lays8.n4 Tryd.prog Tryd.lays8n4_f53_ren := {
  mixed := by kernel_rfl
  f4 := ⟨Tryd.f53.name, by decide, Tryd.func53.trans (congrArg some (by kernel_rfl))⟩
  t0 := Tryd.underlying0
  a0 := Tryd.isAgg0
  z0 := Tryd.sizeOf0
  v0 := Tryd.zeroValue0
  t3 := Tryd.underlying3
  a3 := Tryd.isAgg3
  z3 := Tryd.sizeOf3
  v3 := Tryd.zeroValue3
  t4 := Tryd.underlying4
  a4 := Tryd.isAgg4
  z4 := Tryd.sizeOf4
  v4 := Tryd.zeroValue4
  t9 := Tryd.underlying9
  a9 := Tryd.isAgg9
  z9 := Tryd.sizeOf9
  v9 := Tryd.zeroValue9
  t20 := Tryd.underlying20
  a20 := Tryd.isAgg20
  z20 := Tryd.sizeOf20
  v20 := Tryd.zeroValue20
  t22 := Tryd.underlying22
  a22 := Tryd.isAgg22
  z22 := Tryd.sizeOf22
  v22 := Tryd.zeroValue22 }
end Go.Proofs
namespace Go.Proofs.YtmbdacdgbmpedaaDoor
open Go.RowKit
set_option linter.unusedVariables false

theorem grow_nil (n : Nat) (w : World) (hn : n ≤ 64) : Calls Tryd.prog 53 #[.slice none 0 0, .int .i64 (n : Int)] w fun e w' => ∃ v, e = .returned v ∧ Ow w' w.heap.size v [] ∧ Below w.heap.size w w' := by
  obtain ⟨i0, hi, hz0, hz1, hz2⟩ := info_parts info9
  by_cases h0 : n = 0
  · subst h0
    exact (Any8.slices_Grow_room Tryd.lays8n4_f53 none 0 0 0 w (Nat.le_refl _) (by omega) (by omega) (by omega)).mono fun e w' ⟨he, hw⟩ => ⟨_, he, ow_nil _ _, by rw [hw]; exact Below.refl _ _⟩
  · refine (Any8.slices_Grow_grow Tryd.lays8n4_f53 i0 (.string ByteArray.empty) hi hz0 (by omega) none 0 0 n [] w (Nat.le_refl _) (by omega) (by rw [hz2]; omega) (by omega) (by simp) (fun _ => rfl) (fun a h => by cases h)).mono ?_
    rintro e w' ⟨rfl, rfl⟩
    have hge := grownCap_ge w (0 + n) 0 9
    have hcm : grownCap w (0 + n) 0 9 ≤ maxLen := grownCap_le_maxLen _ (0 + n) 0 9 (by simp [maxLen]; omega)
    refine ⟨_, rfl, ⟨rfl, Or.inr ⟨w.heap.size, _, _, rfl, Nat.le_refl _, heap_alloc_new w.drew _, by simp, hcm, ?_, rfl⟩⟩, ?_⟩
    · simp only [Array.size_append, List.size_toArray, size_zeroCells, List.length_nil, Value.cells]
      simp
      rw [Nat.zero_add] at hge
      have h2 : n ≤ grownCap w n 0 (Tryd.lays8n4_f53_ren.t 25) := hge
      omega
    · exact ⟨rfl, rfl, rfl, by simp, fun q hq => Below.heap_alloc w.drew _ q hq⟩

theorem wpList_append_rd {w : World} {ops : Array Oper} {rest : List Oper} {o : Oper} {a : Act} {Q : Exit → Act → World → Prop} (hgd : o.guard = none) (s x : Operand)
    (ho : o.op = .call { callee := .builtin .append, args := #[s, x], argTypes := #[22, 22] })
    (base : Nat) (v : Value) (xs : List ByteArray) (hs : a.eval s = v) (hown : Ow w base v xs)
    (ad : Option Addr) (c : Nat) (ys : List ByteArray) (hx : a.eval x = .slice ad ys.length c) (hrd : RdS w ad ys.length ys)
    (hbytes : (xs.length + ys.length) * 16 ≤ 140737488355328) (hbase : base ≤ w.heap.size)
    (h : ∀ v' w', Ow w' base v' (xs ++ ys) → w.grownBy w' v.ownBlock → wpList Tryd.prog ops Q rest (a.put o.dst v') w') : wpList Tryd.prog ops Q (o :: rest) a w := by
  obtain ⟨i0, hi, hz0, hz1, hz2⟩ := (info_parts info9)
  have h63 : xs.length + ys.length ≤ maxLen := by simp [maxLen]; omega
  cases ad with
  | some ad =>
    refine wpList_append_own w hgd s x 22 ho base 9 i0 (.string ByteArray.empty) 1 16 Tryd.underlying22 hi hz0 hz1 hz2 rfl (by decide) v xs.length (xs.map Value.string) hs hown ad ys.length c (ys.map Value.string) hx (by simp) ?_ ?_ h63 hbytes hbase ?_
    · intro j u hj
      rw [List.getElem?_map] at hj
      cases hb : ys[j]? with
      | none => rw [hb] at hj; simp at hj
      | some q =>
        rw [hb] at hj
        simp at hj
        rw [← hj]
        exact hrd.cell ad rfl j q hb
    · intro u hu
      obtain ⟨b, _, rfl⟩ := List.mem_map.1 hu
      rfl
    · intro v' w' o1 g1 _
      refine h v' w' ?_ g1
      show World.ownsRow _ _ _ _ _ _ _
      simpa using o1
  | none =>
    have h0 := hrd.nil rfl
    have hz0' : ys = [] := List.eq_nil_of_length_eq_zero h0
    subst hz0'
    have hrun : (Builtin.append_ #[22, 22] o.type #[v, .slice none 0 c]).run Tryd.prog w = .ok v w := by
      rcases hown.2 with ⟨rfl, _⟩ | ⟨g, cap, cur, rfl, _, _, hnc, _⟩
      · simp [Builtin.append_, run_underlying Tryd.underlying22, sizeOf, typeInfo, hi, Builtin.lenOf, Builtin.firstCells]
      · simp [Builtin.append_, run_underlying Tryd.underlying22, sizeOf, typeInfo, hi, Builtin.lenOf, Builtin.firstCells, hnc, storeCells]
    refine wpList_plain hgd fun K hK => ?_
    unfold Oper.wp
    simp only [List.length_nil] at hx
    simp [execOp, ho, resolve, invoke, builtin, hs, hx, hrun, Result.andThen]
    exact hK _ _ (h v w (by simpa using hown) (World.grownBy.refl _ _))

theorem wpList_append_rdq {w : World} {ops : Array Oper} {rest : List Oper} {o : Oper} {a : Act} {Q : Exit → Act → World → Prop} (hgd : o.guard = none) (s x : Operand)
    (ho : o.op = .call { callee := .builtin .append, args := #[s, x], argTypes := #[22, 22] })
    (base : Nat) (v : Value) (xs : List ByteArray) (hs : a.eval s = v) (hown : Ow w base v xs)
    (ad : Option Addr) (c m : Nat) (ys : List ByteArray) (hx : a.eval x = .slice ad m c) (hrd : RdS w ad m ys)
    (hbytes : (xs.length + m) * 16 ≤ 140737488355328) (hbase : base ≤ w.heap.size)
    (h : ∀ v' w', Ow w' base v' (xs ++ ys) → w.grownBy w' v.ownBlock → wpList Tryd.prog ops Q rest (a.put o.dst v') w') : wpList Tryd.prog ops Q (o :: rest) a w := by
  obtain rfl := hrd.len
  exact wpList_append_rd hgd s x ho base v xs hs hown ad c ys hx hrd hbytes hbase h

/-- The lists, one behind the other. -/
def cat (xs ys : List ByteArray) (k : Nat) : List ByteArray := ([xs, ys].take k).flatten
set_option maxHeartbeats 2000000 in
set_option maxRecDepth 100000 in
theorem concat_any (G : Nat) (v0 v1 : Value) (xs ys : List ByteArray) (w : World) (hb : w.heap[G]? = some (.cells #[v0, v1] 22 (0, 0))) (h0 : Vw w v0 xs) (h1 : Vw w v1 ys) (hl : xs.length + ys.length ≤ 64) :
    Calls Tryd.prog 45 #[.slice (some ⟨G, 0, none⟩) 2 2] w fun e w' => ∃ v, e = .returned v ∧ Ow w' w.heap.size v (xs ++ ys) ∧ Below w.heap.size w w' := by
  obtain ⟨i0, hi, hz0, hz1, hz2⟩ := info_parts info9
  have g0 : w.cell? ⟨G, 0, none⟩ = some v0 := by rw [cell_of_row _ _ 0 _ 22 (0, 0) hb]; rfl
  have g1 : w.cell? ⟨G, 1, none⟩ = some v1 := by rw [cell_of_row _ _ 1 _ 22 (0, 0) hb]; rfl
  have hGl : G < w.heap.size := by
    rcases Nat.lt_or_ge G w.heap.size with h | h
    · exact h
    · rw [Array.getElem?_eq_none h] at hb; cases hb
  obtain ⟨a0, c0, rfl, p1, p2, rd0, px⟩ := h0
  obtain ⟨a1, c1, rfl, q1, q2, rd1, qx⟩ := h1
  have R0 : Hid (RdS w a0 xs.length xs) := rd0
  have R1 : Hid (RdS w a1 ys.length ys) := rd1
  clear px qx hb rd0 rd1
  go_enter Tryd.func45, Tryd.ntmps45
  go_wp2
  go_loopw [3, 11] (fun z i wr => ∃ k : Nat, k ≤ 2 ∧ i = .int .i64 k ∧ z = .int .i64 ((cat xs ys k).length : Int) ∧ wr = w) (fun _ i _ => 2 - (intOf i).toNat)
  case atStart => exact ⟨0, by omega, rfl, rfl, rfl⟩
  case round =>
    obtain ⟨k, hk, rfl, rfl, hwr⟩ := hrel
    obtain rfl := hwr.symm
    clear hwr
    rcases k with _ | _ | _ | k
    · have e0 : (cat xs ys 0).length = 0 := rfl
      have e1 : (cat xs ys 1).length = xs.length := by simp [cat]
      have HE : Hid ((cat xs ys 1).length = xs.length) := e1
      rw [e0]
      clear e1 e0
      have m0 : ¬ ((xs.length : Int) < 0) := by omega
      go_wp2
      go_roundw
      case rel => exact ⟨1, by omega, by simp, by rw [HE.out], by simp⟩
      case measure => simp [intOf]
    · have e0 : (cat xs ys 1).length = xs.length := by simp [cat]
      have e1 : (cat xs ys 2).length = xs.length + ys.length := by simp [cat]
      have HE : Hid ((cat xs ys 2).length = xs.length + ys.length) := e1
      simp only [Nat.zero_add] at *
      rw [e0]
      clear e1 e0
      have m0 : ¬ ((xs.length : Int) + (ys.length : Int) < 0) := by omega
      go_wp2
      go_roundw
      case rel => exact ⟨2, by omega, by simp, by rw [HE.out]; go_num, by simp⟩
      case measure => simp [intOf]
    · have e1 : (cat xs ys 2).length = xs.length + ys.length := by simp [cat]
      simp only [Nat.zero_add, Nat.reduceAdd] at *
      rw [e1]
      clear e1
      have d2 : ¬ ((2 : Int) < 2) := by omega
      go_wp2_with (go_at_call 53; refine (grow_nil (xs.length + ys.length) _ hl).mono ?_; rintro e u ⟨v, rfl, ow, bel⟩; have O0 : Hid (Ow u w.heap.size v []) := ow; have B0 : Hid (Below w.heap.size w u) := bel; clear ow bel)
      go_loopw [6, 27] (fun z i wq => ∃ k : Nat, k ≤ 2 ∧ i = .int .i64 k ∧ Ow wq w.heap.size z (cat xs ys k) ∧ Below w.heap.size w wq) (fun _ i _ => 2 - (intOf i).toNat)
      case atStart => exact ⟨0, by omega, rfl, O0.out, B0.out⟩
      case round =>
        obtain ⟨k, hk2, rfl, ow, bel⟩ := hrel
        clear O0 B0
        have HO : Hid (Ow wr w.heap.size u6 (cat xs ys k)) := ow
        have HB : Hid (Below w.heap.size w wr) := bel
        have hbs := bel.size
        have k0 := g0
        have k1 := g1
        rw [← bel.cell hGl] at k0 k1
        rcases k with _ | _ | _ | k
        · have RD : Hid (RdS wr a0 xs.length xs) := R0.out.below bel
          have nb : (0 + xs.length) * 16 ≤ 140737488355328 := by omega
          have HE : Hid (cat xs ys 1 = [] ++ xs) := by show cat xs ys 1 = [] ++ xs; simp [cat]
          have HO' : Hid (Ow wr w.heap.size u6 []) := ow
          clear ow bel HO
          go_wp2_with (at_builtin; refine wpList_append_rdq rfl (.tmp 31) (.tmp 32) rfl w.heap.size _ [] rfl HO'.out _ _ xs.length xs rfl RD.out nb hbs ?_; intro v5 w5 own5 grow5; have O5 : Hid (Ow w5 w.heap.size v5 ([] ++ xs)) := own5; have B5 : Hid (Below w.heap.size w w5) := HB.out.grown grow5 hbs (fun q hq => (HO'.out.at q hq).1); clear own5 grow5)
          go_roundw
          case rel => exact ⟨1, by omega, by simp, by rw [HE.out]; exact O5.out, B5.out⟩
          case measure => simp [intOf]
        · have RD : Hid (RdS wr a1 ys.length ys) := R1.out.below bel
          have e1 : cat xs ys (0 + 1) = xs := by simp [cat]
          rw [e1] at ow
          have nb : (xs.length + ys.length) * 16 ≤ 140737488355328 := by omega
          have HE : Hid (cat xs ys 2 = xs ++ ys) := by show cat xs ys 2 = xs ++ ys; simp [cat]
          have HO' : Hid (Ow wr w.heap.size u6 xs) := ow
          simp only [Nat.zero_add] at *
          clear ow bel HO e1
          go_wp2_with (at_builtin; refine wpList_append_rdq rfl (.tmp 31) (.tmp 32) rfl w.heap.size _ xs rfl HO'.out _ _ ys.length ys rfl RD.out nb hbs ?_; intro v5 w5 own5 grow5; have O5 : Hid (Ow w5 w.heap.size v5 (xs ++ ys)) := own5; have B5 : Hid (Below w.heap.size w w5) := HB.out.grown grow5 hbs (fun q hq => (HO'.out.at q hq).1); clear own5 grow5)
          go_roundw
          case rel => exact ⟨2, by omega, by simp, by rw [HE.out]; exact O5.out, B5.out⟩
          case measure => simp [intOf]
        · have HE : Hid (cat xs ys 2 = xs ++ ys) := by show cat xs ys 2 = xs ++ ys; simp [cat]
          simp only [Nat.zero_add, Nat.reduceAdd] at *
          clear ow bel
          go_wp2
          go_ret
          exact ⟨_, rfl, by rw [← HE.out]; exact HO.out, HB.out⟩
        · omega
    · omega
end Go.Proofs.YtmbdacdgbmpedaaDoor
