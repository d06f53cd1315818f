/-
  SEAT YtdiifegljonojaaGreatDoor: the writer: its box, a number.
-/
import Derived.Test.YtdiifegljonojaaGreatDoorSum
import Derived.Test.YtdiifegljonojaaGreatDoorC
import Derived.Test.YtdiifegljonojaaGreatDoorRm
import Derived.Lib.AppendZerosOnto
import Derived.Lib.AppendStr
namespace Go.Proofs.YtdiifegljonojaaGreatDoor
open Go.RowKit
set_option linter.unusedVariables false

theorem zero_cells (k : Nat) : Builtin.zeroCells (Value.int .u8 0).cells k = ((List.replicate k (0 : Int)).map (Value.int .u8)).toArray := by
  apply Array.ext'
  simp [Builtin.zeroCells, Value.cells]
  apply List.ext_getElem
  · simp
  · intro i h1 h2
    simp [Nat.mod_one]

/-- append of so many zeros to a row of the call's own. -/
theorem run_append_zeros (w : World) (base g n cap k : Nat) (xs : List Int) (ty : TypeId) (hown : Own w base g n cap xs) (h0 : 0 < k) (hb : n + k ≤ 140737488355328) (hbase : base ≤ w.heap.size) :
    ∃ g' cap' w', (Builtin.append_ #[25, 3] ty #[.slice (some ⟨g, 0, none⟩) n cap, .int .i64 (k : Int)]).run Tryz.prog w = .ok (.slice (some ⟨g', 0, none⟩) (n + k) cap') w' ∧ Own w' base g' (n + k) cap' (xs ++ List.replicate k 0) ∧ w.grownBy w' (some g) := by
  obtain ⟨i, hi, hz0, hz1, hz2⟩ := info_parts info5
  have hlx := hown.len
  have hlen : ((xs ++ List.replicate k (0 : Int)).map (Value.int .u8)).length = (n + k) * 1 := by simp; omega
  rcases hown.2 with ⟨h, _⟩ | ⟨g1, cap1, cur, hv, hbg, hg, hnc, hcm, hcs, htake⟩
  · simp at h
  · simp only [Value.slice.injEq, Option.some.injEq, Addr.mk.injEq, and_true, true_and] at hv
    obtain ⟨rfl, rfl⟩ := hv
    by_cases hroom : n + k ≤ cap
    · have hw : IntKind.i64.wrap (k : Int) = k := by rw [IntKind.wrap_i64]; omega
      have hneg : ¬ ((k : Int) < 0) := by omega
      have hns : ¬ (k = 0) := by omega
      have h48 : ¬ ((281474976710656 : Int) < (k : Int)) := by omega
      have hst := run_storeCells_at Tryz.prog g (n * 1) 5 ((List.replicate k (0 : Int)).map (Value.int .u8)) 0 cur w hg (by simp; omega) (ints_oneCell _ _)
      simp only [Nat.add_zero, Nat.mul_one] at hst
      refine ⟨g, cap, _, ?_, ⟨hlen, .inr ⟨g, cap, _, rfl, hbg, setRow_heap w g cur (cur.toList.take n ++ ((List.replicate k (0 : Int)).map (Value.int .u8)) ++ cur.toList.drop (n + k)).toArray 5 _ hg, hroom, hcm, ?_, ?_⟩⟩, ⟨rfl, rfl, rfl, by simp, fun j _ hj => setRow_other w g j _ (fun e => hj (by simp [e]))⟩⟩
      · simp [Builtin.append_, run_underlying Tryz.underlying25, run_underlying Tryz.underlying3, sizeOf, typeInfo, zeroValue, hi, hz0, hz1, hz2, asInt, asIntOf, hw, hneg, hns, h48, hroom, zero_cells, Addr.add_lit] at hst ⊢
        rw [hst]
        rfl
      · simp only [List.size_toArray, List.length_append, List.length_take, List.length_drop, Array.length_toList, List.length_map, List.length_replicate]
        omega
      · rw [List.map_append, show (xs.map (Value.int .u8)) = cur.toList.take n by rw [← htake]; simp]
        exact List.take_left' (by simp; omega)
    · have holds : (Builtin.firstCells i.size n (.slice (some ⟨g, 0, none⟩) n cap)).run Tryz.prog w.drew = .ok (xs.map (Value.int .u8)).toArray w.drew := by
        have := run_firstCells_some (P := Tryz.prog) w.drew i.size n ⟨g, 0, none⟩ n cap (xs.map (Value.int .u8)) (by rw [hz1]; simp; omega) (World.ownsRow.cells hown (g := g) rfl)
        exact this
      have hr := Lib.run_append_grow_zeros (P := Tryz.prog) w 25 3 ty 5 i (.int .u8 0) .i64 .i64 Tryz.underlying25 Tryz.underlying3 hi hz0 (some ⟨g, 0, none⟩) n cap _ holds k h0 (by rw [hz1]; decide) (by omega) (by omega) (by rw [hz2]; omega) (by rw [hz2]; exact growslice_fits (by omega) (by omega))
      have hge := grownCap_ge w (n + k) cap 5
      have hcm' : grownCap w (n + k) cap 5 ≤ maxLen := grownCap_le_maxLen w (n + k) cap 5 (by simp only [maxLen]; omega)
      refine ⟨w.heap.size, grownCap w (n + k) cap 5, _, hr, ⟨hlen, .inr ⟨w.heap.size, _, _, rfl, hbase, heap_alloc_new w.drew _, hge, hcm', ?_, ?_⟩⟩, ⟨rfl, rfl, rfl, by simp, fun j hj _ => heap_alloc_old w.drew _ hj⟩⟩
      · simp only [Array.size_append, List.size_toArray, size_zeroCells, List.length_map]
        simp [Value.cells]
        omega
      · rw [zero_cells k]
        simp only [Array.toList_append, List.map_append]
        rw [List.take_left' (by simp; omega)]

theorem wpList_append_zeros {w : World} {ops : Array Oper} {rest : List Oper} {o : Oper} {a : Act} {Q : Exit → Act → World → Prop} (hgd : o.guard = none) (s x : Operand)
    (ho : o.op = .call { callee := .builtin .append, args := #[s, x], argTypes := #[25, 3] })
    (base g n cap : Nat) (xs : List Int) (hs : a.eval s = .slice (some ⟨g, 0, none⟩) n cap) (hown : Own w base g n cap xs) (k : Nat) (hx : a.eval x = .int .i64 (k : Int)) (h0 : 0 < k) (hb : n + k ≤ 140737488355328) (hbase : base ≤ w.heap.size)
    (h : ∀ g' cap' w', Own w' base g' (n + k) cap' (xs ++ List.replicate k 0) → w.grownBy w' (some g) → wpList Tryz.prog ops Q rest (a.put o.dst (.slice (some ⟨g', 0, none⟩) (n + k) cap')) w') : wpList Tryz.prog ops Q (o :: rest) a w := by
  obtain ⟨g', cap', w', hr, h1, h2⟩ := run_append_zeros w base g n cap k xs o.type hown h0 hb hbase
  refine wpList_plain hgd fun K hK => ?_
  unfold Oper.wp
  simp [execOp, ho, resolve, invoke, builtin, hs, hx, hr, Result.andThen]
  exact hK _ _ (h g' cap' w' h1 h2)

theorem blk1_0 {w : World} {q : Nat} {a : Value} {t : TypeId} (h : w.heap[q]? = some (.cells #[a] t (0, 0))) (v : Value) : (w.setCell ⟨q, 0, none⟩ v).heap[q]? = some (.cells #[v] t (0, 0)) := blk_set h v
theorem blk1_cells {w : World} {q : Nat} {a : Value} {t : TypeId} (h : w.heap[q]? = some (.cells #[a] t (0, 0))) : w.cell? ⟨q, 0, none⟩ = some a ∧ w.frozen? ⟨q, 0, none⟩ = false := by
  refine ⟨?_, ?_⟩ <;> simp [World.cell?, World.frozen?, h]

/-- The writer's box and its row. -/
def WrA (w : World) (B q : Nat) (laid : List Int) : Prop :=
  ∃ g cap, w.heap[q]? = some (.cells #[.slice (some ⟨g, 0, none⟩) laid.length cap] 47 (0, 0)) ∧ Own w B g laid.length cap laid ∧ B ≤ q ∧ Byt laid

/-- What the writer's calls leave as it was: all that lies below, and all boxes of other kinds. -/
structure Kw (B : Nat) (w w' : World) : Prop where
  bel : Below B w w'
  oth : ∀ (i : Nat) (o : Obj), w.heap[i]? = some o → (∀ cs f, o ≠ .cells cs 47 f) → (∀ cs f, o ≠ .cells cs 5 f) → w'.heap[i]? = some o

theorem Kw.refl (B : Nat) (w : World) : Kw B w w := ⟨Below.refl _ _, fun _ _ h _ _ => h⟩
theorem Kw.trans {B : Nat} {a b c : World} (h : Kw B a b) (k : Kw B b c) : Kw B a c := ⟨h.bel.trans k.bel, fun i o h1 h2 h3 => k.oth i o (h.oth i o h1 h2 h3) h2 h3⟩
theorem Kw.of_below {B : Nat} {w w' : World} (hB : B ≤ w.heap.size) (h : Below w.heap.size w w') : Kw B w w' :=
  ⟨h.mono hB, fun i o hi _ _ => (h.block i (Array.getElem?_eq_some_iff.1 hi).1).trans hi⟩

theorem Own.blk {w : World} {B g n cap : Nat} {xs : List Int} (h : Own w B g n cap xs) : ∃ cur, w.heap[g]? = some (.cells cur 5 (0, 0)) := by
  rcases h.2 with ⟨h1, _⟩ | ⟨g1, cap1, cur, hv, _, hg, _⟩
  · simp at h1
  · simp only [Value.slice.injEq, Option.some.injEq, Addr.mk.injEq, and_true, true_and] at hv
    obtain ⟨rfl, rfl⟩ := hv
    exact ⟨cur, hg⟩

theorem Own.ne {w : World} {B g n cap q : Nat} {xs : List Int} {cs : Array Value} {t : TypeId} (h : Own w B g n cap xs) (hq : w.heap[q]? = some (.cells cs t (0, 0))) (ht : t ≠ 5) : q ≠ g := by
  intro e
  obtain ⟨cur, hc⟩ := h.blk
  rw [← e, hq] at hc
  simp only [Option.some.injEq, Obj.cells.injEq] at hc
  exact ht hc.2.1

/-- Changes of a row of bytes alone. -/
theorem Kw.of_row {B g : Nat} {w w' : World} {cur : Array Value} (hg : w.heap[g]? = some (.cells cur 5 (0, 0))) (hB : B ≤ g) (hBw : B ≤ w.heap.size) (h : w.grownBy w' (some g)) : Kw B w w' := by
  refine ⟨(Below.refl B w).grown h hBw (fun k hk => by cases hk; exact hB), fun i o hi _ h5 => ?_⟩
  refine (h.block i (Array.getElem?_eq_some_iff.1 hi).1 (fun e => ?_)).trans hi
  cases e
  rw [hg] at hi
  cases hi
  exact h5 _ _ rfl

theorem Kw.of_own {B g n cap : Nat} {w w' : World} {xs : List Int} (hown : Own w B g n cap xs) (hBw : B ≤ w.heap.size) (h : w.grownBy w' (some g)) : Kw B w w' := by
  obtain ⟨cur, hc⟩ := hown.blk
  exact Kw.of_row hc hown.lt.1 hBw h

/-- Changes of the box alone. -/
theorem Kw.of_box {B q : Nat} {w w' : World} {cs : Array Value} (hq : w.heap[q]? = some (.cells cs 47 (0, 0))) (hB : B ≤ q) (hBw : B ≤ w.heap.size) (h : w.grownBy w' (some q)) : Kw B w w' := by
  refine ⟨(Below.refl B w).grown h hBw (fun k hk => by cases hk; exact hB), fun i o hi h68 _ => ?_⟩
  refine (h.block i (Array.getElem?_eq_some_iff.1 hi).1 (fun e => ?_)).trans hi
  cases e
  rw [hq] at hi
  cases hi
  exact h68 _ _ rfl

theorem putL_tail (xs zs : List Int) (v : Int) (n : Nat) : putL (xs ++ zs) xs.length v n = xs ++ putL zs 0 v n := by
  induction n with
  | zero => rfl
  | succ n ih =>
    rw [putL, putL, ih, List.set_append_right _ _ (by omega)]
    congr 2
    omega

/-- A number's bytes. -/
def numL (n : Nat) (v : Int) : List Int := putL (List.replicate n 0) 0 v n
theorem numL_length (n : Nat) (v : Int) : (numL n v).length = n := by rw [numL, putL_length, List.length_replicate]
theorem numL_byt (n : Nat) (v : Int) : Byt (numL n v) := putL_range _ _ _ _ (fun x hx => by have := (List.mem_replicate.1 hx).2; omega)

theorem WrA.size {w : World} {B q : Nat} {laid : List Int} (h : WrA w B q laid) : B ≤ w.heap.size := by
  obtain ⟨g, cap, hq, ho, hB, _⟩ := h
  have := (Array.getElem?_eq_some_iff.1 hq).1
  omega
theorem WrA.below {w w' : World} {B q : Nat} {laid : List Int} (h : WrA w B q laid) (hb : Below w.heap.size w w') : WrA w' B q laid := by
  obtain ⟨g, cap, hq, ho, hB, hr⟩ := h
  exact ⟨g, cap, (hb.block q (Array.getElem?_eq_some_iff.1 hq).1).trans hq, ho.below hb, hB, hr⟩

theorem fits_pow (v : Int) (size : Nat) (h0 : 0 ≤ v) (h : v < 256 ^ size) : (v / 2 ^ (8 * (size : Int)).toNat == 0) = true := by
  have e : (8 * (size : Int)).toNat = 8 * size := by omega
  rw [e, ← p256]
  simp only [beq_iff_eq]
  exact Int.ediv_eq_zero_of_lt h0 h

set_option maxHeartbeats 1000000 in
set_option maxRecDepth 100000 in
theorem number_any (B q : Nat) (laid : List Int) (size : Nat) (v : Int) (w : World) (hW : WrA w B q laid) (hl : laid.length ≤ 100000000000000) (h1 : 1 ≤ size) (h2 : size ≤ 8) (hv0 : 0 ≤ v) (hv : v < 256 ^ size) :
    Calls Tryz.prog 17 #[.pointer (some ⟨q, 0, none⟩), .int .i64 (size : Int), .int .u64 v] w fun e w' => e = .returned (.tuple #[]) ∧ WrA w' B q (laid ++ numL size v) ∧ Kw B w w' := by
  have hBw := hW.size
  obtain ⟨g, cap, hq, hown, hBq, hby⟩ := hW
  obtain ⟨n, hn⟩ : ∃ n, laid.length = n := ⟨_, rfl⟩
  have hfit := fits_pow v size hv0 hv
  rw [hn] at hq hown hl
  obtain ⟨c0, f0⟩ := blk1_cells hq
  have HQ : Hid _ := hq
  have HO : Hid (Own w B g n cap laid) := hown
  have HF : Hid ((v / 2 ^ (8 * (size : Int)).toNat == 0) = true) := hfit
  have HN : Hid (laid.length = n) := hn
  have HV : Hid (v < 256 ^ size) := hv
  clear hq hown hfit hn hv
  go_enter Tryz.func17, Tryz.ntmps17
  go_wp2_with (first
    | (at_builtin; refine wpList_append_zeros rfl (.tmp 16) (.tmp 17) rfl B g n cap laid rfl HO.out size rfl h1 (by omega) hBw ?_; intro g' cap' w1 own1 grow1
       have hqg := Own.ne HO.out HQ.out (by decide)
       have hq1 : w1.heap[q]? = some (.cells #[.slice (some ⟨g, 0, none⟩) n cap] 47 (0, 0)) := (grow1.block q (Array.getElem?_eq_some_iff.1 HQ.out).1 (fun e => hqg (by cases e; rfl))).trans HQ.out
       have HG : Hid _ := grow1
       have HQ1 : Hid _ := hq1
       have HO1 : Hid (Own w1 B g' (n + size) cap' (laid ++ List.replicate size 0)) := own1
       have HQ2 : Hid _ := blk1_0 hq1 (.slice (some ⟨g', 0, none⟩) (n + size) cap')
       have HO2 : Hid (Own (w1.setCell ⟨q, 0, none⟩ (.slice (some ⟨g', 0, none⟩) (n + size) cap')) B g' (n + size) cap' (laid ++ List.replicate size 0)) := Own.apart own1 (grownBy_setCell' w1 q (.slice (some ⟨g', 0, none⟩) (n + size) cap')) (Own.ne own1 hq1 (by decide)).symm
       obtain ⟨d0, e0⟩ := blk1_cells hq1
       clear grow1 hq1 own1 hqg c0 f0)
    | (go_at_call 32; refine (put_ok B g' (n + size) cap' (n + size) n size v (laid ++ List.replicate size 0) _ (by omega) h1 (by omega) HF.out (Nat.le_refl _) (Nat.le_refl _) hv0 HO2.out).mono ?_; rintro e w2 ⟨rfl, own3, grow3⟩; have HO3 : Hid (Own w2 B g' (n + size) cap' (putL (laid ++ List.replicate size 0) n v size)) := own3; have HG3 : Hid _ := grow3; clear own3 grow3))
  go_end0
  have e1 : putL (laid ++ List.replicate size 0) n v size = laid ++ numL size v := by rw [← HN.out]; exact putL_tail _ _ _ _
  have o3 := HO3.out
  rw [e1] at o3
  have hlen : (laid ++ numL size v).length = n + size := by rw [List.length_append, numL_length, HN.out]
  refine ⟨rfl, ⟨g', cap', ?_, ?_, hBq, ?_⟩, ?_⟩
  · simp only [hlen]
    exact (HG3.out.block q (by have := (Array.getElem?_eq_some_iff.1 HQ2.out).1; exact this) (fun e => (Own.ne HO2.out HQ2.out (by decide)) (by cases e; rfl))).trans HQ2.out
  · simp only [hlen]; exact o3
  · intro x hx
    rcases List.mem_append.1 hx with h | h
    · exact hby x h
    · exact numL_byt _ _ x h
  · have k1 : Kw B w w1 := Kw.of_own HO.out hBw HG.out
    have k2 : Kw B w1 (w1.setCell ⟨q, 0, none⟩ (.slice (some ⟨g', 0, none⟩) (n + size) cap')) := Kw.of_box HQ1.out hBq (Nat.le_trans hBw HG.out.size) (grownBy_setCell' w1 q _)
    have k3 : Kw B (w1.setCell ⟨q, 0, none⟩ (.slice (some ⟨g', 0, none⟩) (n + size) cap')) w2 := Kw.of_own HO2.out (Nat.le_trans (Nat.le_trans hBw HG.out.size) (grownBy_setCell' w1 q _).size) HG3.out
    exact (k1.trans k2).trans k3

end Go.Proofs.YtdiifegljonojaaGreatDoor
