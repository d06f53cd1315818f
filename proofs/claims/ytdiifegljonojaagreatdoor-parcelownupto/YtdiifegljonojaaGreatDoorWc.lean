/-
  SEAT YtdiifegljonojaaGreatDoor: the first number behind a row that is full; the sum behind a row.
-/
import Derived.Test.YtdiifegljonojaaGreatDoorWb
import Derived.Lib.SmallJoins
namespace Go.Proofs.YtdiifegljonojaaGreatDoor
open Go.RowKit
set_option linter.unusedVariables false

/-- append of so many zeros to a row that is full: a new row. -/
theorem run_append_zeros_full (w : World) (base n k : Nat) (x : Addr) (xs : List Int) (ty : TypeId) (hr : Reads w (some x) n xs) (h0 : 0 < k) (hb : n + k ≤ 140737488355328) (hbase : base ≤ w.heap.size) :
    ∃ g' cap' w', (Builtin.append_ #[25, 3] ty #[.slice (some x) n n, .int .i64 (k : Int)]).run Tryz.prog w = .ok (.slice (some ⟨g', 0, none⟩) (n + k) cap') w' ∧ Own w' base g' (n + k) cap' (xs ++ List.replicate k 0) ∧ w.grownBy w' none := by
  obtain ⟨i, hi, hz0, hz1, hz2⟩ := info_parts info5
  have hlx := hr.1
  have hlen : ((xs ++ List.replicate k (0 : Int)).map (Value.int .u8)).length = (n + k) * 1 := by simp; omega
  have holds : (Builtin.firstCells i.size n (.slice (some x) n n)).run Tryz.prog w.drew = .ok (xs.map (Value.int .u8)).toArray w.drew :=
    run_firstCells_some (P := Tryz.prog) w.drew i.size n x n n (xs.map (Value.int .u8)) (by rw [hz1]; simp; omega) (fun j u hj => hr.news j u hj)
  have hr' := Lib.run_append_grow_zeros (P := Tryz.prog) w 25 3 ty 5 i (.int .u8 0) .i64 .i64 Tryz.underlying25 Tryz.underlying3 hi hz0 (some x) n n _ holds k h0 (by rw [hz1]; decide) (by omega) (by omega) (by rw [hz2]; omega) (by rw [hz2]; exact growslice_fits (by omega) (by omega))
  have hge := grownCap_ge w (n + k) n 5
  have hcm' : grownCap w (n + k) n 5 ≤ maxLen := grownCap_le_maxLen w (n + k) n 5 (by simp only [maxLen]; omega)
  refine ⟨w.heap.size, grownCap w (n + k) n 5, _, hr', ⟨hlen, .inr ⟨w.heap.size, _, _, rfl, hbase, heap_alloc_new w.drew _, hge, hcm', ?_, ?_⟩⟩, ⟨rfl, rfl, rfl, by simp, fun j hj _ => heap_alloc_old w.drew _ hj⟩⟩
  · simp only [Array.size_append, List.size_toArray, size_zeroCells, List.length_map]
    simp [Value.cells]
    omega
  · rw [zero_cells k]
    simp only [Array.toList_append, List.map_append]
    rw [List.take_left' (by simp; omega)]

theorem wpList_append_zeros_full {w : World} {ops : Array Oper} {rest : List Oper} {o : Oper} {a : Act} {Q : Exit → Act → World → Prop} (hgd : o.guard = none) (s x : Operand)
    (ho : o.op = .call { callee := .builtin .append, args := #[s, x], argTypes := #[25, 3] })
    (base n : Nat) (ad : Addr) (xs : List Int) (hs : a.eval s = .slice (some ad) n n) (hr : Reads w (some ad) n xs) (k : Nat) (hx : a.eval x = .int .i64 (k : Int)) (h0 : 0 < k) (hb : n + k ≤ 140737488355328) (hbase : base ≤ w.heap.size)
    (h : ∀ g' cap' w', Own w' base g' (n + k) cap' (xs ++ List.replicate k 0) → w.grownBy w' none → wpList Tryz.prog ops Q rest (a.put o.dst (.slice (some ⟨g', 0, none⟩) (n + k) cap')) w') : wpList Tryz.prog ops Q (o :: rest) a w := by
  obtain ⟨g', cap', w', hr', h1, h2⟩ := run_append_zeros_full w base n k ad xs o.type hr h0 hb hbase
  refine wpList_plain hgd fun K hK => ?_
  unfold Oper.wp
  simp [execOp, ho, resolve, invoke, builtin, hs, hx, hr', Result.andThen]
  exact hK _ _ (h g' cap' w' h1 h2)

set_option maxHeartbeats 1000000 in
set_option maxRecDepth 100000 in
theorem number_first (B q n : Nat) (ad : Addr) (laid : List Int) (size : Nat) (v : Int) (w : World) (hq : w.heap[q]? = some (.cells #[.slice (some ad) n n] 47 (0, 0))) (hr : Reads w (some ad) n laid) (hBq : B ≤ q) (hl : n ≤ 1000000000) (h1 : 1 ≤ size) (h2 : size ≤ 8) (hv0 : 0 ≤ v) (hv : v < 256 ^ size) :
    Calls Tryz.prog 17 #[.pointer (some ⟨q, 0, none⟩), .int .i64 (size : Int), .int .u64 v] w fun e w' => e = .returned (.tuple #[]) ∧ WrA w' B q (laid ++ numL size v) ∧ Kw B w w' := by
  have hBw : B ≤ w.heap.size := by have := (Array.getElem?_eq_some_iff.1 hq).1; omega
  have hn := hr.1
  have hfit := fits_pow v size hv0 hv
  obtain ⟨c0, f0⟩ := blk1_cells hq
  have HQ : Hid _ := hq
  have HR : Hid (Reads w (some ad) n laid) := hr
  have HF : Hid ((v / 2 ^ (8 * (size : Int)).toNat == 0) = true) := hfit
  have HN : Hid (laid.length = n) := hn
  clear hq hr hfit hn hv
  go_enter Tryz.func17, Tryz.ntmps17
  go_wp2_with (first
    | (at_builtin; refine wpList_append_zeros_full rfl (.tmp 16) (.tmp 17) rfl B n ad laid rfl HR.out size rfl h1 (by omega) hBw ?_; intro g' cap' w1 own1 grow1
       have hq1 : w1.heap[q]? = some (.cells #[.slice (some ad) n n] 47 (0, 0)) := (grow1.block q (Array.getElem?_eq_some_iff.1 HQ.out).1 (fun e => by cases e)).trans HQ.out
       have HG : Hid _ := grow1
       have HQ1 : Hid _ := hq1
       have HO1 : Hid (Own w1 B g' (n + size) cap' (laid ++ List.replicate size 0)) := own1
       have HQ2 : Hid _ := blk1_0 hq1 (.slice (some ⟨g', 0, none⟩) (n + size) cap')
       have HO2 : Hid (Own (w1.setCell ⟨q, 0, none⟩ (.slice (some ⟨g', 0, none⟩) (n + size) cap')) B g' (n + size) cap' (laid ++ List.replicate size 0)) := Own.apart own1 (grownBy_setCell' w1 q (.slice (some ⟨g', 0, none⟩) (n + size) cap')) (Own.ne own1 hq1 (by decide)).symm
       obtain ⟨d0, e0⟩ := blk1_cells hq1
       clear grow1 hq1 own1 c0 f0)
    | (go_at_call 32; refine (put_ok B g' (n + size) cap' (n + size) n size v (laid ++ List.replicate size 0) _ (by omega) h1 (by omega) HF.out (Nat.le_refl _) (Nat.le_refl _) hv0 HO2.out).mono ?_; rintro e w2 ⟨rfl, own3, grow3⟩; have HO3 : Hid (Own w2 B g' (n + size) cap' (putL (laid ++ List.replicate size 0) n v size)) := own3; have HG3 : Hid _ := grow3; clear own3 grow3))
  go_end0
  have e1 : putL (laid ++ List.replicate size 0) n v size = laid ++ numL size v := by rw [← HN.out]; exact putL_tail _ _ _ _
  have o3 := HO3.out
  rw [e1] at o3
  have hlen : (laid ++ numL size v).length = n + size := by rw [List.length_append, numL_length, HN.out]
  refine ⟨rfl, ⟨g', cap', ?_, ?_, hBq, ?_⟩, ?_⟩
  · simp only [hlen]
    exact (HG3.out.block q (by have := (Array.getElem?_eq_some_iff.1 HQ2.out).1; exact this) (fun e => (Own.ne HO2.out HQ2.out (by decide)) (by cases e; rfl))).trans HQ2.out
  · simp only [hlen]; exact o3
  · intro x hx
    rcases List.mem_append.1 hx with h | h
    · exact HR.out.2.1 x h
    · exact numL_byt _ _ x h
  · have k1 : Kw B w w1 := Kw.of_below hBw (below_of HG.out)
    have k2 : Kw B w1 (w1.setCell ⟨q, 0, none⟩ (.slice (some ⟨g', 0, none⟩) (n + size) cap')) := Kw.of_box HQ1.out hBq (Nat.le_trans hBw HG.out.size) (grownBy_setCell' w1 q _)
    have k3 : Kw B (w1.setCell ⟨q, 0, none⟩ (.slice (some ⟨g', 0, none⟩) (n + size) cap')) w2 := Kw.of_own HO2.out (Nat.le_trans (Nat.le_trans hBw HG.out.size) (grownBy_setCell' w1 q _).size) HG3.out
    exact (k1.trans k2).trans k3

theorem Kw.blk {B : Nat} {w w' : World} (h : Kw B w w') {q : Nat} {cs : Array Value} {t : TypeId} {f : Nat × Nat} (hq : w.heap[q]? = some (.cells cs t f)) (h1 : t ≠ 47) (h2 : t ≠ 5) : w'.heap[q]? = some (.cells cs t f) :=
  h.oth q _ hq (fun cs' f' e => by cases e; exact h1 rfl) (fun cs' f' e => by cases e; exact h2 rfl)
theorem WrA.reads {w : World} {B q : Nat} {laid : List Int} (h : WrA w B q laid) : ∃ g cap, w.heap[q]? = some (.cells #[.slice (some ⟨g, 0, none⟩) laid.length cap] 47 (0, 0)) ∧ Own w B g laid.length cap laid ∧ Reads w (some ⟨g, 0, none⟩) laid.length laid := by
  obtain ⟨g, cap, hq, ho, _, hb⟩ := h
  exact ⟨g, cap, hq, ho, ho.all hb⟩
/-- A row with its end and its sum. -/
def sealW (laid : List Int) : List Int := (laid ++ numL 1 255) ++ numL 4 ((sumL (nats (laid ++ numL 1 255)) : Nat) : Int)

set_option maxHeartbeats 2000000 in
set_option maxRecDepth 100000 in
theorem seal_w (B q : Nat) (laid : List Int) (w : World) (hW : WrA w B q laid) (hl : laid.length ≤ 90000000000000) (hB : 1 ≤ B) (ht : Tab w) :
    Calls Tryz.prog 22 #[.pointer (some ⟨q, 0, none⟩)] w fun e w' => ∃ g cap, e = .returned (.slice (some ⟨g, 0, none⟩) (sealW laid).length cap) ∧ Own w' B g (sealW laid).length cap (sealW laid) ∧ Kw B w w' := by
  have hll : (laid ++ numL 1 255).length = laid.length + 1 := by rw [List.length_append, numL_length]
  have HLL : Hid ((laid ++ numL 1 255).length ≤ 100000000000000) := by unfold Hid; omega
  have HN := hide (number_any B q laid 1 255 w hW (by omega) (by omega) (by omega) (by omega) (by decide))
  obtain ⟨L1, hL1⟩ : ∃ L1, laid ++ numL 1 255 = L1 := ⟨_, rfl⟩
  have hsw : sealW laid = L1 ++ numL 4 ((sumL (nats L1) : Nat) : Int) := by unfold sealW; rw [hL1]
  rw [hsw]
  rw [hL1] at HN HLL
  have HT := hide ht
  clear hW hll hL1 hsw ht
  go_enter Tryz.func22, Tryz.ntmps22
  go_wp2_with (first
    | (go_at_call 17; refine HN.out.mono ?_; rintro e w1 ⟨rfl, a1, k1⟩
       have ht1 : Tab w1 := fun i hi => (by rw [k1.bel.cell (show (0 : Nat) < B by omega)]; exact HT.out i hi)
       obtain ⟨g, cap, hq, ho, hrd⟩ := a1.reads
       obtain ⟨c0, f0⟩ := blk1_cells hq
       have HA := hide a1
       have HK := hide k1
       have HT1 := hide ht1
       have HRD := hide hrd
       have hsl : sumL (nats L1) < 4294967296 := sumL_lt hrd.2.1
       have hws : IntKind.u64.wrap ((sumL (nats L1) : Nat) : Int) = ((sumL (nats L1) : Nat) : Int) := (by rw [IntKind.wrap_u64]; omega)
       clear HN a1 k1 ht1 hrd hq ho)
    | (go_at_call 27; refine (sum_any _ _ _ L1 _ (by have := HLL.out; omega) HRD.out HT1.out).mono ?_; rintro e w2 ⟨rfl, rfl⟩; have T2 : Hid True := trivial)
    | (go_at_call 17; have zz := T2; clear T2 zz; refine (number_any B q L1 4 ((sumL (nats L1) : Nat) : Int) _ HA.out HLL.out (by omega) (by omega) (by omega) (by show ((sumL (nats L1) : Nat) : Int) < 4294967296; omega)).mono ?_; rintro e w3 ⟨rfl, a3, k3⟩
       obtain ⟨g3, cap3, hq3, ho3, _⟩ := a3.reads
       clear c0 f0
       obtain ⟨c0, f0⟩ := blk1_cells hq3
       have HO3 := hide ho3
       have HK3 := hide k3
       clear a3 k3 hq3 ho3))
  go_ret
  exact ⟨g3, cap3, by rw [List.length_append]; rfl, HO3.out, HK.out.trans HK3.out⟩
end Go.Proofs.YtdiifegljonojaaGreatDoor
