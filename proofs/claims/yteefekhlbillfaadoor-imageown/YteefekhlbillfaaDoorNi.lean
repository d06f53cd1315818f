/-
  SEAT YteefekhlbillfaaDoor: the first number behind a row that is full.
-/
import Derived.Test.YteefekhlbillfaaDoorNh
import Derived.Lib.SmallJoins
namespace Go.Proofs.YteefekhlbillfaaDoor
open Go.RowKit
set_option linter.unusedVariables false

/-- append of so many zeros to a row that is full: a new row. -/
theorem run_append_zeros_full (w : World) (base n k : Nat) (x : Addr) (xs : List Int) (ty : TypeId) (hr : Reads w (some x) n xs) (h0 : 0 < k) (hb : n + k ≤ 140737488355328) (hbase : base ≤ w.heap.size) :
    ∃ g' cap' w', (Builtin.append_ #[22, 3] ty #[.slice (some x) n n, .int .i64 (k : Int)]).run Tryd.prog w = .ok (.slice (some ⟨g', 0, none⟩) (n + k) cap') w' ∧ Own w' base g' (n + k) cap' (xs ++ List.replicate k 0) ∧ w.grownBy w' none := by
  obtain ⟨i, hi, hz0, hz1, hz2⟩ := info_parts info5
  have hlx := hr.1
  have hlen : ((xs ++ List.replicate k (0 : Int)).map (Value.int .u8)).length = (n + k) * 1 := by simp; omega
  have holds : (Builtin.firstCells i.size n (.slice (some x) n n)).run Tryd.prog w.drew = .ok (xs.map (Value.int .u8)).toArray w.drew :=
    run_firstCells_some (P := Tryd.prog) w.drew i.size n x n n (xs.map (Value.int .u8)) (by rw [hz1]; simp; omega) (fun j u hj => hr.news j u hj)
  have hr' := Lib.run_append_grow_zeros (P := Tryd.prog) w 22 3 ty 5 i (.int .u8 0) .i64 .i64 Tryd.underlying22 Tryd.underlying3 hi hz0 (some x) n n _ holds k h0 (by rw [hz1]; decide) (by omega) (by omega) (by rw [hz2]; omega) (by rw [hz2]; exact growslice_fits (by omega) (by omega))
  have hge := grownCap_ge w (n + k) n 5
  have hcm' : grownCap w (n + k) n 5 ≤ maxLen := grownCap_le_maxLen w (n + k) n 5 (by simp only [maxLen]; omega)
  refine ⟨w.heap.size, grownCap w (n + k) n 5, _, hr', ⟨hlen, .inr ⟨w.heap.size, _, _, rfl, hbase, heap_alloc_new w.drew _, hge, hcm', ?_, ?_⟩⟩, ⟨rfl, rfl, rfl, by simp, fun j hj _ => heap_alloc_old w.drew _ hj⟩⟩
  · simp only [Array.size_append, List.size_toArray, size_zeroCells, List.length_map]
    simp [Value.cells]
    omega
  · rw [zero_cells k]
    simp only [Array.toList_append, List.map_append]
    rw [List.take_left' (by simp; omega)]

theorem wpList_append_zeros_full {w : World} {ops : Array Oper} {rest : List Oper} {o : Oper} {a : Act} {Q : Exit → Act → World → Prop} (hgd : o.guard = none) (s x : Operand)
    (ho : o.op = .call { callee := .builtin .append, args := #[s, x], argTypes := #[22, 3] })
    (base n : Nat) (ad : Addr) (xs : List Int) (hs : a.eval s = .slice (some ad) n n) (hr : Reads w (some ad) n xs) (k : Nat) (hx : a.eval x = .int .i64 (k : Int)) (h0 : 0 < k) (hb : n + k ≤ 140737488355328) (hbase : base ≤ w.heap.size)
    (h : ∀ g' cap' w', Own w' base g' (n + k) cap' (xs ++ List.replicate k 0) → w.grownBy w' none → wpList Tryd.prog ops Q rest (a.put o.dst (.slice (some ⟨g', 0, none⟩) (n + k) cap')) w') : wpList Tryd.prog ops Q (o :: rest) a w := by
  obtain ⟨g', cap', w', hr', h1, h2⟩ := run_append_zeros_full w base n k ad xs o.type hr h0 hb hbase
  refine wpList_plain hgd fun K hK => ?_
  unfold Oper.wp
  simp [execOp, ho, resolve, invoke, builtin, hs, hx, hr', Result.andThen]
  exact hK _ _ (h g' cap' w' h1 h2)

set_option maxHeartbeats 1000000 in
set_option maxRecDepth 100000 in
theorem number_first (B q n : Nat) (ad : Addr) (laid : List Int) (kind count : Nat) (size : Nat) (v : Int) (w : World) (hq : w.heap[q]? = some (.cells #[.slice (some ad) n n, .int .i64 (kind : Int), .int .i64 (count : Int)] 82 (0, 0))) (hr : Reads w (some ad) n laid) (hBq : B ≤ q) (hl : n ≤ 1000000000) (h1 : 1 ≤ size) (h2 : size ≤ 4) (hv0 : 0 ≤ v) (hv : v < 256 ^ size) :
    Calls Tryd.prog 38 #[.pointer (some ⟨q, 0, none⟩), .int .i64 (size : Int), .int .i64 v] w fun e w' => e = .returned (.tuple #[]) ∧ WrAt w' B q ⟨laid ++ leN size v, kind, count⟩ ∧ Kw B w w' := by
  have hBw : B ≤ w.heap.size := by have := (Array.getElem?_eq_some_iff.1 hq).1; omega
  have hn := hr.1
  have hp4 : (256 : Int) ^ size ≤ 256 ^ 4 := pow256_le h2
  have hv4 : v < 4294967296 := by have : (256 : Int) ^ 4 = 4294967296 := by decide
                                  omega
  have hfit := fits_pow v size hv0 hv
  have hcv : IntKind.u64.wrap v = v := by rw [IntKind.wrap_u64]; omega
  obtain ⟨c0, c1, c2, f0, f1, f2⟩ := blk3_cells hq
  have HQ : Hid _ := hq
  have HR : Hid (Reads w (some ad) n laid) := hr
  have HF : Hid ((v / 2 ^ (8 * (size : Int)).toNat == 0) = true) := hfit
  have HN : Hid (laid.length = n) := hn
  clear hq hr hfit hn hv hp4
  go_enter Tryd.func38, Tryd.ntmps38
  go_wp2_with (first
    | (at_builtin; refine wpList_append_zeros_full rfl (.tmp 16) (.tmp 17) rfl B n ad laid rfl HR.out size rfl h1 (by omega) hBw ?_; intro g' cap' w1 own1 grow1
       have hq1 : w1.heap[q]? = some (.cells #[.slice (some ad) n n, .int .i64 (kind : Int), .int .i64 (count : Int)] 82 (0, 0)) := (grow1.block q (Array.getElem?_eq_some_iff.1 HQ.out).1 (fun e => by cases e)).trans HQ.out
       have HG : Hid _ := grow1
       have HQ1 : Hid _ := hq1
       have HO1 : Hid (Own w1 B g' (n + size) cap' (laid ++ List.replicate size 0)) := own1
       have HQ2 : Hid _ := blk3_0 hq1 (.slice (some ⟨g', 0, none⟩) (n + size) cap')
       have HO2 : Hid (Own (w1.setCell ⟨q, 0, none⟩ (.slice (some ⟨g', 0, none⟩) (n + size) cap')) B g' (n + size) cap' (laid ++ List.replicate size 0)) := Own.apart own1 (grownBy_setCell' w1 q (.slice (some ⟨g', 0, none⟩) (n + size) cap')) (Own.ne own1 hq1 (by decide)).symm
       obtain ⟨d0, d1, d2, e0, e1, e2⟩ := blk3_cells hq1
       clear grow1 hq1 own1 c0 c1 c2 f0 f1 f2)
    | (go_at_call 62; refine (put_ok B g' (n + size) cap' (n + size) n size v (laid ++ List.replicate size 0) _ (by omega) h1 (by omega) HF.out (Nat.le_refl _) (Nat.le_refl _) hv0 HO2.out).mono ?_; rintro e w2 ⟨rfl, own3, grow3⟩; have HO3 : Hid (Own w2 B g' (n + size) cap' (putL (laid ++ List.replicate size 0) n v size)) := own3; have HG3 : Hid _ := grow3; clear own3 grow3))
  go_end0
  have e1 : putL (laid ++ List.replicate size 0) n v size = laid ++ leN size v := by rw [← HN.out]; exact putL_tail _ _ _ _
  have o3 := HO3.out
  rw [e1] at o3
  have hlen : (laid ++ leN size v).length = n + size := by rw [List.length_append, leN_length, HN.out]
  refine ⟨rfl, ⟨g', cap', ?_, ?_, hBq, ?_⟩, ?_⟩
  · simp only [hlen]
    exact (HG3.out.block q (by have := (Array.getElem?_eq_some_iff.1 HQ2.out).1; exact this) (fun e => (Own.ne HO2.out HQ2.out (by decide)) (by cases e; rfl))).trans HQ2.out
  · simp only [hlen]; exact o3
  · intro x hx
    rcases List.mem_append.1 hx with h | h
    · exact HR.out.2.1 x h
    · exact leN_byt _ _ x h
  · have k1 : Kw B w w1 := Kw.of_below hBw (below_of HG.out)
    have k2 : Kw B w1 (w1.setCell ⟨q, 0, none⟩ (.slice (some ⟨g', 0, none⟩) (n + size) cap')) := Kw.of_box HQ1.out hBq (Nat.le_trans hBw HG.out.size) (grownBy_setCell' w1 q _)
    have k3 : Kw B (w1.setCell ⟨q, 0, none⟩ (.slice (some ⟨g', 0, none⟩) (n + size) cap')) w2 := Kw.of_own HO2.out (Nat.le_trans (Nat.le_trans hBw HG.out.size) (grownBy_setCell' w1 q _).size) HG3.out
    exact (k1.trans k2).trans k3

end Go.Proofs.YteefekhlbillfaaDoor
