/-
  SEAT Ytoaahellfflooaa.
-/
import Derived.Deep.Cut
import Derived.Lib.AppendZerosOnto
import Derived.Lib.AppendStr
import Derived.Test.YtoaahellfflooaaVND
import Derived.Test.YtoaahellfflooaaVKz
import Derived.Test.YtoaahellfflooaaVTa
namespace Go.Proofs.Ytoaahellfflooaa
open Go.RowKit
set_option linter.unusedVariables false

theorem zero_cells (k : Nat) : Builtin.zeroCells (Value.int .u8 0).cells k = ((List.replicate k (0 : Int)).map (Value.int .u8)).toArray := by
  apply Array.ext'
  simp [Builtin.zeroCells, Value.cells]
  apply List.ext_getElem
  · simp
  · intro i h1 h2
    simp [Nat.mod_one]
/-- append of so many zeros to a row of the call's own, or to none. -/
theorem run_append_zeros (w : World) (base n k : Nat) (v : Value) (xs : List Int) (ty : TypeId) (hown : w.ownsRow base 5 1 v n (xs.map (Value.int .u8))) (h0 : 0 < k) (hb : n + k ≤ 140737488355328) (hbase : base ≤ w.heap.size) :
    ∃ g' cap' w', (Builtin.append_ #[22, 3] ty #[v, .int .i64 (k : Int)]).run Try.prog w = .ok (.slice (some ⟨g', 0, none⟩) (n + k) cap') w' ∧ Own w' base g' (n + k) cap' (xs ++ List.replicate k 0) ∧ w.grownBy w' v.ownBlock ∧ (g' = w.heap.size ∨ v.ownBlock = some g') := by
  obtain ⟨i, hi, hz0, hz1, hz2⟩ := info_parts info5
  have hlx : xs.length = n := by have := hown.1; simpa using this
  have hlen : ((xs ++ List.replicate k (0 : Int)).map (Value.int .u8)).length = (n + k) * 1 := by simp; omega
  rcases hown.2 with ⟨hv, hn0⟩ | ⟨g1, cap1, cur, hv, hbg, hg, hnc, hcm, hcs, htake⟩
  · subst hv
    subst hn0
    have hx0 : xs = [] := List.length_eq_zero_iff.1 hlx
    subst hx0
    have hr := Lib.run_append_grow_zeros (P := Try.prog) w 22 3 ty 5 i (.int .u8 0) .i64 .i64 Try.underlying22 Try.underlying3 hi hz0 none 0 0 [] (by simp [Builtin.firstCells]) k h0 (by rw [hz1]; decide) (by omega) (by omega) (by rw [hz2]; omega) (by rw [hz2]; exact growslice_fits (by omega) (by omega))
    have hge := grownCap_ge w (0 + k) 0 5
    have hcm' : grownCap w (0 + k) 0 5 ≤ maxLen := grownCap_le_maxLen w (0 + k) 0 5 (by simp only [maxLen]; omega)
    refine ⟨w.heap.size, grownCap w (0 + k) 0 5, _, hr, ⟨hlen, .inr ⟨w.heap.size, _, _, rfl, hbase, heap_alloc_new w.drew _, hge, hcm', ?_, ?_⟩⟩, ⟨rfl, rfl, rfl, by simp, fun j hj _ => heap_alloc_old w.drew _ hj⟩, .inl rfl⟩
    · simp only [Array.size_append, List.size_toArray, size_zeroCells]
      simp only [Nat.zero_add] at hge ⊢
      simp [Value.cells]
      omega
    · rw [zero_cells k]
      simp only [Array.toList_append, List.map_append]
      rw [List.take_left' (by simp)]
      simp
  · subst hv
    by_cases hroom : n + k ≤ cap1
    · have hw : IntKind.i64.wrap (k : Int) = k := by rw [IntKind.wrap_i64]; omega
      have hneg : ¬ ((k : Int) < 0) := by omega
      have hns : ¬ (k = 0) := by omega
      have h48 : ¬ ((281474976710656 : Int) < (k : Int)) := by omega
      have hst := run_storeCells_at Try.prog g1 (n * 1) 5 ((List.replicate k (0 : Int)).map (Value.int .u8)) 0 cur w hg (by simp; omega) (ints_oneCell _ _)
      simp only [Nat.add_zero, Nat.mul_one] at hst
      refine ⟨g1, cap1, _, ?_, ⟨hlen, .inr ⟨g1, cap1, _, rfl, hbg, setRow_heap w g1 cur (cur.toList.take n ++ ((List.replicate k (0 : Int)).map (Value.int .u8)) ++ cur.toList.drop (n + k)).toArray 5 _ hg, hroom, hcm, ?_, ?_⟩⟩, ⟨rfl, rfl, rfl, by simp, fun j _ hj => setRow_other w g1 j _ (fun e => hj (by simp [e, Value.ownBlock]))⟩, .inr rfl⟩
      · simp [Builtin.append_, run_underlying Try.underlying22, run_underlying Try.underlying3, sizeOf, typeInfo, zeroValue, hi, hz0, hz1, hz2, asInt, asIntOf, hw, hneg, hns, h48, hroom, zero_cells, Addr.add_lit] at hst ⊢
        rw [hst]
        rfl
      · simp only [List.size_toArray, List.length_append, List.length_take, List.length_drop, Array.length_toList, List.length_map, List.length_replicate]
        omega
      · rw [List.map_append, show (xs.map (Value.int .u8)) = cur.toList.take n by rw [← htake]; simp]
        exact List.take_left' (by simp; omega)
    · have hown' := hown
      have holds : (Builtin.firstCells i.size n (.slice (some ⟨g1, 0, none⟩) n cap1)).run Try.prog w.drew = .ok (xs.map (Value.int .u8)).toArray w.drew := by
        have := run_firstCells_some (P := Try.prog) w.drew i.size n ⟨g1, 0, none⟩ n cap1 (xs.map (Value.int .u8)) (by rw [hz1]; simp; omega) (World.ownsRow.cells hown' (g := g1) rfl)
        exact this
      have hr := Lib.run_append_grow_zeros (P := Try.prog) w 22 3 ty 5 i (.int .u8 0) .i64 .i64 Try.underlying22 Try.underlying3 hi hz0 (some ⟨g1, 0, none⟩) n cap1 _ holds k h0 (by rw [hz1]; decide) (by omega) (by omega) (by rw [hz2]; omega) (by rw [hz2]; exact growslice_fits (by omega) (by omega))
      have hge := grownCap_ge w (n + k) cap1 5
      have hcm' : grownCap w (n + k) cap1 5 ≤ maxLen := grownCap_le_maxLen w (n + k) cap1 5 (by simp only [maxLen]; omega)
      refine ⟨w.heap.size, grownCap w (n + k) cap1 5, _, hr, ⟨hlen, .inr ⟨w.heap.size, _, _, rfl, hbase, heap_alloc_new w.drew _, hge, hcm', ?_, ?_⟩⟩, ⟨rfl, rfl, rfl, by simp, fun j hj _ => heap_alloc_old w.drew _ hj⟩, .inl rfl⟩
      · simp only [Array.size_append, List.size_toArray, size_zeroCells, List.length_map]
        simp [Value.cells]
        omega
      · rw [zero_cells k]
        simp only [Array.toList_append, List.map_append]
        rw [List.take_left' (by simp; omega)]
theorem wpList_append_zeros {w : World} {ops : Array Oper} {rest : List Oper} {o : Oper} {a : Act} {Q : Exit → Act → World → Prop} (hgd : o.guard = none) (s x : Operand)
    (ho : o.op = .call { callee := .builtin .append, args := #[s, x], argTypes := #[22, 3] })
    (base n : Nat) (v : Value) (xs : List Int) (hs : a.eval s = v) (hown : w.ownsRow base 5 1 v n (xs.map (Value.int .u8))) (k : Nat) (hx : a.eval x = .int .i64 (k : Int)) (h0 : 0 < k) (hb : n + k ≤ 140737488355328) (hbase : base ≤ w.heap.size)
    (h : ∀ g' cap' w', Own w' base g' (n + k) cap' (xs ++ List.replicate k 0) → w.grownBy w' v.ownBlock → (g' = w.heap.size ∨ v.ownBlock = some g') → wpList Try.prog ops Q rest (a.put o.dst (.slice (some ⟨g', 0, none⟩) (n + k) cap')) w') : wpList Try.prog ops Q (o :: rest) a w := by
  obtain ⟨g', cap', w', hr, h1, h2, h3⟩ := run_append_zeros w base n k v xs o.type hown h0 hb hbase
  refine wpList_plain hgd fun K hK => ?_
  unfold Oper.wp
  simp [execOp, ho, resolve, invoke, builtin, hs, hx, hr, Result.andThen]
  exact hK _ _ (h g' cap' w' h1 h2 h3)

/-- The writer's box and its row. -/
def WrA (w : World) (B q : Nat) (laid : List Int) (X : List Nat) : Prop :=
  ∃ v, w.heap[q]? = some (.cells #[v] 74 (0, 0)) ∧ w.ownsRow B 5 1 v laid.length (laid.map (Value.int .u8)) ∧ B ≤ q ∧ Byt laid ∧ ∀ k ∈ X, k < w.heap.size ∧ v.ownBlock ≠ some k ∧ k ≠ q
/-- What the writer's calls leave as it was: all that lies below, and all blocks of other kinds. -/
structure Kw (B : Nat) (X : List Nat) (w w' : World) : Prop where
  bel : Below B w w'
  oth : ∀ (i : Nat) (cs : Array Value) (t : TypeId), w.heap[i]? = some (.cells cs t (0, 0)) → t ≠ 74 → t ≠ 5 → w'.heap[i]? = some (.cells cs t (0, 0))
  kp : ∀ k ∈ X, k < w.heap.size → w'.heap[k]? = w.heap[k]?
theorem Kw.refl (B : Nat) (X : List Nat) (w : World) : Kw B X w w := ⟨Below.refl _ _, fun _ _ _ h _ _ => h, fun _ _ _ => rfl⟩
theorem Kw.nil {B : Nat} {X : List Nat} {w w' : World} (h : Kw B X w w') : Kw B [] w w' := ⟨h.bel, h.oth, fun _ hk => by cases hk⟩
theorem Kw.trans {B : Nat} {X : List Nat} {a b c : World} (h : Kw B X a b) (k : Kw B X b c) : Kw B X a c := ⟨h.bel.trans k.bel, fun i o t h1 h2 h3 => k.oth i o t (h.oth i o t h1 h2 h3) h2 h3, fun i hi hs => (k.kp i hi (Nat.lt_of_lt_of_le hs h.bel.size)).trans (h.kp i hi hs)⟩
theorem Kw.of_below {B : Nat} {X : List Nat} {w w' : World} (hB : B ≤ w.heap.size) (h : Below w.heap.size w w') : Kw B X w w' :=
  ⟨h.mono hB, fun i o t hi _ _ => (h.block i (lt_of_block hi)).trans hi, fun i _ hs => h.block i hs⟩
theorem Kw.of_row {B : Nat} {X : List Nat} {e size n : Nat} {v : Value} {cs : List Value} {w w' : World} (ho : w.ownsRow B e size v n cs) (he : e = 5) (hX : ∀ k ∈ X, v.ownBlock ≠ some k) (hBw : B ≤ w.heap.size) (h : w.grownBy w' v.ownBlock) : Kw B X w w' := by
  refine ⟨(Below.refl B w).grown h hBw (fun k hk => (ho.lt k hk).1), fun i c t hi _ h5 => ?_, fun k hk hs => h.block k hs (fun e => hX k hk e.symm)⟩
  refine (h.block i (lt_of_block hi) (fun e2 => ?_)).trans hi
  obtain ⟨c2, h2⟩ := own_tag ho i e2.symm
  rw [hi] at h2
  injection h2 with h2
  injection h2 with _ h2
  exact h5 (h2.trans he)
theorem Kw.of_box {B q : Nat} {X : List Nat} {w w' : World} {cs : Array Value} (hq : w.heap[q]? = some (.cells cs 74 (0, 0))) (hB : B ≤ q) (hX : ∀ k ∈ X, k ≠ q) (hBw : B ≤ w.heap.size) (h : w.grownBy w' (some q)) : Kw B X w w' := by
  refine ⟨(Below.refl B w).grown h hBw (fun k hk => by cases hk; exact hB), fun i o t hi h74 _ => ?_, fun k hk hs => h.block k hs (fun e => by cases e; exact hX _ hk rfl)⟩
  refine (h.block i (lt_of_block hi) (fun e => ?_)).trans hi
  cases e
  rw [hq] at hi
  injection hi with hi
  injection hi with _ hi
  exact h74 hi.symm
theorem WrA.size {w : World} {B q : Nat} {laid : List Int} {X : List Nat} (h : WrA w B q laid X) : B ≤ w.heap.size := by
  obtain ⟨v, hq, ho, hB, _⟩ := h
  have := lt_of_block hq
  omega
theorem WrA.below {w w' : World} {B q : Nat} {laid : List Int} {X : List Nat} (h : WrA w B q laid X) (hb : Below w.heap.size w w') : WrA w' B q laid X := by
  obtain ⟨v, hq, ho, hB, hr, hx⟩ := h
  exact ⟨v, (hb.block q (lt_of_block hq)).trans hq, own_oth ho (grown_of hb none) (oth_none w B 5) (Nat.le_refl _), hB, hr, fun k hk => ⟨Nat.lt_of_lt_of_le (hx k hk).1 hb.size, (hx k hk).2⟩⟩
theorem WrA.nil {w : World} {B q : Nat} {laid : List Int} {X : List Nat} (h : WrA w B q laid X) : WrA w B q laid [] := by
  obtain ⟨v, hq, ho, hB, hr, hx⟩ := h
  exact ⟨v, hq, ho, hB, hr, fun k hk => by cases hk⟩
/-- A block made later is not the writer's. -/
theorem WrA.fresh {w w' : World} {B q k : Nat} {laid : List Int} (h : WrA w B q laid []) (hb : Below w.heap.size w w') (h1 : w.heap.size ≤ k) (h2 : k < w'.heap.size) : WrA w' B q laid [k] := by
  obtain ⟨v, hq, ho, hB, hr, hx⟩ := h.below hb
  have hq0 := h
  obtain ⟨v0, hq1, ho1, _⟩ := hq0
  have hqq := (hb.block q (lt_of_block hq1)).trans hq1
  rw [hq] at hqq
  have hv : v = v0 := by simpa using hqq
  subst hv
  refine ⟨v, hq, ho, hB, hr, fun i hi => ?_⟩
  rw [List.mem_singleton] at hi
  subst hi
  refine ⟨h2, fun e => ?_, fun e => ?_⟩
  · have := (ho1.lt i e).2
    omega
  · have := lt_of_block hq1
    omega
theorem putL_tail (xs zs : List Int) (v : Int) (n : Nat) : putL (xs ++ zs) xs.length v n = xs ++ putL zs 0 v n := by
  induction n with
  | zero => rfl
  | succ n ih =>
    rw [putL, putL, ih, List.set_append_right _ _ (by omega)]
    congr 2
    omega
theorem fits_pow (v : Int) (size : Nat) (h0 : 0 ≤ v) (h : v < 256 ^ size) : (v / 2 ^ (8 * (size : Int)).toNat == 0) = true := by
  have e : (8 * (size : Int)).toNat = 8 * size := by omega
  have e2 : (2 : Int) ^ (8 * size) = 256 ^ size := by rw [Int.pow_mul]; rfl
  rw [e, e2]
  simp only [beq_iff_eq]
  exact Int.ediv_eq_zero_of_lt h0 h
structure WV (w : World) (B q : Nat) (laid : List Int) (X : List Nat) (e : Ending) (w' : World) : Prop where
  v : e = .returned (.pointer (some ⟨q, 0, none⟩))
  wr : WrA w' B q laid X
  kw : Kw B X w w'
theorem own_box {u : World} {B q n : Nat} {v : Value} {cs : List Value} {c : Array Value} {t : TypeId} (h : u.ownsRow B 5 1 v n cs) (hq : u.heap[q]? = some (.cells c t (0, 0))) (ht : t ≠ 5) : some q ≠ v.ownBlock := by
  intro e
  obtain ⟨c2, h2⟩ := own_tag h q e.symm
  rw [hq] at h2
  injection h2 with h2
  injection h2 with _ h2
  exact ht h2

set_option maxHeartbeats 1000000 in
set_option maxRecDepth 100000 in
theorem wnum_any (B q : Nat) (laid : List Int) (X : List Nat) (size : Nat) (v : Int) (w : World) (hW : WrA w B q laid X) (hl : laid.length ≤ 100000000000000) (h1 : 1 ≤ size) (h2 : size ≤ 8) (hv0 : 0 ≤ v) (hv : v < 256 ^ size) :
    Calls Try.prog 25 #[.pointer (some ⟨q, 0, none⟩), .int .i64 (size : Int), .int .u64 v] w (WV w B q (laid ++ dg v size) X) := by
  have hBw := hW.size
  obtain ⟨v0, hq, hown, hBq, hby, hX⟩ := hW
  obtain ⟨n, hn⟩ : ∃ n, laid.length = n := ⟨_, rfl⟩
  have hfit := fits_pow v size hv0 hv
  rw [hn] at hown hl
  obtain ⟨va, vc, rfl⟩ := own_slice hown
  have c0 := blk_cell hq 0 rfl
  have f0 := blk_free hq 0
  have HQ := hide hq
  have HO := hide hown
  have HF := hide hfit
  have HN := hide hn
  have HXX := hide hX
  clear hq hown hfit hn hv hX
  go_enter Try.func25, Try.ntmps25
  go_wp2_with (first
    | (at_builtin; refine wpList_append_zeros rfl (.tmp 17) (.tmp 18) rfl B n _ laid rfl HO.out size rfl h1 (by omega) hBw ?_; intro g' cap' w1 own1 grow1 new1
       have HNEW := hide new1
       clear new1
       have hq1 : w1.heap[q]? = some (.cells #[.slice va n vc] 74 (0, 0)) := (grow1.block q (lt_of_block HQ.out) (own_box HO.out HQ.out (by decide))).trans HQ.out
       have HG := hide grow1
       have HQ1 := hide hq1
       have d0 := blk_cell hq1 0 rfl
       have e0 := blk_free hq1 0
       have HQ2 := hide (blk3_set (j := 0) hq1 (.slice (some ⟨g', 0, none⟩) (n + size) cap'))
       have HO2 : Hid (Own (w1.setCell ⟨q, 0, none⟩ (.slice (some ⟨g', 0, none⟩) (n + size) cap')) B g' (n + size) cap' (laid ++ List.replicate size 0)) := World.ownsRow.kept own1 (set_grown w1 q 0 _) (Or.inr (fun e => own_box own1 hq1 (by decide) e.symm))
       clear grow1 hq1 own1 c0 f0)
    | (go_at_call 45; refine (put_ok B g' (n + size) cap' (n + size) n size v (laid ++ List.replicate size 0) _ (by omega) h1 (by omega) HF.out (Nat.le_refl _) (Nat.le_refl _) hv0 HO2.out).mono ?_; rintro e w2 ⟨rfl, own3, grow3⟩; have HO3 := hide own3; have HG3 := hide grow3; clear own3 grow3))
  go_ret
  have e1 : putL (laid ++ List.replicate size 0) n v size = laid ++ dg v size := by rw [← HN.out]; exact putL_tail _ _ _ _
  have o3 := HO3.out
  rw [e1] at o3
  have hlen : (laid ++ dg v size).length = n + size := by rw [List.length_append, dg_length, HN.out]
  have hq2 : (w1.setCell ⟨q, 0, none⟩ (.slice (some ⟨g', 0, none⟩) (n + size) cap')).heap[q]? = some (.cells #[.slice (some ⟨g', 0, none⟩) (n + size) cap'] 74 (0, 0)) := HQ2.out
  have hXs : ∀ k ∈ X, (Value.slice (some ⟨g', 0, none⟩) (n + size) cap').ownBlock ≠ some k := fun k hk e => by
    have e2 : g' = k := by simpa [Value.ownBlock] using e
    subst e2
    rcases HNEW.out with h | h
    · have := (HXX.out _ hk).1
      omega
    · exact (HXX.out _ hk).2.1 h
  have hXv : ∀ k ∈ X, (Value.slice va n vc).ownBlock ≠ some k := fun k hk => (HXX.out k hk).2.1
  have hXq : ∀ k ∈ X, k ≠ q := fun k hk => (HXX.out k hk).2.2
  refine ⟨rfl, ⟨.slice (some ⟨g', 0, none⟩) (n + size) cap', ?_, ?_, hBq, ?_, fun k hk => ⟨Nat.lt_of_lt_of_le (HXX.out k hk).1 (Nat.le_trans HG.out.size (Nat.le_trans (set_grown w1 q 0 _).size HG3.out.size)), hXs k hk, hXq k hk⟩⟩, ?_⟩
  · exact (HG3.out.block q (lt_of_block hq2) (fun e => own_box HO2.out hq2 (by decide) (by rw [e]; rfl))).trans hq2
  · rw [hlen]; exact o3
  · intro x hx
    rcases List.mem_append.1 hx with h | h
    · exact hby x h
    · exact dg_range _ _ x h
  · have k1 : Kw B X w w1 := Kw.of_row HO.out rfl hXv hBw HG.out
    have k2 : Kw B X w1 (w1.setCell ⟨q, 0, none⟩ (.slice (some ⟨g', 0, none⟩) (n + size) cap'))   := Kw.of_box HQ1.out hBq hXq (Nat.le_trans hBw HG.out.size) (set_grown w1 q 0 _)
    have k3 : Kw B X (w1.setCell ⟨q, 0, none⟩ (.slice (some ⟨g', 0, none⟩) (n + size) cap')) w2   := Kw.of_row HO2.out rfl hXs (Nat.le_trans (Nat.le_trans hBw HG.out.size) (set_grown w1 q 0 _).size) HG3.out
    exact (k1.trans k2).trans k3
theorem wwhole_any (B q : Nat) (laid : List Int) (X : List Nat) (size : Nat) (v : Int) (w : World) (hW : WrA w B q laid X) (hl : laid.length ≤ 100000000000000) (h1 : 1 ≤ size) (h2 : size ≤ 4) (hv0 : 0 ≤ v) (hv : v < 256 ^ size) :
    Calls Try.prog 26 #[.pointer (some ⟨q, 0, none⟩), .int .i64 (size : Int), .int .i64 v] w (WV w B q (laid ++ dg v size) X) := by
  have hp : (256 : Int) ^ size ≤ 256 ^ 4 := pow256_le h2
  have e4 : (256 : Int) ^ 4 = 4294967296 := by decide
  have hw : IntKind.u64.wrap v = v := by rw [IntKind.wrap_u64]; omega
  have HN := hide (wnum_any B q laid X size v w hW hl h1 (by omega) hv0 hv)
  clear hW hl hp e4 hv
  go_enter Try.func26, Try.ntmps26
  go_wp2_with (go_at_call 25; refine HN.out.mono ?_; rintro e u1 ⟨rfl, h1, h2⟩; have HW := hide h1; have HK := hide h2; clear h1 h2)
  go_ret
  exact ⟨rfl, HW.out, HK.out⟩
theorem wflag_any (B q : Nat) (laid : List Int) (X : List Nat) (b : Bool) (w : World) (hW : WrA w B q laid X) (hl : laid.length ≤ 100000000000000) :
    Calls Try.prog 27 #[.pointer (some ⟨q, 0, none⟩), .bool b] w (WV w B q (laid ++ dg (if b then 1 else 0) 1) X) := by
  cases b with
  | false =>
    have HN := hide (wnum_any B q laid X 1 0 w hW hl (by omega) (by omega) (by omega) (by decide))
    clear hW hl
    go_enter Try.func27, Try.ntmps27
    go_wp2_with (go_at_call 25; refine HN.out.mono ?_; rintro e u1 ⟨rfl, h1, h2⟩; have HW := hide h1; have HK := hide h2; clear h1 h2)
    go_ret
    exact ⟨rfl, HW.out, HK.out⟩
  | true =>
    have HN := hide (wnum_any B q laid X 1 1 w hW hl (by omega) (by omega) (by omega) (by decide))
    clear hW hl
    go_enter Try.func27, Try.ntmps27
    go_wp2_with (go_at_call 25; refine HN.out.mono ?_; rintro e u1 ⟨rfl, h1, h2⟩; have HW := hide h1; have HK := hide h2; clear h1 h2)
    go_ret
    exact ⟨rfl, HW.out, HK.out⟩
def plW (p : Int × Int) : List Int := dg p.1 2 ++ dg p.2 2
theorem plW_len (p : Int × Int) : (plW p).length = 4 := by unfold plW; rw [List.length_append, dg_length, dg_length]
set_option maxHeartbeats 2000000 in
set_option maxRecDepth 100000 in
theorem wplace_any (B q : Nat) (laid : List Int) (X : List Nat) (p : Int × Int) (w : World) (hW : WrA w B q laid X) (hl : laid.length ≤ 90000000000000) (hp : plOk p = true) :
    Calls Try.prog 48 #[.pointer (some ⟨q, 0, none⟩), .agg #[.int .i64 p.1, .int .i64 p.2]] w (WV w B q (laid ++ plW p) X) := by
  obtain ⟨a, b⟩ := p
  simp only [plOk, Bool.and_eq_true] at hp
  have p1 := rg_iff.1 hp.1
  have p2 := rg_iff.1 hp.2
  (try simp only at p1 p2)
  have e2 : (256 : Int) ^ 2 = 65536 := by decide
  have hb0 := below_alloc w (.cells #[.int .i64 a, .int .i64 b] 52)
  have hbd : Below w.heap.size w (w.alloc (.cells #[.int .i64 a, .int .i64 b] 52)).drew := hb0.trans ((drewB _).mono (by simp))
  have hWd := hW.below hbd
  have HK0 := hide (Kw.of_below (X := X) hW.size hbd)
  have HA := hide (wwhole_any B q laid X 2 a (w.alloc (.cells #[.int .i64 a, .int .i64 b] 52)).drew hWd (by omega) (by omega) (by omega) (by omega) (by omega))
  have HB := hide (fun u (h : WrA u B q (laid ++ dg a 2) X) => wwhole_any B q (laid ++ dg a 2) X 2 b u h (by rw [List.length_append, dg_length]; omega) (by omega) (by omega) (by omega) (by omega))
  have HX : Hid ((w.alloc (.cells #[.int .i64 a, .int .i64 b] 52)).drew.heap[w.heap.size]? = some (.cells #[.int .i64 a, .int .i64 b] 52 (0, 0))) := heap_alloc_new w _
  have hx0 : (w.alloc (.cells #[.int .i64 a, .int .i64 b] 52)).cell? ⟨w.heap.size, 0, none⟩ = some (.int .i64 a) := blk_cell HX.out 0 rfl
  have hx1 : (w.alloc (.cells #[.int .i64 a, .int .i64 b] 52)).cell? ⟨w.heap.size, 1, none⟩ = some (.int .i64 b) := blk_cell HX.out 1 rfl
  clear hW hl hp p1 p2 hb0 hbd hWd
  go_enter Try.func48, Try.ntmps48
  go_upto_region 1 with fail
  refine wp_region_held_drew (S := (fun u => u.cell? ⟨w.heap.size, 0, none⟩ = some (.int .i64 a) ∧ u.cell? ⟨w.heap.size, 1, none⟩ = some (.int .i64 b))) (by kernel_rfl) (⟨hx0, hx1⟩) (fun hHeld => ?_)
  refine tk 0 ?_
  refine tk 1 ?_
  refine tk 2 ?_
  refine tk 4 ?_
  refine tk 5 ?_
  refine rd 3 (fun K hK => ?_)
  go_simp
  go_at_call 26
  refine (HA.out).mono ?_
  rintro e u1 ⟨rfl, hw1, hk1⟩
  have hx := hk1.oth w.heap.size _ 52 HX.out (by decide) (by decide)
  have HX1 := hide hx
  have HW1 := hide hw1
  have HK1 := hide (HK0.out.trans hk1)
  have hSnew : (fun u => u.cell? ⟨w.heap.size, 0, none⟩ = some (.int .i64 a) ∧ u.cell? ⟨w.heap.size, 1, none⟩ = some (.int .i64 b)) u1 := ⟨blk_cell hx 0 rfl, blk_cell hx 1 rfl⟩
  clear hx hw1 hk1
  go_wp2_with fail
  refine hK.out _ _ hSnew (fun hHeldN => ?_)
  clear hK K hSnew
  clear hHeld
  have hHeld := hHeldN
  clear hHeldN
  try simp only [Act.put, List.setIfInBounds_toArray, List.set_cons_zero, List.set_cons_succ]
  refine rd 6 (fun K hK => ?_)
  go_simp
  go_at_call 26
  refine (HB.out _ HW1.out).mono ?_
  rintro e u2 ⟨rfl, hw1, hk1⟩
  have hx := hk1.oth w.heap.size _ 52 HX1.out (by decide) (by decide)
  have HW2 := hide hw1
  have HK2 := hide (HK1.out.trans hk1)
  have hSnew : (fun u => u.cell? ⟨w.heap.size, 0, none⟩ = some (.int .i64 a) ∧ u.cell? ⟨w.heap.size, 1, none⟩ = some (.int .i64 b)) u2 := ⟨blk_cell hx 0 rfl, blk_cell hx 1 rfl⟩
  clear hx hw1 hk1
  go_wp2_with fail
  refine hK.out _ _ hSnew (fun hHeldN => ?_)
  clear hK K hSnew
  clear hHeld
  have hHeld := hHeldN
  clear hHeldN
  try simp only [Act.put, List.setIfInBounds_toArray, List.set_cons_zero, List.set_cons_succ]
  refine tk 7 ?_
  refine wpAnyH_done (by kernel_rfl) ?_ _
  clear hHeld
  go_wp2
  go_ret
  refine ⟨rfl, ?_, HK2.out⟩
  unfold plW
  rw [← List.append_assoc]
  exact HW2.out
end Go.Proofs.Ytoaahellfflooaa
