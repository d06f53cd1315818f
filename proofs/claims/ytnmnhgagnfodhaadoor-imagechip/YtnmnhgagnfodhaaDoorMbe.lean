/-
  SEAT YtnmnhgagnfodhaaDoor: Rc, Ni.
-/
import Derived.Test.YtnmnhgagnfodhaaDoorMbd
import Derived.Test.YtnmnhgagnfodhaaDoorMbc
import Derived.Lib.SmallJoins
namespace Go.Proofs.YtnmnhgagnfodhaaDoor
open Go.RowKit
set_option linter.unusedVariables false
theorem OwnB.set {w : World} {B g n cap : Nat} {xs : List Bool} (h : OwnB w B g n cap xs) (j : Nat) (z : Bool) : OwnB (w.setCell ⟨g, j, none⟩ (.bool z)) B g n cap (xs.set j z) ∧ w.grownBy (w.setCell ⟨g, j, none⟩ (.bool z)) (some g) := by
 unfold OwnB at *
 rw [List.map_set]
 exact World.ownsRow.stored h j (.bool z)
theorem made_rowB (w : World) (n : Nat) (hn : n ≤ 9223372036854775807) : OwnB (w.alloc (.cells (madeCells #[.bool false] n) 4)) w.heap.size w.heap.size n n (List.replicate n false) := by
 have hc : (madeCells #[.bool false] n) = ((List.replicate n false).map Value.bool).toArray := by
  apply Array.ext'
  simp [madeCells]
  apply List.ext_getElem
  ·simp
  ·intro i h1 h2
   simp [Nat.mod_one]
 refine ⟨by simp, Or.inr ⟨w.heap.size, n, _, rfl, Nat.le_refl _, heap_alloc_new w _, Nat.le_refl _, by simp only [maxLen]; omega, by simp [madeCells], ?_⟩⟩
 rw [hc]
 simp
def mkTo (n : Nat) (mb : List Int) (k : Nat) : List Bool := (unbits n mb).take k ++ List.replicate (n - k) false
theorem mkTo_zero (n : Nat) (mb : List Int) : mkTo n mb 0 = List.replicate n false := by simp [mkTo]
theorem mkTo_all (n : Nat) (mb : List Int) : mkTo n mb n = unbits n mb := by simp [mkTo, List.take_of_length_le (Nat.le_of_eq (unbits_length n mb))]
theorem mkTo_step (n : Nat) (mb : List Int) (k : Nat) (h : k < n) : (mkTo n mb k).set k ((mb.getD (k / 8) 0).toNat / 2 ^ (k % 8) % 2 == 1) = mkTo n mb (k + 1) := by
 unfold mkTo
 have hl : ((unbits n mb).take k).length = k := by simp [unbits_length]; omega
 rw [List.set_append_right _ _ (by omega), hl, Nat.sub_self, List.take_succ_eq_append_getElem (by rw [unbits_length]; exact h), show n - k = (n - (k + 1)) + 1 by omega, List.replicate_succ, List.set_cons_zero, List.append_assoc]
 simp [unbits]
theorem bit_eq (z j : Nat) (hz : z ≤ 255) : (bits .and .u8 ((z : Int) / 2 ^ j) 1 == 1) = (z / 2 ^ j % 2 == 1) := by
 have e1 : ((z : Int) / 2 ^ j) = ((z / 2 ^ j : Nat) : Int) := by
  rw [Int.natCast_ediv, Int.natCast_pow]
  rfl
 have h1 : z / 2 ^ j ≤ z := Nat.div_le_self _ _
 have h2 := u8_and_nat (z / 2 ^ j) 1 (by omega) (by omega)
 rw [e1]
 rw [show ((1 : Nat) : Int) = 1 from rfl] at h2
 rw [h2, Nat.and_one_is_mod]
 rcases Nat.mod_two_eq_zero_or_one (z / 2 ^ j) with h | h <;> rw [h] <;> rfl
theorem marks_short (B q n : Nat) (rest : List Int) (w : World) (hR : RdAt w B q rest) (hl : rest.length ≤ 200000000000000) (hn : rest.length < (n + 7) / 8) (hn2 : n ≤ 1000000) :
  Calls Tryd.prog 69 #[.pointer (some ⟨q, 0, none⟩), .int .i64 (n : Int)] w fun e w' => e = .returned (.tuple #[.slice none 0 0, .int .i64 10]) ∧ w' = w := by
 go_enter Tryd.func69, Tryd.ntmps69
 go_wp2_with (first
  | (go_at_call 61; refine (markBytes_any n _ (by omega)).mono ?_; rintro e u0 ⟨rfl, hu0⟩; rw [hu0])
  | (go_at_call 66; refine (take_short B q ((n + 7) / 8) rest _ hR hl hn (by omega)).mono ?_; rintro e u1 ⟨rfl, hu1⟩; rw [hu1]))
 go_ret2
 exact ⟨rfl, rfl⟩
set_option maxHeartbeats 2000000 in
set_option maxRecDepth 100000 in
theorem marks_ok (B q n : Nat) (rest : List Int) (w : World) (hR : RdAt w B q rest) (hl : rest.length ≤ 200000000000000) (hn : (n + 7) / 8 ≤ rest.length) (hn2 : n ≤ 1000000) (hn3 : 1 ≤ n) :
  Calls Tryd.prog 69 #[.pointer (some ⟨q, 0, none⟩), .int .i64 (n : Int)] w fun e w' => RdAt w' B q (rest.drop ((n + 7) / 8)) ∧ w.grownBy w' (some q) ∧
   ((bitsOf (unbits n (rest.take ((n + 7) / 8))) = rest.take ((n + 7) / 8) ∧ ∃ g, e = .returned (.tuple #[.slice (some ⟨g, 0, none⟩) n n, .int .i64 0]) ∧ OwnB w' w.heap.size g n n (unbits n (rest.take ((n + 7) / 8)))) ∨
    (bitsOf (unbits n (rest.take ((n + 7) / 8))) ≠ rest.take ((n + 7) / 8) ∧ e = .returned (.tuple #[.slice none 0 0, .int .i64 47]))) := by
 obtain ⟨i0, hi, hz0, hz1, hz2⟩ := info_parts info4
 obtain ⟨K, hK⟩ : ∃ K, (n + 7) / 8 = K := ⟨_, rfl⟩
 obtain ⟨mb, hmb⟩ : ∃ mb, rest.take K = mb := ⟨_, rfl⟩
 have hmk : ∀ u : World, (Instr.makeSlice 33 (.int .i64 (n : Int)) (.int .i64 (n : Int))).run Tryd.prog u =
   .ok (.slice (some ⟨u.heap.size, 0, none⟩) n n) (u.alloc (.cells (madeCells #[.bool false] n) 4)) := fun u => by
  have h := run_make (P := Tryd.prog) u 33 4 i0 (.bool false) Tryd.underlying33 hi hz0 .i64 .i64 (n : Int) (n : Int) (by omega) (by omega) (by rw [hz2]; omega) (by omega)
  simpa [hz1, Value.cells] using h
 rw [hK] at hn ⊢
 rw [hmb]
 have hqlt := hR.lt
 have HR : Hid (RdAt w B q rest) := hR
 have HK : Hid ((n + 7) / 8 = K) := hK
 have HMB : Hid (rest.take K = mb) := hmb
 clear hR hK hmb
 go_enter Tryd.func69, Tryd.ntmps69
 go_wp2_with (first
  | (go_at_call 61; refine (markBytes_any n _ (by omega)).mono ?_; rintro e u0 ⟨rfl, hu0⟩; rw [hu0, HK.out])
  | (go_at_call 66; refine (take_ok B q K rest _ HR.out hl hn).mono ?_; rintro e u1 ⟨bb, off, c, rfl, r1, hc1, hc2, hbB, rd1, g1⟩; rw [HMB.out] at r1
     have HR1 : Hid (Reads u1 (some ⟨bb, off, none⟩) K mb) := r1
     have HRD1 : Hid (RdAt u1 B q (rest.drop K)) := rd1
     have HG1 : Hid (w.grownBy u1 (some q)) := g1
     clear r1 rd1 g1))
 have hs1 := HG1.out.size
 have hbb : bb < u1.heap.size := by omega
 go_loopw [24] (fun i wr => ∃ k : Nat, k ≤ n ∧ i = .int .i64 k ∧ OwnB wr u1.heap.size u1.heap.size n n (mkTo n mb k) ∧ Below u1.heap.size u1 wr)
  (fun i _ => n - (intOf i).toNat)
 case atStart => exact ⟨0, Nat.zero_le _, rfl, by rw [mkTo_zero]; exact made_rowB u1 n (by omega), below_alloc u1 _⟩
 case round =>
  obtain ⟨k, hk, rfl, hown, hbel⟩ := hrel
  by_cases hlt : k < n
  ·have hk8 : k / 8 < K := by have := HK.out; omega
   obtain ⟨b', off', he, hb, hcell⟩ := HR1.out.pos (by omega)
   cases he
   have hz0' := byteAt HR1.out.2.1 (k / 8)
   obtain ⟨z, hz⟩ := Int.eq_ofNat_of_zero_le hz0'.1
   have hcx : wr.cell? ⟨bb, off + k / 8, none⟩ = some (.int .u8 (z : Int)) := by
    rw [hbel.cell (show (⟨bb, off + k / 8, none⟩ : Addr).block < u1.heap.size from hb), ← hz]; exact hcell (k / 8) hk8
   have hzl : z ≤ 255 := by omega
   have hst := mkTo_step n mb k hlt
   rw [hz, Int.toNat_natCast] at hst
   have hc5 := hown.cell k hlt
   have hf5 : wr.frozen? ⟨u1.heap.size, k, none⟩ = false := World.ownsRow.frozenAt hown k
   clear hcell hz hz0'
   have hbe := bit_eq z (k % 8) hzl
   obtain ⟨hs1', hs2'⟩ := hown.set k (z / 2 ^ (k % 8) % 2 == 1)
   rw [hst] at hs1'
   rw [← hbe] at hs1' hs2'
   have HS1 : Hid _ := hs1'
   have HS2 : Hid _ := hs2'
   clear hs1' hs2' hbe hst
   go_wp2
   go_roundw
   case rel => exact ⟨k + 1, by omega, by go_num, HS1.out, hbel.grown HS2.out hbel.size (fun j hj => by have e' := Option.some.inj hj; omega)⟩
   case measure => simp [intOf]; omega
  ·have hkn : k = n := by omega
   subst hkn
   rw [mkTo_all] at hown
   have hml : (unbits k mb).length = k := unbits_length _ _
   have hrdB : ReadsB wr (some ⟨u1.heap.size, 0, none⟩) k (unbits k mb) := by
    have h9 := hown.reads k (Nat.le_refl _)
    rwa [List.take_of_length_le (by omega)] at h9
   have HOW : Hid (OwnB wr u1.heap.size u1.heap.size k k (unbits k mb)) := hown
   have HRB : Hid _ := hrdB
   have hw1 : w.grownBy wr (some q) := grownBy_trans HG1.out (grown_of hbel _)
   have HW1 : Hid (w.grownBy wr (some q)) := hw1
   have HRDr : Hid (RdAt wr B q (rest.drop K)) := HRD1.out.below hbel
   have HR1r : Hid (Reads wr (some ⟨bb, off, none⟩) K mb) := HR1.out.below hbel
   have hszr : u1.heap.size ≤ wr.heap.size := hbel.size
   clear hown hrdB hw1 hml
   by_cases heq : bitsOf (unbits k mb) = mb
   ·have hd : decide (bitsOf (unbits k mb) = mb) = true := decide_eq_true heq
    have HEQ : Hid (bitsOf (unbits k mb) = mb) := heq
    clear heq
    go_wp2_with (first
     | (go_at_call 33; refine (bits_any _ k k (unbits k mb) _ (by omega) HRB.out).mono ?_; rintro e u2 ⟨g2, rfl, own2, b2⟩; rw [HK.out] at own2 ⊢
        have HO2 : Hid (Own u2 wr.heap.size g2 K K (bitsOf (unbits k mb))) := own2
        have HB2 : Hid (Below wr.heap.size wr u2) := b2
        clear own2 b2)
     | (go_at_call 30; refine (equal_any _ _ _ _ _ _ (bitsOf (unbits k mb)) mb _ (Own.all HO2.out (bitsOf_byt _)) (HR1r.out.below HB2.out)).mono ?_; rintro e u3 ⟨rfl, rfl⟩; rw [hd]))
    go_ret2
    refine ⟨HRDr.out.below HB2.out, grownBy_trans HW1.out (grown_of HB2.out _), Or.inl ⟨HEQ.out, u1.heap.size, rfl, ?_⟩⟩
    have h9 := OwnB.below HOW.out HB2.out
    exact ⟨h9.1, h9.2.elim Or.inl (fun ⟨g, cap, cur, hv, hg, r⟩ => Or.inr ⟨g, cap, cur, hv, Nat.le_trans HG1.out.size hg, r⟩)⟩
   ·have hd : decide (bitsOf (unbits k mb) = mb) = false := decide_eq_false heq
    have HEQ : Hid (bitsOf (unbits k mb) ≠ mb) := heq
    clear heq
    go_wp2_with (first
     | (go_at_call 33; refine (bits_any _ k k (unbits k mb) _ (by omega) HRB.out).mono ?_; rintro e u2 ⟨g2, rfl, own2, b2⟩; rw [HK.out] at own2 ⊢
        have HO2 : Hid (Own u2 wr.heap.size g2 K K (bitsOf (unbits k mb))) := own2
        have HB2 : Hid (Below wr.heap.size wr u2) := b2
        clear own2 b2)
     | (go_at_call 30; refine (equal_any _ _ _ _ _ _ (bitsOf (unbits k mb)) mb _ (Own.all HO2.out (bitsOf_byt _)) (HR1r.out.below HB2.out)).mono ?_; rintro e u3 ⟨rfl, rfl⟩; rw [hd]))
    go_ret2
    exact ⟨HRDr.out.below HB2.out, grownBy_trans HW1.out (grown_of HB2.out _), Or.inr ⟨HEQ.out, rfl⟩⟩
end Go.Proofs.YtnmnhgagnfodhaaDoor
namespace Go.Proofs.YtnmnhgagnfodhaaDoor
open Go.RowKit
set_option linter.unusedVariables false
theorem run_append_zeros_full (w : World) (base n k : Nat) (x : Addr) (xs : List Int) (ty : TypeId) (hr : Reads w (some x) n xs) (h0 : 0 < k) (hb : n + k ≤ 140737488355328) (hbase : base ≤ w.heap.size) :
  ∃ g' cap' w', (Builtin.append_ #[32, 3] ty #[.slice (some x) n n, .int .i64 (k : Int)]).run Tryd.prog w = .ok (.slice (some ⟨g', 0, none⟩) (n + k) cap') w' ∧ Own w' base g' (n + k) cap' (xs ++ List.replicate k 0) ∧ w.grownBy w' none := by
 obtain ⟨i, hi, hz0, hz1, hz2⟩ := info_parts info5
 have hlx := hr.1
 have hlen : ((xs ++ List.replicate k (0 : Int)).map (Value.int .u8)).length = (n + k) * 1 := by simp; omega
 have holds : (Builtin.firstCells i.size n (.slice (some x) n n)).run Tryd.prog w.drew = .ok (xs.map (Value.int .u8)).toArray w.drew :=
  run_firstCells_some (P := Tryd.prog) w.drew i.size n x n n (xs.map (Value.int .u8)) (by rw [hz1]; simp; omega) (fun j u hj => hr.news j u hj)
 have hr' := Lib.run_append_grow_zeros (P := Tryd.prog) w 32 3 ty 5 i (.int .u8 0) .i64 .i64 Tryd.underlying32 Tryd.underlying3 hi hz0 (some x) n n _ holds k h0 (by rw [hz1]; decide) (by omega) (by omega) (by rw [hz2]; omega) (by rw [hz2]; exact growslice_fits (by omega) (by omega))
 have hge := grownCap_ge w (n + k) n 5
 have hcm' : grownCap w (n + k) n 5 ≤ maxLen := grownCap_le_maxLen w (n + k) n 5 (by simp only [maxLen]; omega)
 refine ⟨w.heap.size, grownCap w (n + k) n 5, _, hr', ⟨hlen, .inr ⟨w.heap.size, _, _, rfl, hbase, heap_alloc_new w.drew _, hge, hcm', ?_, ?_⟩⟩, ⟨rfl, rfl, rfl, by simp, fun j hj _ => heap_alloc_old w.drew _ hj⟩⟩
 ·simp only [Array.size_append, List.size_toArray, size_zeroCells, List.length_map]
  simp [Value.cells]
  omega
 ·rw [zero_cells k]
  simp only [Array.toList_append, List.map_append]
  rw [List.take_left' (by simp; omega)]
theorem wpList_append_zeros_full {w : World} {ops : Array Oper} {rest : List Oper} {o : Oper} {a : Act} {Q : Exit → Act → World → Prop} (hgd : o.guard = none) (s x : Operand)
  (ho : o.op = .call { callee := .builtin .append, args := #[s, x], argTypes := #[32, 3] })
  (base n : Nat) (ad : Addr) (xs : List Int) (hs : a.eval s = .slice (some ad) n n) (hr : Reads w (some ad) n xs) (k : Nat) (hx : a.eval x = .int .i64 (k : Int)) (h0 : 0 < k) (hb : n + k ≤ 140737488355328) (hbase : base ≤ w.heap.size)
  (h : ∀ g' cap' w', Own w' base g' (n + k) cap' (xs ++ List.replicate k 0) → w.grownBy w' none → wpList Tryd.prog ops Q rest (a.put o.dst (.slice (some ⟨g', 0, none⟩) (n + k) cap')) w') : wpList Tryd.prog ops Q (o :: rest) a w := by
 obtain ⟨g', cap', w', hr', h1, h2⟩ := run_append_zeros_full w base n k ad xs o.type hr h0 hb hbase
 refine wpList_plain hgd fun K hK => ?_
 unfold Oper.wp
 simp [execOp, ho, resolve, invoke, builtin, hs, hx, hr', Result.andThen]
 exact hK _ _ (h g' cap' w' h1 h2)
set_option maxHeartbeats 1000000 in
set_option maxRecDepth 100000 in
theorem number_first (B q n : Nat) (ad : Addr) (laid : List Int) (kind count : Nat) (size : Nat) (v : Int) (w : World) (hq : w.heap[q]? = some (.cells #[.slice (some ad) n n, .int .i64 (kind : Int), .int .i64 (count : Int)] 89 (0, 0))) (hr : Reads w (some ad) n laid) (hBq : B ≤ q) (hl : n ≤ 1000000000) (h1 : 1 ≤ size) (h2 : size ≤ 4) (hv0 : 0 ≤ v) (hv : v < 256 ^ size) :
  Calls Tryd.prog 32 #[.pointer (some ⟨q, 0, none⟩), .int .i64 (size : Int), .int .i64 v] w fun e w' => e = .returned (.tuple #[]) ∧ WrAt w' B q ⟨laid ++ leN size v, kind, count⟩ ∧ Kw B w w' := by
 have hBw : B ≤ w.heap.size := by have := (Array.getElem?_eq_some_iff.1 hq).1; omega
 have hn := hr.1
 have hp4 : (256 : Int) ^ size ≤ 256 ^ 4 := pow256_le h2
 have hv4 : v < 4294967296 := by have : (256 : Int) ^ 4 = 4294967296 := by decide
                                 omega
 have hfit := fits_pow v size hv0 hv
 have hcv : IntKind.u64.wrap v = v := by rw [IntKind.wrap_u64]; omega
 obtain ⟨c0, c1, c2, f0, f1, f2⟩ := blk3_cells hq
 have HQ : Hid _ := hq
 have HR : Hid (Reads w (some ad) n laid) := hr
 have HF : Hid ((v / 2 ^ (8 * (size : Int)).toNat == 0) = true) := hfit
 have HN : Hid (laid.length = n) := hn
 clear hq hr hfit hn hv hp4
 go_enter Tryd.func32, Tryd.ntmps32
 go_wp2_with (first
  | (at_builtin; refine wpList_append_zeros_full rfl (.tmp 16) (.tmp 17) rfl B n ad laid rfl HR.out size rfl h1 (by omega) hBw ?_; intro g' cap' w1 own1 grow1
     have hq1 : w1.heap[q]? = some (.cells #[.slice (some ad) n n, .int .i64 (kind : Int), .int .i64 (count : Int)] 89 (0, 0)) := (grow1.block q (Array.getElem?_eq_some_iff.1 HQ.out).1 (fun e => by cases e)).trans HQ.out
     have HG : Hid _ := grow1
     have HQ1 : Hid _ := hq1
     have HO1 : Hid (Own w1 B g' (n + size) cap' (laid ++ List.replicate size 0)) := own1
     have HQ2 : Hid _ := blk3_0 hq1 (.slice (some ⟨g', 0, none⟩) (n + size) cap')
     have HO2 : Hid (Own (w1.setCell ⟨q, 0, none⟩ (.slice (some ⟨g', 0, none⟩) (n + size) cap')) B g' (n + size) cap' (laid ++ List.replicate size 0)) := Own.apart own1 (grownBy_setCell' w1 q (.slice (some ⟨g', 0, none⟩) (n + size) cap')) (Own.ne own1 hq1 (by decide)).symm
     obtain ⟨d0, d1, d2, e0, e1, e2⟩ := blk3_cells hq1
     clear grow1 hq1 own1 c0 c1 c2 f0 f1 f2)
  | (go_at_call 60; refine (put_ok B g' (n + size) cap' (n + size) n size v (laid ++ List.replicate size 0) _ (by omega) h1 (by omega) HF.out (Nat.le_refl _) (Nat.le_refl _) hv0 HO2.out).mono ?_; rintro e w2 ⟨rfl, own3, grow3⟩; have HO3 : Hid (Own w2 B g' (n + size) cap' (putL (laid ++ List.replicate size 0) n v size)) := own3; have HG3 : Hid _ := grow3; clear own3 grow3))
 go_end0
 have e1 : putL (laid ++ List.replicate size 0) n v size = laid ++ leN size v := by rw [← HN.out]; exact putL_tail _ _ _ _
 have o3 := HO3.out
 rw [e1] at o3
 have hlen : (laid ++ leN size v).length = n + size := by rw [List.length_append, leN_length, HN.out]
 refine ⟨rfl, ⟨g', cap', ?_, ?_, hBq, ?_⟩, ?_⟩
 ·simp only [hlen]
  exact (HG3.out.block q (by have := (Array.getElem?_eq_some_iff.1 HQ2.out).1; exact this) (fun e => (Own.ne HO2.out HQ2.out (by decide)) (by cases e; rfl))).trans HQ2.out
 ·simp only [hlen]; exact o3
 ·intro x hx
  rcases List.mem_append.1 hx with h | h
  ·exact HR.out.2.1 x h
  ·exact leN_byt _ _ x h
 ·have k1 : Kw B w w1 := Kw.of_below hBw (below_of HG.out)
  have k2 : Kw B w1 (w1.setCell ⟨q, 0, none⟩ (.slice (some ⟨g', 0, none⟩) (n + size) cap')) := Kw.of_box HQ1.out hBq (Nat.le_trans hBw HG.out.size) (grownBy_setCell' w1 q _)
  have k3 : Kw B (w1.setCell ⟨q, 0, none⟩ (.slice (some ⟨g', 0, none⟩) (n + size) cap')) w2 := Kw.of_own HO2.out (Nat.le_trans (Nat.le_trans hBw HG.out.size) (grownBy_setCell' w1 q _).size) HG3.out
  exact (k1.trans k2).trans k3
end Go.Proofs.YtnmnhgagnfodhaaDoor
