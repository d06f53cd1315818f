/-
  SEAT YtnmnhgagnfodhaaDoor: Nd, Ne.
-/
import Derived.Test.YtnmnhgagnfodhaaDoorMa
import Derived.Test.YtnmnhgagnfodhaaDoorMba
import Derived.Deep.AppendLies
namespace Go.Proofs.YtnmnhgagnfodhaaDoor
open Go.RowKit
set_option linter.unusedVariables false
def RV (w : World) (a : Option Addr) (len size : Nat) (xs : List Value) : Prop :=
 xs.length = len * size ∧ (a = none → len = 0) ∧ ∀ x, a = some x → ∀ j u, xs[j]? = some u → w.cell? (x.add j) = some u
theorem step_append_src {w : World} {ops : Array Oper} {o : Oper} {a : Act} {K : Act → World → Prop} {Q : Exit → Act → World → Prop} {X : Prop} (hgd : o.guard = none) (s x : Operand) (T : TypeId)
  (ho : o.op = .call { callee := .builtin .append, args := #[s, x], argTypes := #[T, T] })
  (base : Nat) (E : TypeId) (i : TypeInfo) (z : Value) (size bytes : Nat) (ht : Tryd.prog.underlying T = some (.slice E)) (hi : Tryd.prog.info? E = some i) (hz : i.zero = some z)
  (hsize : i.size = size) (hby : i.bytes = bytes) (hzs : z.cells.size = size) (hsz : 0 < size)
  (v : Value) (n : Nat) (xs : List Value) (hs : a.eval s = v) (hown : w.ownsRow base E size v n xs)
  (ad : Option Addr) (m c : Nat) (news : List Value) (hx : a.eval x = .slice ad m c) (hrd : RV w ad m size news) (h1 : ∀ u ∈ news, u.oneCell' = true)
  (h63 : n + m ≤ maxLen) (hbytes : (n + m) * bytes ≤ 140737488355328) (hbase : base ≤ w.heap.size)
  (h : ∀ v' w', w'.ownsRow base E size v' (n + m) (xs ++ news) → w.grownBy w' v.ownBlock → K (a.put o.dst v') w') :
  if Region.wanted o (yielded ops a.tmps) = true then Oper.wp Tryd.prog o a w K Q else X := by
 rcases Nat.eq_zero_or_pos m with h0 | hm
 ·subst h0
  have hz0 : news = [] := List.eq_nil_of_length_eq_zero (by have := hrd.1; omega)
  subst hz0
  have hw : Region.wanted o (yielded ops a.tmps) = true := by simp [Region.wanted, hgd]
  rw [if_pos hw]
  have hrun : (Builtin.append_ #[T, T] o.type #[v, .slice ad 0 c]).run Tryd.prog w = .ok v w := by
   cases ad with
   | some ad =>
    have hl0 : (loadCells ad 0).run Tryd.prog w = .ok #[] w := by
     have := run_loadCells (P := Tryd.prog) w ad 0 (fun _ => undef) (fun j hj => absurd hj (Nat.not_lt_zero _))
     simpa using this
    rcases hown.2 with ⟨rfl, rfl⟩ | ⟨g, cap, cur, rfl, _, _, hnc, _⟩
    ·simp [Builtin.append_, run_underlying ht, sizeOf, typeInfo, hi, Builtin.lenOf, Builtin.firstCells, hl0, Result.andThen]
    ·simp [Builtin.append_, run_underlying ht, sizeOf, typeInfo, hi, Builtin.lenOf, Builtin.firstCells, hnc, storeCells, hl0, Result.andThen]
   | none =>
    rcases hown.2 with ⟨rfl, rfl⟩ | ⟨g, cap, cur, rfl, _, _, hnc, _⟩
    ·simp [Builtin.append_, run_underlying ht, sizeOf, typeInfo, hi, Builtin.lenOf, Builtin.firstCells]
    ·simp [Builtin.append_, run_underlying ht, sizeOf, typeInfo, hi, Builtin.lenOf, Builtin.firstCells, hnc, storeCells]
  unfold Oper.wp
  simp [execOp, ho, resolve, invoke, builtin, hs, hx, hrun, Result.andThen]
  exact h v w (by simpa using hown) (World.grownBy.refl _ _)
 ·cases ad with
  | none => exact absurd (hrd.2.1 rfl) (by omega)
  | some ad => exact step_append_lies w hgd s x T ho base E i z size bytes ht hi hz hsize hby hzs hsz v n xs hs hown ad m c news hx hrd.1 (fun j u hj => hrd.2.2 ad rfl j u hj) h1 hm h63 hbytes hbase _ rfl (fun g cap w' o1 g1 _ _ => h _ w' o1 g1)
theorem Reads.rv {w : World} {a : Option Addr} {len : Nat} {zs : List Int} (h : Reads w a len zs) : RV w a len 1 (zs.map (Value.int .u8)) := by
 refine ⟨by simp [h.1], h.2.2.1, fun x hx j u hj => ?_⟩
 subst hx
 exact h.news j u hj
theorem Reads.drew1 {w : World} {a : Option Addr} {len : Nat} {zs : List Int} (h : Reads w a len zs) : Reads w.drew a len zs := h
theorem Reads.kw {w w' : World} {a : Option Addr} {len B : Nat} {zs : List Int} (h : Reads w a len zs) (hlow : ∀ x, a = some x → x.block < B) (hk : Kw B w w') : Reads w' a len zs := by
 obtain ⟨h1, h2, h3, h4⟩ := h
 refine ⟨h1, h2, h3, fun x hx i hi => ?_⟩
 rw [hk.bel.cell (show (x.add i).block < B by rw [show (x.add i).block = x.block by unfold Addr.add; split <;> rfl]; exact hlow x hx)]
 exact h4 x hx i hi
theorem told_enc (C : Nat) (g : List Int) : enc C ⟨1, 1, g⟩ = (1 : Int) :: (le2 (wrN (g.take C)) ++ (g.take (wrN (g.take C)) ++ g.drop C)) := by
 unfold enc
 rw [if_pos rfl]
 rfl
set_option maxHeartbeats 2000000 in
set_option maxRecDepth 100000 in
theorem told_any (B q bk off L cap C : Nat) (pg : List Int) (st : St) (w : World) (hW : WrAt w B q st) (hl : st.laid.length ≤ 900000000) (hr : Reads w (some ⟨bk, off, none⟩) L pg) (hbk : bk < B) (hCL : C < L) (hLc : L ≤ cap) (hL : L ≤ 65535) (hcap : cap ≤ 9223372036854775807) :
  Calls Tryd.prog 64 #[.pointer (some ⟨q, 0, none⟩), .slice (some ⟨bk, off, none⟩) L cap, .int .i64 (C : Int)] w fun e w' => e = .returned (.tuple #[]) ∧ WrAt w' B q (toldS C st pg) ∧ Kw B w w' := by
 obtain ⟨i0, hi0, hz0, hz1, hz2⟩ := info_parts info5
 have hBw := hW.size
 obtain ⟨laid, kind, count⟩ := st
 obtain ⟨N, hN⟩ : ∃ N, laid.length = N := ⟨_, rfl⟩
 simp only at hl
 have hpl := hr.1
 obtain ⟨n, hn⟩ : ∃ n, wrN (pg.take C) = n := ⟨_, rfl⟩
 have hnC : n ≤ C := by rw [← hn]; have := wrN_le (pg.take C); simp at this; omega
 have hrC : Reads w (some ⟨bk, off, none⟩) C (pg.take C) := hr.front C (by omega)
 have HW : Hid (WrAt w B q ⟨laid, kind, count⟩) := hW
 have HR : Hid (Reads w (some ⟨bk, off, none⟩) L pg) := hr
 have HRC : Hid (Reads w (some ⟨bk, off, none⟩) C (pg.take C)) := hrC
 have HE : Hid (wrN (pg.take C) = n) := hn
 have HN : Hid (laid.length = N) := hN
 have HP : Hid (pg.length = L) := hpl
 rw [hN] at hl
 have d1 : (C : Int) ≤ (cap : Int) := by omega
 have d2 : C ≤ cap := by omega
 have d3 : n ≤ cap := by omega
 have d4 : (n : Int) ≤ (cap : Int) := by omega
 have d5 : C ≤ L := by omega
 have d6 : (C : Int) ≤ (L : Int) := by omega
 have d7 : ¬ cap = C := by omega
 have d8 : ¬ cap - C = 0 := by omega
 clear hW hr hrC hn hN hpl
 go_enter Tryd.func64, Tryd.ntmps64
 go_upto_region 3 with (first
  | (go_at_call 83; refine (written_any _ _ _ (pg.take C) _ (by omega) HRC.out).mono ?_; rintro e u0 ⟨rfl, hu0⟩; rw [hu0, HE.out])
  | (go_at_call 32; have zz := M1; refine (number_any B q ⟨laid ++ leN 1 1, kind, count⟩ 2 (n : Int) _ wr1 (by simp only [List.length_append, leN_length, HN.out]; omega) (by omega) (by omega) (by omega) (by omega)).mono ?_; rintro e w2 ⟨rfl, wr2, kw2⟩; clear M1 zz
     obtain ⟨g2, c2, hq2, own2, hBq, by2⟩ := wr2
     simp only [List.length_append, leN_length, HN.out] at hq2 own2
     have HQ2 : Hid _ := hq2
     have HO2 : Hid (Own w2 B g2 (N + 1 + 2) c2 (laid ++ leN 1 1 ++ leN 2 (n : Int))) := own2
     have HY2 : Hid _ := by2
     have HK2 : Hid _ := kw2
     clear hq2 own2 by2 kw2 wr1)
  | (go_at_call 32; refine (number_any B q ⟨laid, kind, count⟩ 1 1 _ HW.out (by simp only [HN.out]; omega) (by omega) (by omega) (by omega) (by omega)).mono ?_; rintro e w1 ⟨rfl, wr1, kw1⟩; have M1 : Hid True := trivial; have HK1 : Hid _ := kw1; clear kw1))
 obtain ⟨c0, c1, c2', f0, f1, f2⟩ := blk3_cells HQ2.out
 have hK2 : Kw B w w2 := HK1.out.trans HK2.out
 have hB2 := Nat.le_trans hBw hK2.bel.size
 have HR2 : Hid (Reads w2.drew (some ⟨bk, off, none⟩) L pg) := (HR.out.kw (fun x hx => by cases hx; exact hbk) hK2).drew1
 have HR2n : Hid (Reads w2.drew (some ⟨bk, off, none⟩) n (pg.take n)) := HR2.out.front n (by omega)
 have HOd : Hid (Own w2.drew B g2 (N + 1 + 2) c2 (laid ++ leN 1 1 ++ leN 2 (n : Int))) := HO2.out.drew1
 have hK2' : Hid _ := hK2
 clear hK2
 refine wp_region_held_drew (S := (fun _ : World => True)) (by kernel_rfl) (trivial) (fun hHeld => ?_)
 refine tk 0 ?_
 refine tk 1 ?_
 refine tk 2 ?_
 refine tk 3 ?_
 refine tk 5 ?_
 refine tk 6 ?_
 refine tk 7 ?_
 refine rd 4 (fun K hK => ?_)
 go_simp
 go_wp2_with fail
 refine hK.out _ _ hHeld (fun hHeld4 => ?_)
 clear hK K
 clear hHeld4
 try simp only [Act.put, zSt, zS0, zS1]
 refine rd 8 (fun K hK => ?_)
 refine step_append_src (by rfl) (.tmp 20) (.tmp 23) 32 (by rfl) B 5 i0 _ 1 1 Tryd.underlying32 hi0 hz0 hz1 hz2 rfl (by decide) (.slice (some ⟨g2, 0, none⟩) (N + 1 + 2) c2) (N + 1 + 2) ((laid ++ leN 1 1 ++ leN 2 (n : Int)).map (Value.int .u8)) (by rfl) HOd.out (some ⟨bk, off, none⟩) n cap ((pg.take n).map (Value.int .u8)) (by rfl) HR2n.out.rv (ints_oneCell _ _) (by simp only [maxLen]; omega) (by omega) hB2 ?_
 intro v3 w3 own3 grow3
 obtain ⟨g3, c3, rfl⟩ : ∃ g3 c3, v3 = .slice (some ⟨g3, 0, none⟩) (N + 1 + 2 + n) c3 := by obtain ⟨g3, c3, h3, _⟩ := own_shape own3 (by omega); exact ⟨g3, c3, h3⟩
 have HQ3 : Hid _ := (grow3.block q (Array.getElem?_eq_some_iff.1 HQ2.out).1 (fun e => (Own.ne HO2.out HQ2.out (by decide)) (by cases e; rfl))).trans HQ2.out
 have HO3 : Hid (Own w3 B g3 (N + 1 + 2 + n) c3 (laid ++ leN 1 1 ++ leN 2 (n : Int) ++ pg.take n)) := by have h9 := own3; rw [← List.map_append] at h9; exact h9
 have HG3 : Hid (w2.drew.grownBy w3 (some g2)) := grow3
 clear own3 grow3 c0 c1 c2' f0 f1 f2
 obtain ⟨c0, c1, c2', f0, f1, f2⟩ := blk3_cells HQ3.out
 have hSnew : True := trivial
 clear hHeld
 refine hK.out _ _ hSnew (fun hHeld => ?_)
 clear hK K hSnew
 try simp only [Act.put, zSt, zS0, zS1]
 refine tk 9 ?_
 refine tk 10 ?_
 refine rd 11 (fun K hK => ?_)
 go_simp
 go_wp2_with fail
 refine hK.out _ _ hHeld (fun hHeld11 => ?_)
 clear hK K
 clear hHeld11
 try simp only [Act.put, zSt, zS0, zS1]
 refine wpAnyH_done (by kernel_rfl) ?_ _
 go_upto_region 4 with fail
 have HQ4 : Hid ((w3.setCell ⟨q, 0, none⟩ (.slice (some ⟨g3, 0, none⟩) (N + 1 + 2 + n) c3)).heap[q]? = some (.cells #[.slice (some ⟨g3, 0, none⟩) (N + 1 + 2 + n) c3, .int .i64 (kind : Int), .int .i64 (count : Int)] 89 (0, 0))) := blk3_0 HQ3.out _
 have HO4 : Hid (Own (w3.setCell ⟨q, 0, none⟩ (.slice (some ⟨g3, 0, none⟩) (N + 1 + 2 + n) c3)).drew B g3 (N + 1 + 2 + n) c3 (laid ++ leN 1 1 ++ leN 2 (n : Int) ++ pg.take n)) := Own.drew1 (Own.apart HO3.out (set_grown w3 q 0 _) (Own.ne HO3.out HQ3.out (by decide)).symm)
 have hB3 : B ≤ w3.heap.size := Nat.le_trans hB2 HG3.out.size
 have hK4 : Kw B w2 (w3.setCell ⟨q, 0, none⟩ (.slice (some ⟨g3, 0, none⟩) (N + 1 + 2 + n) c3)) := ((Kw.drewl _ _).trans (Kw.of_own HOd.out hB2 HG3.out)).trans (Kw.of_box HQ3.out hBq hB3 (set_grown w3 q 0 _))
 have hB4 : B ≤ (w3.setCell ⟨q, 0, none⟩ (.slice (some ⟨g3, 0, none⟩) (N + 1 + 2 + n) c3)).heap.size := Nat.le_trans hB2 hK4.bel.size
 have HR4 : Hid (Reads (w3.setCell ⟨q, 0, none⟩ (.slice (some ⟨g3, 0, none⟩) (N + 1 + 2 + n) c3)).drew (some ⟨bk, off + C, none⟩) (L - C) (pg.drop C)) := by
  have h1 := (HR.out.kw (fun x hx => by cases hx; exact hbk) (hK2'.out.trans hK4)).drew1
  obtain ⟨b', o', he, h2⟩ := h1.part C L (by omega) (Nat.le_refl _) hCL
  cases he
  rw [List.take_of_length_le (by rw [List.length_drop, HP.out]; exact Nat.le_refl _)] at h2
  exact h2
 have HK4 : Hid _ := hK4
 clear hK4 c0 c1 c2' f0 f1 f2
 obtain ⟨c0, c1, c2', f0, f1, f2⟩ := blk3_cells HQ4.out
 refine wp_region_held_drew (S := (fun _ : World => True)) (by kernel_rfl) (trivial) (fun hHeld => ?_)
 refine tk 0 ?_
 refine tk 1 ?_
 refine tk 2 ?_
 refine tk 3 ?_
 refine tk 5 ?_
 refine tk 6 ?_
 refine tk 7 ?_
 refine rd 4 (fun K hK => ?_)
 go_simp
 go_wp2_with fail
 refine hK.out _ _ hHeld (fun hHeld4 => ?_)
 clear hK K
 clear hHeld4
 try simp only [Act.put, zSt, zS0, zS1]
 refine rd 8 (fun K hK => ?_)
 refine step_append_src (by rfl) (.tmp 31) (.tmp 34) 32 (by rfl) B 5 i0 _ 1 1 Tryd.underlying32 hi0 hz0 hz1 hz2 rfl (by decide) (.slice (some ⟨g3, 0, none⟩) (N + 1 + 2 + n) c3) (N + 1 + 2 + n) ((laid ++ leN 1 1 ++ leN 2 (n : Int) ++ pg.take n).map (Value.int .u8)) (by rfl) HO4.out (some ⟨bk, off + C, none⟩) (L - C) (cap - C) ((pg.drop C).map (Value.int .u8)) (by rfl) HR4.out.rv (ints_oneCell _ _) (by simp only [maxLen]; omega) (by omega) hB4 ?_
 intro v5 w5 own5 grow5
 obtain ⟨g5, c5, rfl⟩ : ∃ g5 c5, v5 = .slice (some ⟨g5, 0, none⟩) (N + 1 + 2 + n + (L - C)) c5 := by obtain ⟨g5, c5, h5, _⟩ := own_shape own5 (by omega); exact ⟨g5, c5, h5⟩
 have HQ5 : Hid _ := (grow5.block q (Array.getElem?_eq_some_iff.1 HQ4.out).1 (fun e => (Own.ne HO4.out HQ4.out (by decide)) (by cases e; rfl))).trans HQ4.out
 have HO5 : Hid (Own w5 B g5 (N + 1 + 2 + n + (L - C)) c5 (laid ++ leN 1 1 ++ leN 2 (n : Int) ++ pg.take n ++ pg.drop C)) := by have h9 := own5; rw [← List.map_append] at h9; exact h9
 have HG5 : Hid ((w3.setCell ⟨q, 0, none⟩ (.slice (some ⟨g3, 0, none⟩) (N + 1 + 2 + n) c3)).drew.grownBy w5 (some g3)) := grow5
 clear own5 grow5 c0 c1 c2' f0 f1 f2
 obtain ⟨c0, c1, c2', f0, f1, f2⟩ := blk3_cells HQ5.out
 have hSnew : True := trivial
 clear hHeld
 refine hK.out _ _ hSnew (fun hHeld => ?_)
 clear hK K hSnew
 try simp only [Act.put, zSt, zS0, zS1]
 refine tk 9 ?_
 refine tk 10 ?_
 refine rd 11 (fun K hK => ?_)
 go_simp
 go_wp2_with fail
 refine hK.out _ _ hHeld (fun hHeld11 => ?_)
 clear hK K
 clear hHeld11
 try simp only [Act.put, zSt, zS0, zS1]
 refine wpAnyH_done (by kernel_rfl) ?_ _
 go_wp2
 go_end0
 have e9 : laid ++ leN 1 1 ++ leN 2 (n : Int) ++ pg.take n ++ pg.drop C = laid ++ enc C ⟨1, 1, pg⟩ := by
  rw [told_enc, HE.out, leN2 n (by omega), show leN 1 1 = [(1 : Int)] from leN1 1 (by omega)]
  simp only [List.append_assoc, List.cons_append, List.nil_append]
 have hq6 := blk3_2 (blk3_0 HQ5.out (.slice (some ⟨g5, 0, none⟩) (N + 1 + 2 + n + (L - C)) c5)) (.int .i64 0)
 have hg6 := grownBy_trans (set_grown w5 q 0 (.slice (some ⟨g5, 0, none⟩) (N + 1 + 2 + n + (L - C)) c5)) (set_grown _ q 2 (.int .i64 0))
 have o6 := Own.apart HO5.out hg6 (Own.ne HO5.out HQ5.out (by decide)).symm
 have hlen : (laid ++ enc C ⟨1, 1, pg⟩).length = N + 1 + 2 + n + (L - C) := by
  rw [← e9]
  simp only [List.length_append, leN_length, HN.out, List.length_take, List.length_drop, HP.out]
  omega
 rw [e9] at o6
 refine ⟨rfl, ⟨g5, c5, ?_, ?_, hBq, ?_⟩, ?_⟩
 ·unfold toldS
  simp only [hlen]
  exact hq6
 ·unfold toldS
  simp only [hlen]
  exact o6
 ·unfold toldS
  simp only
  rw [← e9]
  intro x hx
  rcases List.mem_append.1 hx with hx | hx
  ·rcases List.mem_append.1 hx with hx | hx
   ·exact HY2.out x hx
   ·exact HR.out.2.1 x (List.mem_of_mem_take hx)
  ·exact HR.out.2.1 x (List.mem_of_mem_drop hx)
 ·have s5 : B ≤ w5.heap.size := Nat.le_trans hB4 HG5.out.size
  exact ((hK2'.out.trans HK4.out).trans ((Kw.drewl _ _).trans (Kw.of_own HO4.out hB4 HG5.out))).trans (Kw.of_box HQ5.out hBq s5 hg6)
end Go.Proofs.YtnmnhgagnfodhaaDoor
namespace Go.Proofs.YtnmnhgagnfodhaaDoor
open Go.RowKit
set_option linter.unusedVariables false
set_option maxHeartbeats 1000000 in
set_option maxRecDepth 100000 in
theorem page_any (B q bk off L cap C : Nat) (a' : Option Addr) (n' cap' : Nat) (pg ah : List Int) (st : St) (w : World) (hW : WrAt w B q st) (hl : st.laid.length ≤ 900000000) (hl2 : 2 ≤ st.laid.length) (hct : st.count ≤ 65535) (hr : Reads w (some ⟨bk, off, none⟩) L pg) (hr' : Reads w a' n' ah) (hbk : bk < B) (hCL : C < L) (hLc : L ≤ cap) (hL : L ≤ 65535) (hcap : cap ≤ 9223372036854775807) :
  Calls Tryd.prog 34 #[.pointer (some ⟨q, 0, none⟩), .slice (some ⟨bk, off, none⟩) L cap, .slice a' n' cap', .int .i64 (C : Int)] w fun e w' => e = .returned (.tuple #[]) ∧ WrAt w' B q (pageS C st ah pg) ∧ Kw B w w' := by
 unfold pageS
 cases hb : blankB pg with
 | true =>
  rw [if_pos rfl]
  go_enter Tryd.func34, Tryd.ntmps34
  go_wp2_with (first
   | (go_at_call 62; refine (isBlank_any _ _ _ pg _ (by omega) hr).mono ?_; rintro e u0 ⟨rfl, hu0⟩; rw [hu0, hb])
   | (go_at_call 63; refine (run_any B q 0 st _ hW hl hl2 (by omega) hct).mono ?_; rintro e u1 ⟨rfl, wr1, kw1⟩))
  go_end0
  exact ⟨rfl, wr1, kw1⟩
 | false =>
  rw [if_neg (by simp)]
  by_cases he : pg = ah
  ·rw [if_pos he]
   have hd : decide (pg = ah) = true := decide_eq_true he
   clear he
   go_enter Tryd.func34, Tryd.ntmps34
   go_wp2_with (first
    | (go_at_call 62; refine (isBlank_any _ _ _ pg _ (by omega) hr).mono ?_; rintro e u0 ⟨rfl, hu0⟩; rw [hu0, hb])
    | (go_at_call 30; refine (equal_any _ _ _ _ _ _ pg ah _ hr hr').mono ?_; rintro e u0 ⟨rfl, hu0⟩; rw [hu0, hd])
    | (go_at_call 63; refine (run_any B q 2 st _ hW hl hl2 (by omega) hct).mono ?_; rintro e u1 ⟨rfl, wr1, kw1⟩))
   go_end0
   exact ⟨rfl, wr1, kw1⟩
  ·rw [if_neg he]
   have hd : decide (pg = ah) = false := decide_eq_false he
   clear he
   go_enter Tryd.func34, Tryd.ntmps34
   go_wp2_with (first
    | (go_at_call 62; refine (isBlank_any _ _ _ pg _ (by omega) hr).mono ?_; rintro e u0 ⟨rfl, hu0⟩; rw [hu0, hb])
    | (go_at_call 30; refine (equal_any _ _ _ _ _ _ pg ah _ hr hr').mono ?_; rintro e u0 ⟨rfl, hu0⟩; rw [hu0, hd])
    | (go_at_call 64; refine (told_any B q bk off L cap C pg st _ hW hl hr hbk hCL hLc hL hcap).mono ?_; rintro e u1 ⟨rfl, wr1, kw1⟩))
   go_end0
   exact ⟨rfl, wr1, kw1⟩
theorem grownBy_drew {a b : World} {r : Option Nat} (h : a.grownBy b r) : a.grownBy b.drew r := ⟨h.os, h.tape, h.output, h.size, h.block⟩
def flipL (xs : List Int) (j : Nat) : List Int := xs.set (j / 8) (bits .xor .u8 (xs.getD (j / 8) 0) (2 ^ (j % 8) % 256))
theorem flip_ok (B g m cap l j : Nat) (xs : List Int) (w : World) (hl : l ≤ 140737488355000) (hj : j < 8 * l) (hlm : l ≤ m) (hown : Own w B g m cap xs) :
  Calls Tryd.prog 51 #[.slice (some ⟨g, 0, none⟩) l cap, .int .i64 j] w fun e w' => e = .returned (.int .i64 0) ∧ Own w' B g m cap (flipL xs j) ∧ w.grownBy w' (some g) := by
 obtain ⟨z, hz⟩ : ∃ z, z = xs.getD (j / 8) 0 := ⟨_, rfl⟩
 have hcx : w.cell? ⟨g, j / 8, none⟩ = some (.int .u8 z) := by rw [hz]; exact hown.cell (j / 8) (by omega)
 have hfz : w.frozen? ⟨g, j / 8, none⟩ = false := World.ownsRow.frozenAt hown (j / 8)
 have i1 : (j : Int) / 8 < (l : Int) := by omega
 obtain ⟨hs1, hs2⟩ := hown.set (j / 8) (bits .xor .u8 z (2 ^ (j % 8) % 256))
 have HS1 : Hid (Own (w.setCell ⟨g, j / 8, none⟩ (.int .u8 (bits .xor .u8 z (2 ^ (j % 8) % 256)))) B g m cap (flipL xs j)) := by unfold flipL; rw [← hz]; exact hs1
 have HS2 : Hid (w.grownBy (w.setCell ⟨g, j / 8, none⟩ (.int .u8 (bits .xor .u8 z (2 ^ (j % 8) % 256)))) (some g)) := hs2
 clear hz hs1 hs2 hown
 go_enter Tryd.func51, Tryd.ntmps51
 go_wp2
 go_region
 all_goals go_wp2
 all_goals go_ret
 exact ⟨rfl, Own.drew1 HS1.out, grownBy_drew HS2.out⟩
theorem flipL_length (xs : List Int) (j : Nat) : (flipL xs j).length = xs.length := by simp [flipL]
theorem xor_b (z y : Int) (h0 : 0 ≤ z) (h1 : z ≤ 255) (h2 : 0 ≤ y) (h3 : y ≤ 255) : 0 ≤ bits .xor .u8 z y ∧ bits .xor .u8 z y ≤ 255 ∧ bits .xor .u8 (bits .xor .u8 z y) y = z := by
 obtain ⟨z, rfl⟩ := Int.eq_ofNat_of_zero_le h0
 obtain ⟨y, rfl⟩ := Int.eq_ofNat_of_zero_le h2
 have hx : z ^^^ y < 2 ^ 8 := Nat.xor_lt_two_pow (by omega) (by omega)
 rw [u8_xor_nat z y (by omega) (by omega), u8_xor_nat _ y (by omega) (by omega), Nat.xor_assoc, Nat.xor_self, Nat.xor_zero]
 omega
def bitsN (mk : List Bool) (N : Nat) : List Int := (List.range N).map fun i => ((bitsTo mk i 8 : Nat) : Int)
theorem bitsTo_congr (mk mk' : List Bool) (i c : Nat) (h : ∀ j, j < c → mk.getD (8 * i + j) false = mk'.getD (8 * i + j) false) : bitsTo mk i c = bitsTo mk' i c := by
 induction c with
 | zero => rfl
 | succ c ih => rw [bitsTo, bitsTo, ih (fun j hj => h j (by omega)), h c (by omega)]
theorem bitsTo_stop (mk : List Bool) (i c d : Nat) (h : ∀ j, c ≤ j → j < c + d → mk.getD (8 * i + j) false = false) : bitsTo mk i (c + d) = bitsTo mk i c := by
 induction d with
 | zero => rfl
 | succ d ih => rw [← Nat.add_assoc, bitsTo, ih (fun j h1 h2 => h j h1 (by omega)), h (c + d) (by omega) (by omega)]; simp
theorem bitsTo_stop8 (mk : List Bool) (i c : Nat) (hc : c ≤ 8) (h : ∀ j, c ≤ j → j < 8 → mk.getD (8 * i + j) false = false) : bitsTo mk i 8 = bitsTo mk i c := by
 have := bitsTo_stop mk i c (8 - c) (fun j h1 h2 => h j h1 (by omega))
 rwa [show c + (8 - c) = 8 by omega] at this
theorem getD_take (mk : List Bool) (k j : Nat) : (mk.take k).getD j false = if j < k then mk.getD j false else false := by
 simp only [List.getD_eq_getElem?_getD, List.getElem?_take]
 split <;> simp
theorem bitsN_step (mk : List Bool) (N k : Nat) (hk : k < mk.length) (hN : k / 8 < N) :
  bitsN (mk.take (k + 1)) N = if mk.getD k false then flipL (bitsN (mk.take k) N) k else bitsN (mk.take k) N := by
 have hone : ∀ i, i < N → i ≠ k / 8 → bitsTo (mk.take (k + 1)) i 8 = bitsTo (mk.take k) i 8 := by
  intro i _ hi
  apply bitsTo_congr
  intro j hj
  rw [getD_take, getD_take]
  by_cases h : 8 * i + j < k
  ·rw [if_pos h, if_pos (by omega)]
  ·rw [if_neg h]
   by_cases h2 : 8 * i + j = k
   ·exfalso; omega
   ·rw [if_neg (by omega)]
 have hlow : bitsTo (mk.take k) (k / 8) 8 = bitsTo mk (k / 8) (k % 8) := by
  rw [bitsTo_stop8 (mk.take k) (k / 8) (k % 8) (by omega) (fun j h1 h2 => by rw [getD_take, if_neg (by omega)])]
  apply bitsTo_congr
  intro j hj
  rw [getD_take, if_pos (by omega)]
 have hnew : bitsTo (mk.take (k + 1)) (k / 8) 8 = bitsTo mk (k / 8) (k % 8) + if mk.getD k false then 2 ^ (k % 8) else 0 := by
  rw [bitsTo_stop8 (mk.take (k + 1)) (k / 8) (k % 8 + 1) (by omega) (fun j h1 h2 => by rw [getD_take, if_neg (by omega)])]
  rw [bitsTo, show 8 * (k / 8) + k % 8 = k by omega, getD_take, if_pos (show k < k + 1 by omega)]
  congr 1
  apply bitsTo_congr
  intro j hj
  rw [getD_take, if_pos (by omega)]
 have hlt := bitsTo_lt mk (k / 8) (k % 8)
 have hp : (2 : Nat) ^ (k % 8) ≤ 2 ^ 7 := Nat.pow_le_pow_right (by decide) (by omega)
 have hget : (bitsN (mk.take k) N).getD (k / 8) 0 = ((bitsTo mk (k / 8) (k % 8) : Nat) : Int) := by
  rw [List.getD_eq_getElem?_getD, List.getElem?_eq_getElem (by simp [bitsN]; exact hN)]
  simp [bitsN, hlow]
 have hL : ∀ i h, (bitsN (mk.take (k + 1)) N)[i]'h = ((bitsTo (mk.take (k + 1)) i 8 : Nat) : Int) := by intro i h; simp [bitsN]
 have hR : ∀ i h, (bitsN (mk.take k) N)[i]'h = ((bitsTo (mk.take k) i 8 : Nat) : Int) := by intro i h; simp [bitsN]
 cases hm : mk.getD k false with
 | false =>
  rw [hm] at hnew
  simp only [Bool.false_eq_true, if_false, Nat.add_zero] at hnew ⊢
  apply List.ext_getElem
  ·simp [bitsN]
  ·intro i h1 h2
   have hiN : i < N := by simpa [bitsN] using h1
   rw [hL, hR]
   by_cases hi : i = k / 8
   ·subst hi
    rw [hnew, hlow]
   ·rw [hone i hiN hi]
 | true =>
  rw [hm] at hnew
  simp only [if_true] at hnew ⊢
  unfold flipL
  apply List.ext_getElem
  ·simp [bitsN]
  ·intro i h1 h2
   have hiN : i < N := by simpa [bitsN] using h1
   rw [hL, List.getElem_set]
   by_cases hi : k / 8 = i
   ·subst hi
    rw [if_pos rfl, hget, hnew]
    have e1 : ((2 : Int) ^ (k % 8) % 256) = ((2 ^ (k % 8) : Nat) : Int) := by
     rw [Int.emod_eq_of_lt (Int.le_of_lt (Int.pow_pos (by decide))) (by
      have : ((2 ^ (k % 8) : Nat) : Int) ≤ ((2 ^ 7 : Nat) : Int) := by exact_mod_cast hp
      rw [Int.natCast_pow] at this
      have e : ((2 ^ 7 : Nat) : Int) = 128 := by decide
      rw [e] at this
      exact Int.lt_of_le_of_lt this (by decide))]
     rw [Int.natCast_pow]
     rfl
    rw [e1, u8_xor_nat _ _ (by omega) (by omega)]
    congr 1
    have h4 := Nat.two_pow_add_eq_or_of_lt (i := k % 8) (b := bitsTo mk (k / 8) (k % 8)) hlt 1
    rw [Nat.mul_one] at h4
    rw [Nat.add_comm, h4]
    apply Nat.eq_of_testBit_eq
    intro j
    rw [Nat.testBit_xor, Nat.testBit_or, Nat.testBit_two_pow]
    by_cases hj : k % 8 = j
    ·subst hj
     rw [Nat.testBit_lt_two_pow hlt]; simp
    ·simp [hj]
   ·rw [if_neg hi, hR, hone i hiN (by omega)]
theorem bitsN_all (mk : List Bool) : bitsN mk ((mk.length + 7) / 8) = bitsOf mk := rfl
theorem bitsN_zero (N : Nat) : bitsN [] N = List.replicate N 0 := by
 apply List.ext_getElem
 ·simp [bitsN]
 ·intro i h1 h2
  simp [bitsN, bitsTo]
theorem markBytes_any (n : Nat) (w : World) (hn : n ≤ 140737488355000) : Calls Tryd.prog 61 #[.int .i64 (n : Int)] w fun e w' => e = .returned (.int .i64 (((n + 7) / 8 : Nat) : Int)) ∧ w' = w := by
 have hw : ((n : Int) + 7).tdiv 8 = (((n + 7) / 8 : Nat) : Int) := by
  rw [Int.tdiv_eq_ediv_of_nonneg (by omega)]; omega
 go_enter Tryd.func61, Tryd.ntmps61
 go_wp2
 go_ret
 exact ⟨by simp, rfl⟩
theorem made_row (w : World) (n : Nat) (hn : n ≤ 9223372036854775807) : Own (w.alloc (.cells (madeCells #[.int .u8 0] n) 5)) w.heap.size w.heap.size n n (List.replicate n 0) := by
 have hc : (madeCells #[.int .u8 0] n) = ((List.replicate n (0 : Int)).map (Value.int .u8)).toArray := by
  apply Array.ext'
  simp [madeCells]
  apply List.ext_getElem
  ·simp
  ·intro i h1 h2
   simp [Nat.mod_one]
 refine ⟨by simp, Or.inr ⟨w.heap.size, n, _, rfl, Nat.le_refl _, heap_alloc_new w _, Nat.le_refl _, by simp only [maxLen]; omega, by simp [madeCells], ?_⟩⟩
 rw [hc]
 simp
set_option maxHeartbeats 1000000 in
set_option maxRecDepth 100000 in
theorem bits_any (a : Option Addr) (n cap : Nat) (mk : List Bool) (w : World) (hn : n ≤ 1000000) (h : ReadsB w a n mk) :
  Calls Tryd.prog 33 #[.slice a n cap] w fun e w' => ∃ g, e = .returned (.slice (some ⟨g, 0, none⟩) ((n + 7) / 8) ((n + 7) / 8)) ∧ Own w' w.heap.size g ((n + 7) / 8) ((n + 7) / 8) (bitsOf mk) ∧ Below w.heap.size w w' := by
 obtain ⟨i0, hi, hz0, hz1, hz2⟩ := info_parts info5
 have hlen := h.1
 obtain ⟨N, hN⟩ : ∃ N, (n + 7) / 8 = N := ⟨_, rfl⟩
 have hNb : N ≤ 1000000 := by omega
 have hmk : ∀ u : World, (Instr.makeSlice 32 (.int .i64 (N : Int)) (.int .i64 (N : Int))).run Tryd.prog u =
   .ok (.slice (some ⟨u.heap.size, 0, none⟩) N N) (u.alloc (.cells (madeCells #[.int .u8 0] N) 5)) := fun u => by
  have h := run_make (P := Tryd.prog) u 32 5 i0 (.int .u8 0) Tryd.underlying32 hi hz0 .i64 .i64 (N : Int) (N : Int) (by omega) (by omega) (by rw [hz2]; omega) (by omega)
  simpa [hz1, Value.cells] using h
 have hm0 := made_row w N (by omega)
 have HN : Hid ((n + 7) / 8 = N) := hN
 rw [hN]
 have hb0 := below_alloc w (.cells (madeCells #[.int .u8 0] N) 5)
 clear hN
 go_enter Tryd.func33, Tryd.ntmps33
 go_wp2_with (go_at_call 61; refine (markBytes_any n _ (by omega)).mono ?_; rintro e u0 ⟨rfl, hu0⟩; rw [hu0, HN.out])
 go_loopw [12] (fun i wr => ∃ k : Nat, k ≤ n ∧ i = .int .i64 k ∧ Own wr w.heap.size w.heap.size N N (bitsN (mk.take k) N) ∧ Below w.heap.size w wr)
  (fun i _ => n - (intOf i).toNat)
 case atStart => exact ⟨0, Nat.zero_le _, rfl, by rw [List.take_zero, bitsN_zero]; exact hm0, hb0⟩
 case round =>
  obtain ⟨k, hk, rfl, hown, hbel⟩ := hrel
  by_cases hlt : k < n
  ·obtain ⟨b, off, rfl, hb, hcell⟩ := h.pos (by omega)
   have hk8 : k / 8 < N := by have := HN.out; omega
   have hst := bitsN_step mk N k (by omega) hk8
   have hcx : wr.cell? ⟨b, off + k, none⟩ = some (.bool (mk.getD k false)) := by
    rw [hbel.cell (show (⟨b, off + k, none⟩ : Addr).block < w.heap.size from hb)]; exact hcell k hlt
   have i1 : (k : Int) < (n : Int) := by omega
   cases hm : mk.getD k false with
   | true =>
    rw [hm] at hcx hst
    rw [if_pos rfl] at hst
    have HS : Hid _ := hst
    clear hst hcell hm
    go_wp2_with (go_at_call 51; refine (flip_ok w.heap.size w.heap.size N N N k (bitsN (mk.take k) N) _ (by omega) (by omega) (Nat.le_refl _) hown).mono ?_; rintro e u1 ⟨rfl, own1, grow1⟩; have HO1 : Hid _ := own1; have HG1 : Hid _ := grow1; clear own1 grow1)
    go_roundw
    case rel => exact ⟨k + 1, by omega, by go_num, by rw [HS.out]; exact HO1.out, hbel.grown HG1.out hbel.size (fun j hj => by cases hj; exact Nat.le_refl _)⟩
    case measure => simp [intOf]; omega
   | false =>
    rw [hm] at hcx hst
    rw [if_neg (by simp)] at hst
    have HS : Hid _ := hst
    clear hst hcell hm
    go_wp2
    go_roundw
    case rel => exact ⟨k + 1, by omega, by go_num, by rw [HS.out]; exact hown, hbel⟩
    case measure => simp [intOf]; omega
  ·have hkn : k = n := by omega
   subst hkn
   have HO : Hid (Own wr w.heap.size w.heap.size N N (bitsOf mk)) := by
    have := hown
    rw [List.take_of_length_le (by omega), ← HN.out, ← hlen, bitsN_all, hlen, HN.out] at this
    exact this
   clear hown
   go_wp2
   go_ret
   exact ⟨w.heap.size, rfl, HO.out, hbel⟩
end Go.Proofs.YtnmnhgagnfodhaaDoor
