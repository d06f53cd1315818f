/-
  SEAT YtnmnhgagnfodhaaDoor: Rp, Rj.
-/
import Derived.Test.YtnmnhgagnfodhaaDoorMa
import Derived.Test.YtnmnhgagnfodhaaDoorMbg
import Derived.Lib.SlBuf
import Derived.Lib.MakeNoZero
import Derived.Lib.Mul64
import Derived.Laws.Bits64b
namespace Go.Proofs.YtnmnhgagnfodhaaDoor
open Go.RowKit
set_option linter.unusedVariables false
set_option maxHeartbeats 1000000 in
theorem mul64_one (y : Nat) (hy : y ≤ 65535) (w : World) : Calls Tryd.prog 91 #[.int .u64 1, .int .u64 (y : Int)] w fun e w' => e = .returned (.tuple #[.int .u64 0, .int .u64 (y : Int)]) ∧ w' = w := by
 have e1 : bits .and .u64 1 4294967295 = 1 := by decide
 have e2 : bits .and .u64 (y : Int) 4294967295 = (y : Int) := by
  have h := bits_and_u64_nat y 4294967295 (by omega) (by omega)
  have e : y &&& 4294967295 = y % 4294967296 := Nat.and_two_pow_sub_one_eq_mod y 32
  rw [e, Nat.mod_eq_of_lt (by omega)] at h
  exact h
 have e3 : (y : Int) / 4294967296 = 0 := by omega
 have e4 : bits .and .u64 0 4294967295 = 0 := by decide
 go_enter Tryd.func91, Tryd.ntmps91
 go_wp2
 go_ret2
 simp
theorem mul_one (y : Nat) (hy : y ≤ 65535) (w : World) : Calls Tryd.prog 85 #[.int .u64 1, .int .u64 (y : Int)] w fun e w' => e = .returned (.tuple #[.int .u64 0, .int .u64 (y : Int)]) ∧ w' = w := by
 go_enter Tryd.func85, Tryd.ntmps85
 go_wp2_with (go_at_call 91; refine (mul64_one y hy _).mono ?_; rintro e u ⟨rfl, hu⟩; rw [hu])
 go_ret2
 exact ⟨rfl, rfl⟩
theorem size5 : (Tryd.prog.info? 5).map (·.size) = some 1 := by kernel_rfl
def Ty5 (w : World) (g : Nat) : Prop := ∃ cs f, w.heap[g]? = some (.cells cs 5 f)
theorem Ty5.setCells {g : Nat} : ∀ (vs : List Value) (o : Nat) {w : World}, Ty5 w g → Ty5 (w.setCells g o vs) g
 | [], _, _, h => h
 | v :: r, o, w, ⟨cs, f, h⟩ => Ty5.setCells r (o + 1) (w := w.setCell ⟨g, o, none⟩ v) ⟨_, f, Joins.block_setCell h v⟩
theorem copy_ones (w0 wr : World) (h N k m cap : Nat) (a : Addr) (ty : TypeId) (hb : Lib.Buf w0 wr h N (List.replicate k 255)) (hsrc : ∀ j, j < m → wr.cell? (a.add j) = some (.int .u8 255)) (hkN : k < N) :
  ∃ wr', (Builtin.copy_ #[32, 32] ty #[.slice (some ⟨h, k, none⟩) (N - k) (N - k), .slice (some a) m cap]).run Tryd.prog wr = .ok (.int .i64 ((min m (N - k) : Nat) : Int)) wr' ∧ Lib.Buf w0 wr' h N (List.replicate (k + min m (N - k)) 255) ∧ (Ty5 wr h → Ty5 wr' h) := by
 obtain ⟨c, hc⟩ : ∃ c, min m (N - k) = c := ⟨_, rfl⟩
 have hck : c ≤ m ∧ k + c ≤ N := by omega
 rw [hc]
 have hr := run_copy_cells (P := Tryd.prog) wr 32 32 ty 5 h k (N - k) (N - k) a m cap (List.replicate c (Value.int .u8 255)) Tryd.underlying32 size5 (by rw [List.length_replicate]; exact hc.symm)
  (fun j u hj => by
   rw [List.getElem?_replicate] at hj
   split at hj
   ·cases hj
    exact hsrc j (by omega)
   ·cases hj)
  (fun j hj => by rw [List.length_replicate] at hj; exact hb.there _ (by omega)) (fun j hj => by rw [List.length_replicate] at hj; exact hb.free _ (by omega))
  (fun u hu => by rw [List.eq_of_mem_replicate hu]; rfl)
 rw [List.length_replicate] at hr
 refine ⟨_, hr, ?_, fun t => t.setCells _ _⟩
 have hin := World.cell?_setCells_in h (List.replicate c (Value.int .u8 255)) k wr (fun j hj => by rw [List.length_replicate] at hj; exact hb.there _ (by omega))
 have hout := World.cell?_setCells_out h (List.replicate c (Value.int .u8 255)) k wr
 refine ⟨Lib.below_setCells h (Nat.le_refl _) _ _ hb.below, ?_, ?_, ?_, by rw [List.length_replicate]; omega⟩
 ·intro j hj
  by_cases h1 : k ≤ j ∧ j < k + c
  ·obtain ⟨d, rfl⟩ : ∃ d, j = k + d := ⟨j - k, by omega⟩
   rw [hin d (by rw [List.length_replicate]; omega)]
   rfl
  ·rw [hout ⟨h, j, none⟩ (fun _ _ => by rw [List.length_replicate]; show j < _ ∨ _ ≤ j; omega)]
   exact hb.there j hj
 ·intro j hj
  rw [World.frozen?_setCells]
  exact hb.free j hj
 ·intro j x hx
  rw [List.getElem?_replicate] at hx
  split at hx
  ·rename_i hj
   cases hx
   by_cases h1 : j < k
   ·rw [hout ⟨h, j, none⟩ (fun _ _ => Or.inl h1)]
    exact hb.holds j 255 (by rw [List.getElem?_replicate, if_pos h1])
   ·obtain ⟨d, rfl⟩ : ∃ d, j = k + d := ⟨j - k, by omega⟩
    rw [hin d (by rw [List.length_replicate]; omega)]
    simp
  ·cases hx
theorem copy_self (w0 wr : World) (h N k : Nat) (ty : TypeId) (hb : Lib.Buf w0 wr h N (List.replicate k 255)) (hk : 0 < k) (hkN : k < N) :
  ∃ wr', (Builtin.copy_ #[32, 32] ty #[.slice (some ⟨h, k, none⟩) (N - k) (N - k), .slice (some ⟨h, 0, none⟩) k N]).run Tryd.prog wr = .ok (.int .i64 ((min k (N - k) : Nat) : Int)) wr' ∧ Lib.Buf w0 wr' h N (List.replicate (k + min k (N - k)) 255) ∧ (Ty5 wr h → Ty5 wr' h) :=
 copy_ones w0 wr h N k k N ⟨h, 0, none⟩ ty hb (fun j hj => by
  rw [plain_add, Nat.zero_add]
  exact hb.holds j 255 (by rw [List.getElem?_replicate, if_pos (by omega)])) hkN
theorem buf_reads {w0 wr : World} {h N : Nat} (hb : Lib.Buf w0 wr h N (List.replicate N 255)) : Reads wr (some ⟨h, 0, none⟩) N (List.replicate N 255) := by
 refine ⟨by simp, fun n hn => by rw [List.eq_of_mem_replicate hn]; omega, fun e => (by cases e), fun x hx i hi => ?_⟩
 cases hx
 rw [plain_add, Nat.zero_add, hb.holds i 255 (by rw [List.getElem?_replicate, if_pos hi])]
 simp [List.getD_eq_getElem?_getD, hi]
def OnesAt (w w' : World) (e : Ending) (n : Nat) : Prop := ∃ g, e = .returned (.slice (some ⟨g, 0, none⟩) n n) ∧ Reads w' (some ⟨g, 0, none⟩) n (List.replicate n 255) ∧ w.heap.size ≤ g ∧ g < w'.heap.size ∧ Ty5 w' g ∧ Below w.heap.size w w'
set_option maxHeartbeats 1000000 in
theorem repeat_zero (a : Option Addr) (c : Nat) (w : World) : Calls Tryd.prog 70 #[.slice a 1 c, .int .i64 0] w fun e w' => OnesAt w w' e 0 := by
 go_enter Tryd.func70, Tryd.ntmps70
 go_wp2
 go_ret
 exact ⟨_, rfl, ⟨by simp, by simp, by simp, fun x hx i hi => by omega⟩, Nat.le_refl _, by simp, ⟨_, _, heap_alloc_new _ _⟩, below_alloc _ _⟩
theorem buf_one (w0 wr : World) (h N bk off cap : Nat) (ty : TypeId) (hb : Lib.Buf w0 wr h N []) (hh : w0.heap.size ≤ h) (hN : 1 ≤ N) (hc : w0.cell? ⟨bk, off, none⟩ = some (.int .u8 255)) :
  ∃ wr', (Builtin.copy_ #[32, 32] ty #[.slice (some ⟨h, 0, none⟩) N N, .slice (some ⟨bk, off, none⟩) 1 cap]).run Tryd.prog wr = .ok (.int .i64 1) wr' ∧ Lib.Buf w0 wr' h N (List.replicate 1 255) ∧ (Ty5 wr h → Ty5 wr' h) := by
 have h1 := copy_ones w0 wr h N 0 1 cap ⟨bk, off, none⟩ ty hb (fun j hj => by
  obtain rfl : j = 0 := by omega
  exact Lib.Below.cellOf hb.below hc hh) hN
 rw [show min 1 (N - 0) = 1 by omega] at h1
 exact h1
set_option maxHeartbeats 2000000 in
set_option maxRecDepth 100000 in
theorem repeat_some (bk off c n : Nat) (w : World) (hw : w.cell? ⟨bk, off, none⟩ = some (.int .u8 255)) (h0 : 0 < n) (hn : n ≤ 4096) : Calls Tryd.prog 70 #[.slice (some ⟨bk, off, none⟩) 1 c, .int .i64 (n : Int)] w fun e w' => OnesAt w w' e n := by
 have HC : Hid (w.cell? ⟨bk, off, none⟩ = some (.int .u8 255)) := hw
 clear hw
 obtain ⟨cs, hrunM, hle, _⟩ := Lib.run_makeNoZero (P := Tryd.prog) (w := w) #[3] 32 5 Tryd.underlying32 n (by omega)
 have hcall : (callFunc 86 #[.int .i64 (n : Int)]).run Tryd.prog w = .ok (.value (.slice (some ⟨w.heap.size, 0, none⟩) n cs.size)) ((w.alloc (.cells cs 5)).drewN 2) := by
  rw [run_callFunc_extern Tryd.func86 (by kernel_rfl) (by kernel_rfl) (by kernel_rfl) (e := Extern.BytealgMakeNoZero.makeNoZero #[3] #[32]) (by kernel_rfl), hrunM]
  rfl
 clear hrunM
 have i1 : (n : Int) ≤ (cs.size : Int) := by omega
 have B0 := Lib.Buf.start w cs 5 n 2 hle
 obtain ⟨w1, hr1, B1, ty1⟩ := buf_one w _ w.heap.size n bk off c 3 B0 (Nat.le_refl _) h0 HC.out
 have HB1 : Hid (Lib.Buf w w1 w.heap.size n (List.replicate 1 255)) := B1
 have TY1 : Hid (Ty5 w1 w.heap.size) := ty1 ⟨_, _, heap_alloc_new w _⟩
 clear B0 B1 ty1
 have e0 : ((n : Int) == 0) = false := by rw [beq_eq_false_iff_ne]; omega
 go_enter Tryd.func70, Tryd.ntmps70
 go_wp2_with (first
  | (go_at_call 85; refine (mul_one n (by omega) _).mono ?_; rintro e u ⟨rfl, hu⟩; rw [hu])
  | (at_builtin; refine Lib.wpList_copy_run _ rfl _ _ 32 32 rfl _ _ rfl rfl hr1 ?_))
 go_loopg [10] n (fun g s10 wr => ∃ k : Nat, 0 < k ∧ k ≤ n ∧ n - k ≤ g ∧ s10 = .int .i64 (k : Int) ∧ Hid (Lib.Buf w wr w.heap.size n (List.replicate k 255)) ∧ Hid (Ty5 wr w.heap.size))
 case atStart => exact ⟨1, by omega, by omega, by omega, rfl, HB1, TY1⟩
 case round =>
  obtain ⟨k, hk0, hkn, hg, rfl, HB, TY⟩ := hrel
  by_cases hkl : k < n
  ·have d0 : (k : Int) < (n : Int) := by omega
   have d1 : (k : Int) ≤ (n : Int) := by omega
   have d2 : ¬ n = k := by omega
   have d3 : ¬ k = n := by omega
   have d4 : ¬ n - k = 0 := by omega
   have d5 : min (k : Int) (n : Int) = (k : Int) := by omega
   have d6 : ¬ (n : Int) < (k : Int) := by omega
   obtain ⟨w2, hr2, B2, ty2⟩ := copy_self w wr.drew w.heap.size n k 3 (⟨⟨HB.out.below.os, HB.out.below.tape, HB.out.below.output, HB.out.below.size, HB.out.below.block⟩, HB.out.there, HB.out.free, HB.out.holds, HB.out.fits⟩) hk0 hkl
   obtain ⟨m, hm⟩ : ∃ m, min k (n - k) = m := ⟨_, rfl⟩
   rw [hm] at hr2 B2
   have hm1 : 1 ≤ m ∧ k + m ≤ n := by omega
   have HB2 : Hid (Lib.Buf w w2 w.heap.size n (List.replicate (k + m) 255)) := B2
   have HR2 : Hid _ := hr2
   have TY2 : Hid (Ty5 w2 w.heap.size) := ty2 TY.out
   clear ty2 B2 hr1 hcall hr2 hm
   go_upto_region 20 with fail
   refine wp_region_held_drew (S := (fun _ : World => True)) (by kernel_rfl) (trivial) (fun hHeld => ?_)
   refine tk 0 ?_
   refine tk 1 ?_
   refine tk 2 ?_
   refine tk 3 ?_
   refine tk 4 ?_
   refine tk 5 ?_
   refine tk 6 ?_
   refine rd 7 (fun K hK => ?_)
   refine Lib.wp_copy_run _ _ _ 32 32 rfl _ _ rfl rfl HR2.out ?_
   have hSnew : True := trivial
   clear hHeld
   refine hK.out _ _ hSnew (fun hHeld => ?_)
   clear hK K hSnew
   try simp only [Act.put, zSt, zS0, zS1]
   refine tk 8 ?_
   refine tk 9 ?_
   refine wpAnyH_done (by kernel_rfl) ?_ _
   go_wp2
   go_roundg (n - (k + m))
   case measure => omega
   case rel => exact ⟨k + m, by omega, by omega, Nat.le_refl _, (by clear d5; congr 1; rw [IntKind.wrap_i64]; omega), HB2, TY2⟩
  ·obtain rfl : k = n := by omega
   go_wp2
   go_ret
   have hb := HB.out
   exact ⟨_, rfl, buf_reads hb, Nat.le_refl _, block_lt_of_cell (by have := hb.holds 0 255 (by rw [List.getElem?_replicate, if_pos h0]); exact this), TY.out, hb.below⟩
end Go.Proofs.YtnmnhgagnfodhaaDoor
namespace Go.Proofs.YtnmnhgagnfodhaaDoor
open Go.RowKit
set_option linter.unusedVariables false
def catF (X : Nat → List Int) : Nat → List Int
 | 0 => []
 | k + 1 => catF X k ++ X k
def sumF (ls : Nat → Nat) : Nat → Nat
 | 0 => 0
 | k + 1 => sumF ls k + ls k
theorem sumF_le (ls : Nat → Nat) {k m : Nat} (h : k ≤ m) : sumF ls k ≤ sumF ls m := by
 induction m with
 | zero => have : k = 0 := by omega
           subst this; exact Nat.le_refl _
 | succ m ih =>
  by_cases e : k = m + 1
  ·subst e; exact Nat.le_refl _
  ·have := ih (by omega)
   simp only [sumF]
   omega
structure Parts (w : World) (ga : Option Addr) (m : Nat) (av : Nat → Option Addr) (ls cs : Nat → Nat) (X : Nat → List Int) : Prop where
 outer : ∀ i, i < m → ∃ g, ga = some ⟨g, 0, none⟩ ∧ g < w.heap.size ∧ w.cell? ⟨g, i, none⟩ = some (.slice (av i) (ls i) (cs i))
 reads : ∀ i, i < m → Reads w (av i) (ls i) (X i)
theorem catF_length (X : Nat → List Int) (ls : Nat → Nat) (m : Nat) (h : ∀ i, i < m → (X i).length = ls i) : (catF X m).length = sumF ls m := by
 induction m with
 | zero => rfl
 | succ m ih => simp only [catF, sumF, List.length_append, ih (fun i hi => h i (by omega)), h m (by omega)]
set_option maxHeartbeats 400000 in
theorem join_parts (ga : Option Addr) (m cm : Nat) (av : Nat → Option Addr) (ls cs : Nat → Nat) (X : Nat → List Int) (w : World) (hm : m ≤ 70000) (hT : sumF ls m ≤ 200000000) (h : Parts w ga m av ls cs X) :
  Calls Tryd.prog 42 #[.slice ga m cm] w fun e w' => ∃ v, e = .returned v ∧ w'.ownsRow w.heap.size 5 1 v (sumF ls m) ((catF X m).map (Value.int .u8)) ∧ Below w.heap.size w w' := by
 obtain ⟨i0, hi, hz0, hz1, hz2⟩ := info_parts info5
 have HP : Hid (Parts w ga m av ls cs X) := h
 obtain ⟨T, hTT⟩ : ∃ T, T = sumF ls m := ⟨_, rfl⟩
 rw [← hTT]
 have HS : Hid (∀ k, k ≤ m → sumF ls k ≤ T) := fun k hk => by rw [hTT]; exact sumF_le ls hk
 have hT' : T ≤ 200000000 := by rw [hTT]; exact hT
 have HTT : Hid (T = sumF ls m) := hTT
 have hmk : ∀ u : World, (Instr.makeSlice 32 (.int .i64 0) (.int .i64 (T : Int))).run Tryd.prog u =
   .ok (.slice (some ⟨u.heap.size, 0, none⟩) 0 T) (u.alloc (.cells (madeCells #[.int .u8 0] T) 5)) := fun u => by
  have h := run_make (P := Tryd.prog) u 32 5 i0 (.int .u8 0) Tryd.underlying32 hi hz0 .i64 .i64 0 (T : Int) (by omega) (by omega) (by rw [hz2]; omega) (by omega)
  simpa [hz1, Value.cells] using h
 clear h hTT hT
 go_enter Tryd.func42, Tryd.ntmps42
 go_wp2
 go_loopw [3, 11] (fun n i wr => ∃ k s : Nat, k ≤ m ∧ i = .int .i64 k ∧ n = .int .i64 s ∧ Hid (s = sumF ls k) ∧ w = wr)
  (fun _ i _ => m - (intOf i).toNat)
 case atStart => exact ⟨0, 0, Nat.zero_le _, rfl, rfl, rfl, rfl⟩
 case round =>
  obtain ⟨k, s, hk, rfl, rfl, HK, rfl⟩ := hrel
  by_cases hlt : k < m
  ·obtain ⟨g, rfl, hgl, hc⟩ := HP.out.outer k hlt
   obtain ⟨a, ha⟩ : ∃ a, a = av k := ⟨_, rfl⟩
   obtain ⟨l, hl⟩ : ∃ l, l = ls k := ⟨_, rfl⟩
   obtain ⟨c, hc'⟩ : ∃ c, c = cs k := ⟨_, rfl⟩
   rw [← ha, ← hl, ← hc'] at hc
   have hsl : s + l ≤ T := by
    have := HS.out (k + 1) (by omega)
    rw [sumF, ← hl, ← HK.out] at this
    exact this
   have HK2 : Hid (s + l = sumF ls (k + 1)) := by unfold Hid; rw [sumF, ← hl, ← HK.out]
   have m1 : (k : Int) < (m : Int) := by omega
   have hd1 : decide ((k : Int) < (m : Int)) = true := decide_eq_true m1
   clear ha hl hc' HK
   go_wp2
   go_roundw
   case rel => exact ⟨k + 1, s + l, by omega, by go_num, by simp, HK2, by first | rfl | trivial⟩
   case measure => simp [intOf]; omega
  ·have hkm : k = m := by omega
   subst hkm
   obtain rfl : s = T := by rw [HK.out, HTT.out]
   go_wp2
   go_loopw [6, 24] (fun v i wr => ∃ j : Nat, j ≤ k ∧ i = .int .i64 j ∧ wr.ownsRow w.heap.size 5 1 v (sumF ls j) ((catF X j).map (Value.int .u8)) ∧ Below w.heap.size w wr)
    (fun _ i _ => k - (intOf i).toNat)
   case atStart => exact ⟨0, Nat.zero_le _, rfl, by simpa [catF, sumF] using World.ownsRow_made w (madeCells #[.int .u8 0] s) s (Nat.le_refl _) (by simp [maxLen]; omega) (by simp [madeCells]), (Below.refl w.heap.size w).alloc (Nat.le_refl _) _⟩
   case round =>
    obtain ⟨j, hj, rfl, hown, hbel⟩ := hrel
    by_cases hlt2 : j < k
    ·obtain ⟨g, rfl, hgl, hc⟩ := HP.out.outer j hlt2
     have hrd := (HP.out.reads j hlt2).below hbel
     have hcx := (hbel.cell (p := ⟨g, j, none⟩) hgl).trans hc
     obtain ⟨a, ha⟩ : ∃ a, a = av j := ⟨_, rfl⟩
     obtain ⟨l, hl⟩ : ∃ l, l = ls j := ⟨_, rfl⟩
     obtain ⟨c, hc'⟩ : ∃ c, c = cs j := ⟨_, rfl⟩
     obtain ⟨n, hn⟩ : ∃ n, n = sumF ls j := ⟨_, rfl⟩
     rw [← ha, ← hl, ← hc'] at hcx
     rw [← ha, ← hl] at hrd
     rw [← hn] at hown
     have hnl : n + l ≤ s := by
      have := HS.out (j + 1) (by omega)
      rw [sumF, ← hl, ← hn] at this
      exact this
     have HN : Hid (n + l = sumF ls (j + 1)) := by unfold Hid; rw [sumF, ← hl, ← hn]
     have m1 : (j : Int) < (k : Int) := by omega
     have hd1 : decide ((j : Int) < (k : Int)) = true := decide_eq_true m1
     have hsz := hbel.size
     clear ha hl hc' hc hn
     go_wp2_with (
      (at_builtin; refine wpList_append_reads rfl (.tmp 28) (.tmp 29) rfl w.heap.size _ n (catF X j) rfl hown _ _ _ (X j) rfl hrd (by omega) hsz ?_; intro v2 w2 hown2 hgrow2))
     have hown3 : w2.ownsRow w.heap.size 5 1 v2 (sumF ls (j + 1)) ((catF X (j + 1)).map (Value.int .u8)) := by
      rw [← HN.out]
      exact hown2
     have hbel3 := hbel.grown hgrow2 hbel.size (fun q hq => (hown.lt q hq).1)
     clear hown2 hgrow2 hown hrd
     go_wp2
     go_roundw
     case rel => exact ⟨j + 1, by omega, by go_num, hown3, hbel3⟩
     case measure => simp [intOf]; omega
    ·have hjk : k = j := by omega
     subst hjk
     rw [← HTT.out] at hown
     go_wp2
     go_ret
     exact ⟨_, rfl, hown, hbel⟩
end Go.Proofs.YtnmnhgagnfodhaaDoor
