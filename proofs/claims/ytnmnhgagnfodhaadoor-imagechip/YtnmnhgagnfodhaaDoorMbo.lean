/-
  SEAT YtnmnhgagnfodhaaDoor: Di.
-/
import Derived.Test.YtnmnhgagnfodhaaDoorMa
import Derived.Test.YtnmnhgagnfodhaaDoorMbf
import Derived.Test.YtnmnhgagnfodhaaDoorMbn
import Derived.Test.YtnmnhgagnfodhaaDoorMx
import Derived.RangeFuncBox
namespace Go.Proofs.YtnmnhgagnfodhaaDoor
open Go.RowKit Go.Shelf
set_option linter.unusedVariables false
def dfN (xs ys : List Int) (ms ns : List Bool) (L p k : Nat) : List Pl :=
 (if k % p = 0 ∧ ms.getD (k / p) false ≠ ns.getD (k / p) false then [⟨((k / p : Nat) : Int), -1⟩] else []) ++ (if pgK xs L k = pgK ys L k then [] else [⟨((k / p : Nat) : Int), ((k % p : Nat) : Int)⟩])
def dfL (xs ys : List Int) (ms ns : List Bool) (L p N : Nat) : List Pl := (List.range N).flatMap (dfN xs ys ms ns L p)
theorem dfN_len (xs ys : List Int) (ms ns : List Bool) (L p k : Nat) : (dfN xs ys ms ns L p k).length ≤ 2 := by
 unfold dfN
 rw [List.length_append]
 split <;> split <;> simp
theorem df_len {N : Nat} (xs ys : List Int) (ms ns : List Bool) (L p : Nat) : ∀ pre : List (Fin N), (pre.flatMap fun k => dfN xs ys ms ns L p k.val).length ≤ 2 * pre.length
 | [] => by simp
 | x :: r => by
  have h1 := df_len xs ys ms ns L p r
  have h2 := dfN_len xs ys ms ns L p x.val
  rw [List.flatMap_cons, List.length_append, List.length_cons]
  omega
theorem df_all {N : Nat} (xs ys : List Int) (ms ns : List Bool) (L p : Nat) : (List.finRange N).flatMap (fun k => dfN xs ys ms ns L p k.val) = dfL xs ys ms ns L p N := by
 unfold dfL
 rw [List.flatMap_def, List.flatMap_def]
 congr 1
 apply List.ext_getElem
 ·simp
 ·intro i h1 h2
  simp
structure Dfd (w W : World) (q8 : Nat) (b p s bk off n c : Nat) (a' : Option Addr) (m c' : Nat) (bk2 off2 c2 : Nat) (a2' : Option Addr) (c2' : Nat) (D : List Pl) : Prop where
 row : ∃ v, W.heap[q8]? = some (.cells #[v] 40 (0, 0)) ∧ W.ownsRow w.heap.size 45 2 v D.length (flatP D)
 b1 : W.heap[w.heap.size]? = some (.cells #[.int .i64 (b : Int), .int .i64 (p : Int), .int .i64 (s : Int), .slice (some ⟨bk, off, none⟩) n c, .slice a' m c'] 35 (0, 0))
 b2 : W.heap[w.heap.size + 1]? = some (.cells #[.int .i64 (b : Int), .int .i64 (p : Int), .int .i64 (s : Int), .slice (some ⟨bk2, off2, none⟩) n c2, .slice a2' m c2'] 35 (0, 0))
 b3 : W.heap[q8 + 1]? = some (.cells #[.int .i64 (b : Int), .int .i64 (p : Int), .int .i64 (s : Int), .slice (some ⟨bk, off, none⟩) n c, .slice a' m c'] 35 (0, 0))
 bel : Below w.heap.size w W
 low : w.heap.size + 2 ≤ q8
theorem dfd_own {β : Type} (w : World) (q8 : Nat) (b p s bk off n c : Nat) (a' : Option Addr) (m c' : Nat) (bk2 off2 c2 : Nat) (a2' : Option Addr) (c2' : Nat) (D : β → List Pl) {q : Nat} (hn : w.heap.size ≤ q) : OwnFrom q (fun s0 W => Dfd w W q8 b p s bk off n c a' m c' bk2 off2 c2 a2' c2' (D s0)) := fun s0 W W' row hs hg hr => by
 obtain ⟨v, h1, h2⟩ := hs.row
 have hb : ∀ (i : Nat) (cs : Array Value) (t : TypeId), W.heap[i]? = some (.cells cs t (0, 0)) → W'.heap[i]? = some (.cells cs t (0, 0)) := fun i cs t h => blk_own (β := Unit) _ _ _ _ () W W' row h hg (fun r e => (hr r e).2)
 refine ⟨⟨v, hb _ _ _ h1, ?_⟩, hb _ _ _ hs.b1, hb _ _ _ hs.b2, hb _ _ _ hs.b3, (ownFrom_below (β := Unit) (B := q) (Nat.le_refl _) hn) () W W' row hs.bel hg hr, hs.low⟩
 refine h2.kept hg ?_
 cases hv : v.ownBlock with
 | none => exact Or.inl rfl
 | some g =>
  refine Or.inr (fun e => ?_)
  obtain ⟨_, o, ho, hc⟩ := hr g e.symm
  rcases h2.2 with ⟨rfl, _⟩ | ⟨g', cap, cur, rfl, _, hg', _⟩
  ·cases hv
  ·injection hv with hv
   change g' = g at hv
   subst hv
   rw [hg'] at ho
   cases ho
   cases hc
theorem lt_of_b {w : World} {i : Nat} {o : Obj} (h : w.heap[i]? = some o) : i < w.heap.size := (Array.getElem?_eq_some_iff.1 h).1
theorem below_drewN' (W : World) (o : Obj) : Below W.heap.size W (W.alloc o).drew.drew := ⟨rfl, rfl, rfl, by simp, fun i hi => Below.heap_alloc W o i hi⟩
theorem cell_two_new (W : World) (a b : Value) (t : TypeId) : ∀ (j : Nat) (u : Value), [a, b][j]? = some u → (W.alloc (.cells #[a, b] t)).cell? ((⟨W.heap.size, 0, none⟩ : Addr).add j) = some u := by
 intro j u hj
 match j, hj with
 | 0, hj =>
  simp at hj
  subst hj
  simp [Addr.add]
 | 1, hj =>
  simp at hj
  subst hj
  simp [Addr.add]
theorem Dfd.below {w W X : World} {q8 b p s bk off n c : Nat} {a' : Option Addr} {m c' bk2 off2 c2 : Nat} {a2' : Option Addr} {c2' : Nat} {D : List Pl} (hs : Dfd w W q8 b p s bk off n c a' m c' bk2 off2 c2 a2' c2' D) (hb : Below W.heap.size W X) : Dfd w X q8 b p s bk off n c a' m c' bk2 off2 c2 a2' c2' D := by
 obtain ⟨v, h1, h2⟩ := hs.row
 refine ⟨⟨v, (hb.block _ (lt_of_b h1)).trans h1, h2.1, h2.2.imp id (fun ⟨g, cap, cur, r1, r2, r3, r4⟩ => ⟨g, cap, cur, r1, r2, (hb.block _ (lt_of_b r3)).trans r3, r4⟩)⟩, (hb.block _ (lt_of_b hs.b1)).trans hs.b1, (hb.block _ (lt_of_b hs.b2)).trans hs.b2, (hb.block _ (lt_of_b hs.b3)).trans hs.b3, below_trans hs.bel hb, hs.low⟩
theorem ownsRow_below {W X : World} {B n : Nat} {v : Value} {xs : List Value} (h : W.ownsRow B 45 2 v n xs) (hb : Below W.heap.size W X) : X.ownsRow B 45 2 v n xs := ⟨h.1, h.2.imp id (fun ⟨g, cap, cur, r1, r2, r3, r4⟩ => ⟨g, cap, cur, r1, r2, (hb.block _ (lt_of_b r3)).trans r3, r4⟩)⟩
theorem keeps_below {W X : World} (hb : Below W.heap.size W X) (B : Nat) : KeepsFrom B W X := ⟨hb.size, fun k o _ hk _ => (hb.block k (lt_of_b hk)).trans hk⟩
theorem flatP_snoc (xs : List Pl) (x : Pl) : flatP (xs ++ [x]) = flatP xs ++ [.int .i64 x.x, .int .i64 x.y] := by simp [flatP, Pl.cells]
theorem Dfd.app {w W w1 : World} {q8 b p s bk off n c : Nat} {a' : Option Addr} {m c' bk2 off2 c2 : Nat} {a2' : Option Addr} {c2' : Nat} {D : List Pl} (hs : Dfd w W q8 b p s bk off n c a' m c' bk2 off2 c2 a2' c2' D) {v v' : Value} (hv : Boxed W q8 40 v) (hrow : W.ownsRow w.heap.size 45 2 v D.length (flatP D)) {tmp : Obj} (pl : Pl) (hown' : w1.ownsRow w.heap.size 45 2 v' (D.length + 1) (flatP D ++ [.int .i64 pl.x, .int .i64 pl.y])) (hgrow : (W.alloc tmp).grownBy w1 v.ownBlock) :
  Dfd w (w1.setCell ⟨q8, 0, none⟩ v') q8 b p s bk off n c a' m c' bk2 off2 c2 a2' c2' (D ++ [pl]) ∧ KeepsOthers W (w1.setCell ⟨q8, 0, none⟩ v') ∧ (∀ i, i < W.heap.size → v.ownBlock ≠ some i → i ≠ q8 → (w1.setCell ⟨q8, 0, none⟩ v').heap[i]? = W.heap[i]?) ∧ Below w.heap.size W (w1.setCell ⟨q8, 0, none⟩ v') ∧ W.heap.size ≤ (w1.setCell ⟨q8, 0, none⟩ v').heap.size := by
 obtain ⟨k1, k2, k3, k4, k5⟩ := hv.appended (by decide) hrow hs.bel.size (by have := hs.low; omega) hown' hgrow
 have keep : ∀ i, i < W.heap.size → v.ownBlock ≠ some i → i ≠ q8 → (w1.setCell ⟨q8, 0, none⟩ v').heap[i]? = W.heap[i]? := fun i hi h1 h2 => by
  rw [(grownBy_setCell' w1 q8 v').block i (Nat.lt_of_lt_of_le (show i < (W.alloc tmp).heap.size by simp; omega) hgrow.size) (fun e => h2 (by injection e)), hgrow.block i (by simp; omega) (fun e => h1 e.symm)]
  exact Below.heap_alloc _ _ _ hi
 have kb : ∀ (i : Nat) (cs : Array Value), W.heap[i]? = some (.cells cs 35 (0, 0)) → (w1.setCell ⟨q8, 0, none⟩ v').heap[i]? = some (.cells cs 35 (0, 0)) := fun i cs h => by
  refine (keep i (lt_of_b h) (fun e => ?_) (fun e => ?_)).trans h
  ·rcases hrow.2 with ⟨rfl, _⟩ | ⟨g, cap, cur, rfl, _, hg', _⟩
   ·cases e
   ·injection e with e
    change g = i at e
    subst e
    rw [hg'] at h
    cases h
  ·have h9 : W.heap[q8]? = some (.cells #[v] 40 (0, 0)) := hv
   rw [← e, h] at h9
   cases h9
 refine ⟨⟨⟨v', k2, ?_⟩, kb _ _ hs.b1, kb _ _ hs.b2, kb _ _ hs.b3, hs.bel.trans k5, hs.low⟩, k4, keep, k5, ?_⟩
 ·rw [flatP_snoc, List.length_append]
  exact k3
 ·have := hgrow.size
  simp at this ⊢
  omega
attribute [local go_sem] Oper.semAt_some
set_option maxHeartbeats 8000000 in
set_option maxRecDepth 100000 in
theorem diff_ok (b p s bk off n c : Nat) (a' : Option Addr) (m c' : Nat) (bk2 off2 c2 : Nat) (a2' : Option Addr) (c2' : Nat) (xs ys : List Int) (ms ns : List Bool) (N L : Nat) (w : World) (hf : Fits (b : Int) (p : Int) (s : Int) = true) (hE : chkE (b : Int) (p : Int) (s : Int) n m = 0) (hN : b * p = N) (hL : 256 * s + (54 + 3 * s) = L) (hn : n = N * L) (hm : m = b) (hx : Reads w (some ⟨bk, off, none⟩) n xs) (hy : Reads w (some ⟨bk2, off2, none⟩) n ys) (hms : ReadsB w a' m ms) (hns : ReadsB w a2' m ns) (hnc : n ≤ c) (hc : c ≤ 9223372036854775807) (hnc2 : n ≤ c2) (hc2 : c2 ≤ 9223372036854775807) :
  Calls Tryd.prog 9 #[.agg #[.int .i64 (b : Int), .int .i64 (p : Int), .int .i64 (s : Int), .slice (some ⟨bk, off, none⟩) n c, .slice a' m c'], .agg #[.int .i64 (b : Int), .int .i64 (p : Int), .int .i64 (s : Int), .slice (some ⟨bk2, off2, none⟩) n c2, .slice a2' m c2']] w fun e w' => ∃ v, e = .returned (.tuple #[v, .int .i64 0]) ∧ w'.ownsRow w.heap.size 45 2 v (dfL xs ys ms ns L p N).length (flatP (dfL xs ys ms ns L p N)) ∧ Below w.heap.size w w' := by
 obtain ⟨q1, q2, q3, q4, q5, q6, q7⟩ := fits_nat hf
 have hNb : N ≤ 65536 := by omega
 have hLb : L ≤ 2200 := by omega
 have hnb : n ≤ 144179200 := by rw [hn]; exact Nat.mul_le_mul hNb hLb
 have HE : Hid (chkE (b : Int) (p : Int) (s : Int) n m = 0) := hE
 have HX : Hid (Reads w (some ⟨bk, off, none⟩) n xs) := hx
 have HY : Hid (Reads w (some ⟨bk2, off2, none⟩) n ys) := hy
 obtain ⟨mb, mo, rfl, hmk, hmc⟩ := hms.pos (by omega)
 obtain ⟨mb2, mo2, rfl, hmk2, hmc2⟩ := hns.pos (by omega)
 have HMC : Hid (∀ i, i < m → w.cell? ⟨mb, mo + i, none⟩ = some (.bool (ms.getD i false))) := hmc
 have HMC2 : Hid (∀ i, i < m → w.cell? ⟨mb2, mo2 + i, none⟩ = some (.bool (ns.getD i false))) := hmc2
 have HML : Hid (mb < w.heap.size ∧ mb2 < w.heap.size) := ⟨hmk, hmk2⟩
 have HF : Hid (Fits (b : Int) (p : Int) (s : Int) = true) := hf
 have HN : Hid (b * p = N) := hN
 have HL : Hid (256 * s + (54 + 3 * s) = L) := hL
 have Hn : Hid (n = N * L) := hn
 have Hm : Hid (m = b) := hm
 have hmb : m ≤ 4096 := by omega
 clear hE hx hy hms hns hf hN hL hn hm q7 hmk hmk2 hmc hmc2
 obtain ⟨i0, hi0, hz0, hz1, hz2⟩ := info_parts info45
 refine (callsIn_wide (n := 3)).1 ?_
 refine callsIn_of_wp_marks Tryd.func9 rfl trivial ?_ rfl
 refine wpIn_mono ?_ noPanic_le
 simp only [Tryd.ntmps9, List.size_toArray, List.length_cons, List.length_nil, Nat.reduceAdd, Nat.reduceSub, Array.replicate_succ, Array.replicate_zero, List.push_toArray, List.append_toArray, List.nil_append, List.cons_append]
 refine wpIn_wide.2 ?_
 have hw1 : ((w.alloc (.cells #[.int .i64 (b : Int), .int .i64 (p : Int), .int .i64 (s : Int), .slice (some ⟨bk, off, none⟩) n c, .slice (some ⟨mb, mo, none⟩) m c'] 35)).alloc (.cells #[.int .i64 (b : Int), .int .i64 (p : Int), .int .i64 (s : Int), .slice (some ⟨bk2, off2, none⟩) n c2, .slice (some ⟨mb2, mo2, none⟩) m c2'] 35)).heap[w.heap.size]? = some (.cells #[.int .i64 (b : Int), .int .i64 (p : Int), .int .i64 (s : Int), .slice (some ⟨bk, off, none⟩) n c, .slice (some ⟨mb, mo, none⟩) m c'] 35 (0, 0)) := (Below.heap_alloc _ _ _ (by simp)).trans (heap_alloc_new w _)
 have hw2 : ((w.alloc (.cells #[.int .i64 (b : Int), .int .i64 (p : Int), .int .i64 (s : Int), .slice (some ⟨bk, off, none⟩) n c, .slice (some ⟨mb, mo, none⟩) m c'] 35)).alloc (.cells #[.int .i64 (b : Int), .int .i64 (p : Int), .int .i64 (s : Int), .slice (some ⟨bk2, off2, none⟩) n c2, .slice (some ⟨mb2, mo2, none⟩) m c2'] 35)).heap[w.heap.size + 1]? = some (.cells #[.int .i64 (b : Int), .int .i64 (p : Int), .int .i64 (s : Int), .slice (some ⟨bk2, off2, none⟩) n c2, .slice (some ⟨mb2, mo2, none⟩) m c2'] 35 (0, 0)) := by
  have h9 := heap_alloc_new (w.alloc (.cells #[.int .i64 (b : Int), .int .i64 (p : Int), .int .i64 (s : Int), .slice (some ⟨bk, off, none⟩) n c, .slice (some ⟨mb, mo, none⟩) m c'] 35)) (.cells #[.int .i64 (b : Int), .int .i64 (p : Int), .int .i64 (s : Int), .slice (some ⟨bk2, off2, none⟩) n c2, .slice (some ⟨mb2, mo2, none⟩) m c2'] 35); rw [World.size_alloc] at h9; exact h9
 have hb0 : Below w.heap.size w ((w.alloc (.cells #[.int .i64 (b : Int), .int .i64 (p : Int), .int .i64 (s : Int), .slice (some ⟨bk, off, none⟩) n c, .slice (some ⟨mb, mo, none⟩) m c'] 35)).alloc (.cells #[.int .i64 (b : Int), .int .i64 (p : Int), .int .i64 (s : Int), .slice (some ⟨bk2, off2, none⟩) n c2, .slice (some ⟨mb2, mo2, none⟩) m c2'] 35)) := below_trans (below_alloc w _) (below_alloc _ _)
 have HW1 : Hid (((w.alloc (.cells #[.int .i64 (b : Int), .int .i64 (p : Int), .int .i64 (s : Int), .slice (some ⟨bk, off, none⟩) n c, .slice (some ⟨mb, mo, none⟩) m c'] 35)).alloc (.cells #[.int .i64 (b : Int), .int .i64 (p : Int), .int .i64 (s : Int), .slice (some ⟨bk2, off2, none⟩) n c2, .slice (some ⟨mb2, mo2, none⟩) m c2'] 35)).heap[w.heap.size]? = some (.cells #[.int .i64 (b : Int), .int .i64 (p : Int), .int .i64 (s : Int), .slice (some ⟨bk, off, none⟩) n c, .slice (some ⟨mb, mo, none⟩) m c'] 35 (0, 0))) := hw1
 have HW2 : Hid (((w.alloc (.cells #[.int .i64 (b : Int), .int .i64 (p : Int), .int .i64 (s : Int), .slice (some ⟨bk, off, none⟩) n c, .slice (some ⟨mb, mo, none⟩) m c'] 35)).alloc (.cells #[.int .i64 (b : Int), .int .i64 (p : Int), .int .i64 (s : Int), .slice (some ⟨bk2, off2, none⟩) n c2, .slice (some ⟨mb2, mo2, none⟩) m c2'] 35)).heap[w.heap.size + 1]? = some (.cells #[.int .i64 (b : Int), .int .i64 (p : Int), .int .i64 (s : Int), .slice (some ⟨bk2, off2, none⟩) n c2, .slice (some ⟨mb2, mo2, none⟩) m c2'] 35 (0, 0))) := hw2
 have HB0 : Hid (Below w.heap.size w ((w.alloc (.cells #[.int .i64 (b : Int), .int .i64 (p : Int), .int .i64 (s : Int), .slice (some ⟨bk, off, none⟩) n c, .slice (some ⟨mb, mo, none⟩) m c'] 35)).alloc (.cells #[.int .i64 (b : Int), .int .i64 (p : Int), .int .i64 (s : Int), .slice (some ⟨bk2, off2, none⟩) n c2, .slice (some ⟨mb2, mo2, none⟩) m c2'] 35))) := hb0
 obtain ⟨c0, c1, cz2, c3, c4⟩ := cells5 hw1
 obtain ⟨d0, d1, d2, d3, d4⟩ := cells5 hw2
 have T1 : Hid True := trivial
 clear hw1 hw2 hb0
 go_wp2_with (first
  | (go_at_call 18; have zz := T1; clear T1 zz; refine (check_any b p s _ _ n _ m _ _ (by omega) (by omega)).mono ?_; rintro e u1 ⟨rfl, b1⟩; rw [HE.out]
     have HU1 : Hid (u1.heap[w.heap.size]? = some (.cells #[.int .i64 (b : Int), .int .i64 (p : Int), .int .i64 (s : Int), .slice (some ⟨bk, off, none⟩) n c, .slice (some ⟨mb, mo, none⟩) m c'] 35 (0, 0))) := (b1.block _ (lt_of_b HW1.out)).trans HW1.out
     have HU2 : Hid (u1.heap[w.heap.size + 1]? = some (.cells #[.int .i64 (b : Int), .int .i64 (p : Int), .int .i64 (s : Int), .slice (some ⟨bk2, off2, none⟩) n c2, .slice (some ⟨mb2, mo2, none⟩) m c2'] 35 (0, 0))) := (b1.block _ (lt_of_b HW2.out)).trans HW2.out
     have HB1 : Hid (Below w.heap.size w u1) := below_trans HB0.out b1
     clear b1 c0 c1 cz2 c3 c4 d0 d1 d2 d3 d4
     obtain ⟨c0, c1, cz2, c3, c4⟩ := cells5 HU1.out
     obtain ⟨d0, d1, d2, d3, d4⟩ := cells5 HU2.out)
  | (go_at_call 18; refine (check_any b p s _ _ n _ m _ _ (by omega) (by omega)).mono ?_; rintro e u2 ⟨rfl, b2⟩; rw [HE.out]
     have HV1 : Hid (u2.heap[w.heap.size]? = some (.cells #[.int .i64 (b : Int), .int .i64 (p : Int), .int .i64 (s : Int), .slice (some ⟨bk, off, none⟩) n c, .slice (some ⟨mb, mo, none⟩) m c'] 35 (0, 0))) := (b2.block _ (lt_of_b HU1.out)).trans HU1.out
     have HV2 : Hid (u2.heap[w.heap.size + 1]? = some (.cells #[.int .i64 (b : Int), .int .i64 (p : Int), .int .i64 (s : Int), .slice (some ⟨bk2, off2, none⟩) n c2, .slice (some ⟨mb2, mo2, none⟩) m c2'] 35 (0, 0))) := (b2.block _ (lt_of_b HU2.out)).trans HU2.out
     have HB2 : Hid (Below w.heap.size w u2) := below_trans HB1.out b2
     clear b2 c0 c1 cz2 c3 c4 d0 d1 d2 d3 d4
     obtain ⟨c0, c1, cz2, c3, c4⟩ := cells5 HV1.out
     obtain ⟨d0, d1, d2, d3, d4⟩ := cells5 HV2.out
     have hz3 := (cells5 ((Below.heap_alloc u2 (.cells #[.slice none 0 0] 40) _ (lt_of_b HV1.out)).trans HV1.out))
     obtain ⟨f0, f1, f2, f3, f4⟩ := hz3)
  | (go_at_call 29; refine (pages_any b p s _ n _ _ m _ _).mono ?_; rintro e w' ⟨rfl, rfl⟩))
 have hlt1 := lt_of_b HV1.out
 have hlt2 := lt_of_b HV2.out
 have hC0 : Dfd w ((u2.alloc (.cells #[.slice none 0 0] 40)).alloc (.cells #[.int .i64 (b : Int), .int .i64 (p : Int), .int .i64 (s : Int), .slice (some ⟨bk, off, none⟩) n c, .slice (some ⟨mb, mo, none⟩) m c'] 35)) u2.heap.size b p s bk off n c (some ⟨mb, mo, none⟩) m c' bk2 off2 c2 (some ⟨mb2, mo2, none⟩) c2' [] := by
  refine ⟨⟨_, (Below.heap_alloc _ _ _ (by simp)).trans (heap_alloc_new _ _), World.ownsRow_nil _ _ _ _⟩, ?_, ?_, ?_, ((HB2.out.alloc HB2.out.size _).alloc (by have := HB2.out.size; simp; omega) _), by omega⟩
  ·exact (Below.heap_alloc _ _ _ (by simp; omega)).trans ((Below.heap_alloc _ _ _ hlt1).trans HV1.out)
  ·exact (Below.heap_alloc _ _ _ (by simp; omega)).trans ((Below.heap_alloc _ _ _ hlt2).trans HV2.out)
  ·have h9 := heap_alloc_new (u2.alloc (.cells #[.slice none 0 0] 40)) (.cells #[.int .i64 (b : Int), .int .i64 (p : Int), .int .i64 (s : Int), .slice (some ⟨bk, off, none⟩) n c, .slice (some ⟨mb, mo, none⟩) m c'] 35); rw [World.size_alloc] at h9; exact h9
 have hbp : ((b : Int) * (p : Int)) = (N : Int) := by rw [← HN.out]; exact (Int.natCast_mul b p).symm
 have hLs : (L : Int) = 256 * (s : Int) + (54 + 3 * (s : Int)) := by have := HL.out; omega
 have hLp : 0 < L := by have := HL.out; omega
 have HSEQ : Hid (SeqStopsK Fence.wide 2 Tryd.prog 59 #[.pointer (some ⟨u2.heap.size + 1, 0, none⟩)] (encW bk off L c N) (Kpg w.heap.size (u2.heap.size + 1)) (fun ys => ys = List.finRange N) (fun pre => pre <+: List.finRange N) N ((u2.alloc (.cells #[.slice none 0 0] 40)).alloc (.cells #[.int .i64 (b : Int), .int .i64 (p : Int), .int .i64 (s : Int), .slice (some ⟨bk, off, none⟩) n c, .slice (some ⟨mb, mo, none⟩) m c'] 35))) :=
  pages_stops 2 (u2.heap.size + 1) w.heap.size b p s bk off n c (some ⟨mb, mo, none⟩) m c' N L HF.out hbp hLs Hn.out hnc hc ((u2.alloc (.cells #[.slice none 0 0] 40)).alloc (.cells #[.int .i64 (b : Int), .int .i64 (p : Int), .int .i64 (s : Int), .slice (some ⟨bk, off, none⟩) n c, .slice (some ⟨mb, mo, none⟩) m c'] 35)) hC0.b3
 clear c0 c1 cz2 c3 c4 d0 d1 d2 d3 d4 f0 f1 f2 f3 f4 hbp hLs
 refine (wpIn_wide (n := 3)).1 ?_
 refine' wpIn_rangeFunc_ownG (n := 3) rfl (show 1 ≤ 3 by decide) (gf := 59) (lb := #[.pointer (some ⟨u2.heap.size + 1, 0, none⟩)]) rfl trivial (enters_of Tryd.func59 (by kernel_rfl) rfl)
  HSEQ.out kpg_t (kpg_b (by have := HB2.out.size; simp; omega) (by simp)) (Below.refl _ _) (fun _ => rfl)
  (fun pre W => Dfd w W u2.heap.size b p s bk off n c (some ⟨mb, mo, none⟩) m c' bk2 off2 c2 (some ⟨mb2, mo2, none⟩) c2' (pre.flatMap fun k => dfN xs ys ms ns L p k.val))
  (fun _ _ _ => False)
  (dfd_own w _ _ _ _ _ _ _ _ _ _ _ _ _ _ _ _ _ (by have := HB2.out.size; simp; omega))
  (fun _ _ _ _ _ hs _ _ => hs)
  hC0
  _ ?assign ?body ?done ?stop
 case assign =>
  intro l x W K hK
  gi_wp2
  exact hK
 case body =>
  rintro l pre x W hC hlt
  obtain ⟨X, hX⟩ := x
  obtain ⟨Q, hQ⟩ : ∃ Q, X / p = Q := ⟨_, rfl⟩
  obtain ⟨R, hR⟩ : ∃ R, X % p = R := ⟨_, rfl⟩
  have hp0 : 0 < p := by omega
  have e1 : ((X : Int) / (p : Int)) = (Q : Int) := by rw [← hQ]; exact (Int.natCast_ediv X p).symm
  have e2 : ((X : Int) % (p : Int)) = (R : Int) := by rw [← hR]; exact (Int.natCast_emod X p).symm
  have e1t : Int.tdiv (X : Int) (p : Int) = (Q : Int) := by rw [← e1]; exact Int.tdiv_eq_ediv_of_nonneg (by omega)
  have e2t : Int.tmod (X : Int) (p : Int) = (R : Int) := by rw [← e2]; exact Int.tmod_eq_emod_of_nonneg (by omega)
  have ep : ((p : Int) == 0) = false := by rw [beq_eq_false_iff_ne]; omega
  have ep1 : ((p : Int) == -1) = false := by rw [beq_eq_false_iff_ne]; omega
  have hpn : ¬ p = 0 := by omega
  have hRp : R < p := by rw [← hR]; exact Nat.mod_lt _ hp0
  have hQ2 : Q ≤ X := by rw [← hQ]; exact Nat.div_le_self _ _
  have wQ : IntKind.i64.wrap (Q : Int) = (Q : Int) := by rw [IntKind.wrap_i64]; omega
  have wR : IntKind.i64.wrap (R : Int) = (R : Int) := by rw [IntKind.wrap_i64]; omega
  have hQb : Q < b := by rw [← hQ]; exact Nat.div_lt_of_lt_mul (by rw [Nat.mul_comm, HN.out]; exact hX)
  have HC : Hid (Dfd w W u2.heap.size b p s bk off n c (some ⟨mb, mo, none⟩) m c' bk2 off2 c2 (some ⟨mb2, mo2, none⟩) c2' (pre.flatMap fun k => dfN xs ys ms ns L p k.val)) := hC
  have HQR : Hid (X / p = Q ∧ X % p = R) := ⟨hQ, hR⟩
  have hprl : pre.length < N := hlt
  have hfw : ∀ f, (Fence.wide.inRound l).fn f := fun _ => trivial
  have hdw : (Fence.wide.inRound l).depth.isSome = false := rfl
  have hfw2 : ∀ f, Fence.wide.fn f := fun _ => trivial
  have hdw2 : Fence.wide.depth.isSome = false := rfl
  clear hC hQ hR hlt
  refine wpIn_block ?_
  refine wpIn_seq ?_
  refine wpIn_region_round (S := (fun y : World => y.cell? ⟨w.heap.size, 1, none⟩ = some (.int .i64 (p : Int)))) (by kernel_rfl) (by kernel_rfl) (fun h => by obtain ⟨_, _, h⟩ := h; exact h) ((cells5 HC.out.b1).2.1) (fun hHeld => ?_)
  refine tk 0 ?_
  refine tk 1 ?_
  refine tk 2 ?_
  refine tk 3 ?_
  refine tk 4 ?_
  refine tk 5 ?_
  refine tk 6 ?_
  refine tk 7 ?_
  refine tk 8 ?_
  refine tk 9 ?_
  refine tk 10 ?_
  refine rd 11 (fun K hK => ?_)
  go_simp
  go_wp2_with fail
  have hSnew : (W.drew.alloc (.cells #[.int .i64 0, .int .i64 0] 45)).cell? ⟨w.heap.size, 1, none⟩ = some (.int .i64 (p : Int)) := (cells5 ((Below.heap_alloc _ _ _ (lt_of_b HC.out.b1)).trans HC.out.b1)).2.1
  clear hHeld
  refine hK.out _ _ hSnew (fun hHeld => ?_)
  clear hK K hSnew
  try simp only [Act.put, zSt, zS0, zS1]
  refine rd 12 (fun K hK => ?_)
  go_simp
  go_wp2_with fail
  have hSnew : (W.drew.alloc (.cells #[.int .i64 (Q : Int), .int .i64 (R : Int)] 45)).cell? ⟨w.heap.size, 1, none⟩ = some (.int .i64 (p : Int)) := (cells5 ((Below.heap_alloc _ _ _ (lt_of_b HC.out.b1)).trans HC.out.b1)).2.1
  clear hHeld
  refine hK.out _ _ hSnew (fun hHeld => ?_)
  clear hK K hSnew
  try simp only [Act.put, zSt, zS0, zS1]
  refine wpAnyH_done (by kernel_rfl) ?_ _
  gi_wp2
  have hb3 : Below W.heap.size W (W.alloc (.cells #[.int .i64 (Q : Int), .int .i64 (R : Int)] 45)).drew.drew := (below_drewN' W _)
  obtain ⟨W3, hW3⟩ : ∃ W3, (W.alloc (.cells #[.int .i64 (Q : Int), .int .i64 (R : Int)] 45)).drew.drew = W3 := ⟨_, rfl⟩
  have hpb : W3.heap[W.heap.size]? = some (.cells #[.int .i64 (Q : Int), .int .i64 (R : Int)] 45 (0, 0)) := by rw [← hW3]; exact heap_alloc_new W _
  have hws : W.heap.size < W3.heap.size := lt_of_b hpb
  rw [hW3] at hb3
  have HD3 : Hid (Dfd w W3 u2.heap.size b p s bk off n c (some ⟨mb, mo, none⟩) m c' bk2 off2 c2 (some ⟨mb2, mo2, none⟩) c2' (pre.flatMap fun k => dfN xs ys ms ns L p k.val)) := HC.out.below hb3
  have HB3 : Hid (Below W.heap.size W W3) := hb3
  have HPB : Hid (W3.heap[W.heap.size]? = some (.cells #[.int .i64 (Q : Int), .int .i64 (R : Int)] 45 (0, 0))) := hpb
  obtain ⟨B1, hB1⟩ : ∃ B1, ms.getD Q false = B1 := ⟨_, rfl⟩
  obtain ⟨B2, hB2⟩ : ∃ B2, ns.getD Q false = B2 := ⟨_, rfl⟩
  have HBB : Hid (ms.getD Q false = B1 ∧ ns.getD Q false = B2) := ⟨hB1, hB2⟩
  have HS14 : Hid (W3.cell? ⟨W.heap.size, 0, none⟩ = some (.int .i64 (Q : Int)) ∧ W3.cell? ⟨W.heap.size, 1, none⟩ = some (.int .i64 (R : Int)) ∧ W3.cell? ⟨w.heap.size, 4, none⟩ = some (.slice (some ⟨mb, mo, none⟩) m c') ∧ W3.cell? ⟨w.heap.size + 1, 4, none⟩ = some (.slice (some ⟨mb2, mo2, none⟩) m c2') ∧ W3.cell? ⟨mb, mo + Q, none⟩ = some (.bool B1) ∧ W3.cell? ⟨mb2, mo2 + Q, none⟩ = some (.bool B2)) := by
   refine ⟨by simp [World.cell?, hpb], by simp [World.cell?, hpb], (cells5 HD3.out.b1).2.2.2.2, (cells5 HD3.out.b2).2.2.2.2, ?_, ?_⟩
   ·rw [HD3.out.bel.cell (p := ⟨mb, mo + Q, none⟩) HML.out.1, HMC.out Q (by rw [Hm.out]; exact hQb), hB1]
   ·rw [HD3.out.bel.cell (p := ⟨mb2, mo2 + Q, none⟩) HML.out.2, HMC2.out Q (by rw [Hm.out]; exact hQb), hB2]
  have dQ : (Q : Int) < (m : Int) := by have := Hm.out; omega
  obtain ⟨v, hv0, hrow0⟩ := HC.out.row
  have HVP : Hid (v.ownBlock ≠ some W.heap.size) := fun e9 => by have := (hrow0.lt _ e9).2; omega
  obtain ⟨D, hDD⟩ : ∃ D, (pre.flatMap fun k => dfN xs ys ms ns L p k.val) = D := ⟨_, rfl⟩
  have HDD : Hid ((pre.flatMap fun k => dfN xs ys ms ns L p k.val) = D) := hDD
  have HDL : Hid (D.length ≤ 131072) := by unfold Hid; rw [← hDD]; have h9 := df_len xs ys ms ns L p pre; omega
  rw [hDD] at hrow0
  have HV : Hid (Boxed W3 u2.heap.size 40 v) := (hb3.block _ (lt_of_b hv0)).trans hv0
  have HROW : Hid (W3.ownsRow w.heap.size 45 2 v D.length (flatP D)) := ownsRow_below hrow0 hb3
  have HQN : Hid (W.heap.size ≠ u2.heap.size) := by have := lt_of_b hv0; unfold Hid; omega
  have HK3 : Hid (∀ B, KeepsFrom B W W3) := fun B => keeps_below hb3 B
  have HBW3 : Hid (Below w.heap.size W W3) := hb3.mono HC.out.bel.size
  rw [hDD] at HD3
  have HLs : Hid ((L : Int) = 256 * (s : Int) + (54 + 3 * (s : Int))) := by have := HL.out; unfold Hid; omega
  have HXL : Hid ((X + 1) * L ≤ n) := by unfold Hid; rw [Hn.out]; exact Nat.mul_le_mul_right L hX
  have HPX : Hid (Reads w (some ⟨bk, off + X * L, none⟩) L (pgK xs L X)) := HX.out.page Hn.out hX hLp
  have HPY : Hid (Reads w (some ⟨bk2, off2 + X * L, none⟩) L (pgK ys L X)) := HY.out.page Hn.out hX hLp
  have c30 := HV.out.cell
  have c31 := HS14.out.1
  have c32 := HS14.out.2.1
  obtain ⟨e30, e31, e32, e33, e34⟩ := cells5 HD3.out.b2
  have HU3 : Hid ((W.alloc (.cells #[.int .i64 (Q : Int), .int .i64 (R : Int)] 45)).drew.drew = W3) := hW3
  clear hb3 hW3 hpb hB1 hB2 hv0 hrow0 hDD
  by_cases hR0 : R = 0
  ·have eR : ((R : Int) == 0) = true := by rw [beq_iff_eq]; omega
   have HR0 : Hid (R = 0) := hR0
   clear hR0
   cases B1 with
   | false =>
    cases B2 with
    | false =>
     refine wpIn_region_round (S := (fun y : World => y.cell? ⟨W.heap.size, 0, none⟩ = some (.int .i64 (Q : Int)) ∧ y.cell? ⟨W.heap.size, 1, none⟩ = some (.int .i64 (R : Int)) ∧ y.cell? ⟨w.heap.size, 4, none⟩ = some (.slice (some ⟨mb, mo, none⟩) m c') ∧ y.cell? ⟨w.heap.size + 1, 4, none⟩ = some (.slice (some ⟨mb2, mo2, none⟩) m c2') ∧ y.cell? ⟨mb, mo + Q, none⟩ = some (.bool false) ∧ y.cell? ⟨mb2, mo2 + Q, none⟩ = some (.bool false))) (by kernel_rfl) (by kernel_rfl) (fun h => by obtain ⟨_, _, h⟩ := h; exact h) (by rw [HU3.out]; exact HS14.out) (fun hHeld => ?_)
     rw [HU3.out] at hHeld ⊢
     refine tk 0 ?_
     refine tk 1 ?_
     refine tk 2 ?_
     refine tk 3 ?_
     refine tk 4 ?_
     refine tk 5 ?_
     refine tk 6 ?_
     refine tk 7 ?_
     refine tk 8 ?_
     refine tk 9 ?_
     refine tk 10 ?_
     refine tk 11 ?_
     refine tk 12 ?_
     refine tk 13 ?_
     refine tk 14 ?_
     refine tk 15 ?_
     refine tk 16 ?_
     refine tk 17 ?_
     refine wpAnyH_done (by kernel_rfl) ?_ _
     clear eR
     by_cases hpg : pgK xs L X = pgK ys L X
     ·have HDE : Hid (decide (pgK xs L X = pgK ys L X) = true) := decide_eq_true hpg
      have HDN : Hid (dfN xs ys ms ns L p X = [] ++ []) := by unfold Hid dfN; rw [if_neg (fun h9 => h9.2 (by rw [HQR.out.1, HBB.out.1, HBB.out.2])), if_pos hpg]
      have TA : Hid True := trivial
      have TB : Hid True := trivial
      gi_wp2_with (first
       | (gi_at_call 31; refine CallsIn.mono (CallsIn.inRound l (callsIn_wide.2 (window_any b p s bk2 off2 (some ⟨mb2, mo2, none⟩) n c2 m c2' _ X L (X * L) ((X + 1) * L) hc2 hnc2 HF.out HLs.out rfl rfl HXL.out (by omega) (by omega)))) ?_; rintro e u5 ⟨rfl, b5⟩
          have HD5 : Hid (Dfd w u5 u2.heap.size b p s bk off n c (some ⟨mb, mo, none⟩) m c' bk2 off2 c2 (some ⟨mb2, mo2, none⟩) c2' (D)) := HD3.out.below b5
          have HK5 : Hid (∀ B, KeepsFrom B W u5) := fun B => (HK3.out B).trans (keeps_below b5 B)
          have HBW5 : Hid (Below w.heap.size W u5) := HBW3.out.trans (b5.mono HD3.out.bel.size)
          have HPB5 : Hid (u5.heap[W.heap.size]? = some (.cells #[.int .i64 (Q : Int), .int .i64 (R : Int)] 45 (0, 0))) := (b5.block _ (lt_of_b HPB.out)).trans HPB.out
          have HV5 : Hid (Boxed u5 u2.heap.size 40 v) := (b5.block _ (lt_of_b HV.out)).trans HV.out
          have HR5 : Hid (u5.ownsRow w.heap.size 45 2 v (D).length (flatP (D))) := (by
           obtain ⟨v9, hv9, hr9⟩ := HD5.out.row
           have e9 : v9 = v := (by have h8 := HV5.out; unfold Boxed at h8; rw [hv9] at h8; injection h8 with h8; injection h8 with h8; simpa using h8)
           rw [e9] at hr9
           exact hr9)
          have r5 := HV5.out.cell
          have p50 : u5.cell? ⟨W.heap.size, 0, none⟩ = some (.int .i64 (Q : Int)) := (by simp [World.cell?, HPB5.out])
          have p51 : u5.cell? ⟨W.heap.size, 1, none⟩ = some (.int .i64 (R : Int)) := (by simp [World.cell?, HPB5.out])
          clear b5)
       | (gi_at_call 30; refine CallsIn.mono (CallsIn.inRound l (callsIn_wide.2 (equal_any _ _ L L _ _ (pgK xs L X) (pgK ys L X) _ (HPX.out.below HD5.out.bel) (HPY.out.below HD5.out.bel)))) ?_; rintro e u6 ⟨rfl, hu6⟩; rw [hu6, HDE.out]; clear hu6))
      refine ⟨HK5.out _, ⟨HBW5.out, fun o ho => by rw [HC.out.b3] at ho; cases ho; exact HD5.out.b3⟩, ?_⟩
      have h9 := HD5.out
      dsimp only
      rw [List.flatMap_append, List.flatMap_singleton, HDD.out, HDN.out]
      simp only [List.append_nil] at h9 ⊢
      exact h9
     ·have HDE : Hid (decide (pgK xs L X = pgK ys L X) = false) := decide_eq_false hpg
      have HDN : Hid (dfN xs ys ms ns L p X = [] ++ [(⟨(Q : Int), (R : Int)⟩ : Pl)]) := by unfold Hid dfN; rw [if_neg (fun h9 => h9.2 (by rw [HQR.out.1, HBB.out.1, HBB.out.2])), if_neg hpg, HQR.out.1, HQR.out.2]
      have TA : Hid True := trivial
      have TB : Hid True := trivial
      gi_wp2_with (first
       | (gi_at_call 31; refine CallsIn.mono (CallsIn.inRound l (callsIn_wide.2 (window_any b p s bk2 off2 (some ⟨mb2, mo2, none⟩) n c2 m c2' _ X L (X * L) ((X + 1) * L) hc2 hnc2 HF.out HLs.out rfl rfl HXL.out (by omega) (by omega)))) ?_; rintro e u5 ⟨rfl, b5⟩
          have HD5 : Hid (Dfd w u5 u2.heap.size b p s bk off n c (some ⟨mb, mo, none⟩) m c' bk2 off2 c2 (some ⟨mb2, mo2, none⟩) c2' (D)) := HD3.out.below b5
          have HK5 : Hid (∀ B, KeepsFrom B W u5) := fun B => (HK3.out B).trans (keeps_below b5 B)
          have HBW5 : Hid (Below w.heap.size W u5) := HBW3.out.trans (b5.mono HD3.out.bel.size)
          have HPB5 : Hid (u5.heap[W.heap.size]? = some (.cells #[.int .i64 (Q : Int), .int .i64 (R : Int)] 45 (0, 0))) := (b5.block _ (lt_of_b HPB.out)).trans HPB.out
          have HV5 : Hid (Boxed u5 u2.heap.size 40 v) := (b5.block _ (lt_of_b HV.out)).trans HV.out
          have HR5 : Hid (u5.ownsRow w.heap.size 45 2 v (D).length (flatP (D))) := (by
           obtain ⟨v9, hv9, hr9⟩ := HD5.out.row
           have e9 : v9 = v := (by have h8 := HV5.out; unfold Boxed at h8; rw [hv9] at h8; injection h8 with h8; injection h8 with h8; simpa using h8)
           rw [e9] at hr9
           exact hr9)
          have r5 := HV5.out.cell
          have p50 : u5.cell? ⟨W.heap.size, 0, none⟩ = some (.int .i64 (Q : Int)) := (by simp [World.cell?, HPB5.out])
          have p51 : u5.cell? ⟨W.heap.size, 1, none⟩ = some (.int .i64 (R : Int)) := (by simp [World.cell?, HPB5.out])
          clear b5)
       | (gi_at_call 30; refine CallsIn.mono (CallsIn.inRound l (callsIn_wide.2 (equal_any _ _ L L _ _ (pgK xs L X) (pgK ys L X) _ (HPX.out.below HD5.out.bel) (HPY.out.below HD5.out.bel)))) ?_; rintro e u6 ⟨rfl, hu6⟩; rw [hu6, HDE.out]; clear hu6)
       | (gi_at_builtin; have zz := TB; clear TB zz; refine wpListIn_append_own _ rfl _ _ 40 rfl w.heap.size 45 i0 (.agg #[.int .i64 0, .int .i64 0]) 2 16 Tryd.underlying40 hi0 hz0 hz1 hz2 rfl (by decide) _ _ _ rfl (HR5.out.alloc _) ⟨u5.heap.size, 0, none⟩ 1 1 [.int .i64 (Q : Int), .int .i64 (R : Int)] rfl rfl (cell_two_new _ _ _ _) (by simp [Value.oneCell']) (by rw [show maxLen = 9223372036854775807 from rfl]; have := HDL.out; (try simp only [List.length_append, List.length_cons, List.length_nil]); omega) (by have := HDL.out; (try simp only [List.length_append, List.length_cons, List.length_nil]); omega) (by have := HD5.out.bel.size; simp; omega) ?_; intro v7 w7 hown' hgrow _; obtain ⟨g7, cap7, rfl⟩ := ownsRow_succ hown'
          obtain ⟨k1, k2, k3, k4, k5⟩ := Dfd.app HD5.out HV5.out HR5.out ⟨(Q : Int), (R : Int)⟩ hown' hgrow
          have hv7 : Boxed w7 u2.heap.size 40 v := ((HV5.out.alloc _).kept hgrow (HV5.out.not_row (by decide) HR5.out))
          have cc7 := hv7.cell
          have ff7 := hv7.frozen
          have HD7 : Hid (Dfd w (w7.setCell ⟨u2.heap.size, 0, none⟩ (.slice (some ⟨g7, 0, none⟩) ((D).length + 1) cap7)) u2.heap.size b p s bk off n c (some ⟨mb, mo, none⟩) m c' bk2 off2 c2 (some ⟨mb2, mo2, none⟩) c2' (D ++ [(⟨(Q : Int), (R : Int)⟩ : Pl)])) := k1
          have HK7 : Hid (∀ B, KeepsFrom B W (w7.setCell ⟨u2.heap.size, 0, none⟩ (.slice (some ⟨g7, 0, none⟩) ((D).length + 1) cap7))) := fun B => (HK5.out B).trans (k2.from B)
          have HBW7 : Hid (Below w.heap.size W (w7.setCell ⟨u2.heap.size, 0, none⟩ (.slice (some ⟨g7, 0, none⟩) ((D).length + 1) cap7))) := HBW5.out.trans k4
          clear k1 k2 k3 k4 k5 hown' hgrow))
      have hk7 := HK7.out
      have hb7 := HBW7.out
      have h9 := HD7.out
      (try simp only [List.length_append, List.length_cons, List.length_nil, Nat.zero_add] at hk7 hb7 h9)
      refine ⟨hk7 _, ⟨hb7, fun o ho => by rw [HC.out.b3] at ho; cases ho; exact h9.b3⟩, ?_⟩
      dsimp only
      rw [List.flatMap_append, List.flatMap_singleton, HDD.out, HDN.out]
      simp only [List.nil_append] at h9 ⊢
      exact h9
    | true =>
     refine wpIn_region_round (S := (fun y : World => y.cell? ⟨W.heap.size, 0, none⟩ = some (.int .i64 (Q : Int)) ∧ y.cell? ⟨W.heap.size, 1, none⟩ = some (.int .i64 (R : Int)) ∧ y.cell? ⟨w.heap.size, 4, none⟩ = some (.slice (some ⟨mb, mo, none⟩) m c') ∧ y.cell? ⟨w.heap.size + 1, 4, none⟩ = some (.slice (some ⟨mb2, mo2, none⟩) m c2') ∧ y.cell? ⟨mb, mo + Q, none⟩ = some (.bool false) ∧ y.cell? ⟨mb2, mo2 + Q, none⟩ = some (.bool true))) (by kernel_rfl) (by kernel_rfl) (fun h => by obtain ⟨_, _, h⟩ := h; exact h) (by rw [HU3.out]; exact HS14.out) (fun hHeld => ?_)
     rw [HU3.out] at hHeld ⊢
     refine tk 0 ?_
     refine tk 1 ?_
     refine tk 2 ?_
     refine tk 3 ?_
     refine tk 4 ?_
     refine tk 5 ?_
     refine tk 6 ?_
     refine tk 7 ?_
     refine tk 8 ?_
     refine tk 9 ?_
     refine tk 10 ?_
     refine tk 11 ?_
     refine tk 12 ?_
     refine tk 13 ?_
     refine tk 14 ?_
     refine tk 15 ?_
     refine tk 16 ?_
     refine tk 17 ?_
     refine wpAnyH_done (by kernel_rfl) ?_ _
     clear eR
     by_cases hpg : pgK xs L X = pgK ys L X
     ·have HDE : Hid (decide (pgK xs L X = pgK ys L X) = true) := decide_eq_true hpg
      have HDN : Hid (dfN xs ys ms ns L p X = [⟨(Q : Int), -1⟩] ++ []) := by unfold Hid dfN; rw [if_pos ⟨by rw [HQR.out.2]; exact HR0.out, by rw [HQR.out.1, HBB.out.1, HBB.out.2]; decide⟩, if_pos hpg, HQR.out.1]
      have TA : Hid True := trivial
      have TB : Hid True := trivial
      gi_wp2_with (first
       | (gi_at_builtin; have zz := TA; clear TA zz; refine wpListIn_append_own _ rfl _ _ 40 rfl w.heap.size 45 i0 (.agg #[.int .i64 0, .int .i64 0]) 2 16 Tryd.underlying40 hi0 hz0 hz1 hz2 rfl (by decide) _ _ _ rfl (HROW.out.alloc _) ⟨W3.heap.size, 0, none⟩ 1 1 [.int .i64 (Q : Int), .int .i64 (-1)] rfl rfl (cell_two_new _ _ _ _) (by simp [Value.oneCell']) (by rw [show maxLen = 9223372036854775807 from rfl]; have := HDL.out; (try simp only [List.length_append, List.length_cons, List.length_nil]); omega) (by have := HDL.out; (try simp only [List.length_append, List.length_cons, List.length_nil]); omega) (by have := HD3.out.bel.size; simp; omega) ?_; intro v4 w4 hown' hgrow _; obtain ⟨g4, cap4, rfl⟩ := ownsRow_succ hown'
          obtain ⟨k1, k2, k3, k4, k5⟩ := Dfd.app HD3.out HV.out HROW.out ⟨(Q : Int), (-1)⟩ hown' hgrow
          have hv4 : Boxed w4 u2.heap.size 40 v := ((HV.out.alloc _).kept hgrow (HV.out.not_row (by decide) HROW.out))
          have cc4 := hv4.cell
          have ff4 := hv4.frozen
          have HD4 : Hid (Dfd w (w4.setCell ⟨u2.heap.size, 0, none⟩ (.slice (some ⟨g4, 0, none⟩) ((D).length + 1) cap4)) u2.heap.size b p s bk off n c (some ⟨mb, mo, none⟩) m c' bk2 off2 c2 (some ⟨mb2, mo2, none⟩) c2' (D ++ [(⟨(Q : Int), -1⟩ : Pl)])) := k1
          have HK4 : Hid (∀ B, KeepsFrom B W (w4.setCell ⟨u2.heap.size, 0, none⟩ (.slice (some ⟨g4, 0, none⟩) ((D).length + 1) cap4))) := fun B => (HK3.out B).trans (k2.from B)
          have HBW4 : Hid (Below w.heap.size W (w4.setCell ⟨u2.heap.size, 0, none⟩ (.slice (some ⟨g4, 0, none⟩) ((D).length + 1) cap4))) := HBW3.out.trans k4
          have HPB4 : Hid ((w4.setCell ⟨u2.heap.size, 0, none⟩ (.slice (some ⟨g4, 0, none⟩) ((D).length + 1) cap4)).heap[W.heap.size]? = some (.cells #[.int .i64 (Q : Int), .int .i64 (R : Int)] 45 (0, 0))) := (k3 _ hws (HVP.out) HQN.out).trans HPB.out
          have HV4 : Hid (Boxed (w4.setCell ⟨u2.heap.size, 0, none⟩ (.slice (some ⟨g4, 0, none⟩) ((D).length + 1) cap4)) u2.heap.size 40 (.slice (some ⟨g4, 0, none⟩) ((D).length + 1) cap4)) := hv4.set _
          have hr4 := HV4.out.cell
          have e4 := cells5 HD4.out.b2
          have p40 : (w4.setCell ⟨u2.heap.size, 0, none⟩ (.slice (some ⟨g4, 0, none⟩) ((D).length + 1) cap4)).cell? ⟨W.heap.size, 0, none⟩ = some (.int .i64 (Q : Int)) := (by simp [World.cell?, HPB4.out])
          have p41 : (w4.setCell ⟨u2.heap.size, 0, none⟩ (.slice (some ⟨g4, 0, none⟩) ((D).length + 1) cap4)).cell? ⟨W.heap.size, 1, none⟩ = some (.int .i64 (R : Int)) := (by simp [World.cell?, HPB4.out])
          obtain ⟨e40, e41, e42, e43, e44⟩ := e4
          clear k1 k2 k3 k4 k5 hown' hgrow)
       | (gi_at_call 31; refine CallsIn.mono (CallsIn.inRound l (callsIn_wide.2 (window_any b p s bk2 off2 (some ⟨mb2, mo2, none⟩) n c2 m c2' _ X L (X * L) ((X + 1) * L) hc2 hnc2 HF.out HLs.out rfl rfl HXL.out (by omega) (by omega)))) ?_; rintro e u5 ⟨rfl, b5⟩
          have HD5 : Hid (Dfd w u5 u2.heap.size b p s bk off n c (some ⟨mb, mo, none⟩) m c' bk2 off2 c2 (some ⟨mb2, mo2, none⟩) c2' (D ++ [(⟨(Q : Int), -1⟩ : Pl)])) := HD4.out.below b5
          have HK5 : Hid (∀ B, KeepsFrom B W u5) := fun B => (HK4.out B).trans (keeps_below b5 B)
          have HBW5 : Hid (Below w.heap.size W u5) := HBW4.out.trans (b5.mono HD4.out.bel.size)
          have HPB5 : Hid (u5.heap[W.heap.size]? = some (.cells #[.int .i64 (Q : Int), .int .i64 (R : Int)] 45 (0, 0))) := (b5.block _ (lt_of_b HPB4.out)).trans HPB4.out
          have HV5 : Hid (Boxed u5 u2.heap.size 40 (.slice (some ⟨g4, 0, none⟩) ((D).length + 1) cap4)) := (b5.block _ (lt_of_b HV4.out)).trans HV4.out
          have HR5 : Hid (u5.ownsRow w.heap.size 45 2 (.slice (some ⟨g4, 0, none⟩) ((D).length + 1) cap4) (D ++ [(⟨(Q : Int), -1⟩ : Pl)]).length (flatP (D ++ [(⟨(Q : Int), -1⟩ : Pl)]))) := (by
           obtain ⟨v9, hv9, hr9⟩ := HD5.out.row
           have e9 : v9 = (.slice (some ⟨g4, 0, none⟩) ((D).length + 1) cap4) := (by have h8 := HV5.out; unfold Boxed at h8; rw [hv9] at h8; injection h8 with h8; injection h8 with h8; simpa using h8)
           rw [e9] at hr9
           exact hr9)
          have r5 := HV5.out.cell
          have p50 : u5.cell? ⟨W.heap.size, 0, none⟩ = some (.int .i64 (Q : Int)) := (by simp [World.cell?, HPB5.out])
          have p51 : u5.cell? ⟨W.heap.size, 1, none⟩ = some (.int .i64 (R : Int)) := (by simp [World.cell?, HPB5.out])
          clear b5)
       | (gi_at_call 30; refine CallsIn.mono (CallsIn.inRound l (callsIn_wide.2 (equal_any _ _ L L _ _ (pgK xs L X) (pgK ys L X) _ (HPX.out.below HD5.out.bel) (HPY.out.below HD5.out.bel)))) ?_; rintro e u6 ⟨rfl, hu6⟩; rw [hu6, HDE.out]; clear hu6))
      refine ⟨HK5.out _, ⟨HBW5.out, fun o ho => by rw [HC.out.b3] at ho; cases ho; exact HD5.out.b3⟩, ?_⟩
      have h9 := HD5.out
      dsimp only
      rw [List.flatMap_append, List.flatMap_singleton, HDD.out, HDN.out]
      simp only [List.append_nil] at h9 ⊢
      exact h9
     ·have HDE : Hid (decide (pgK xs L X = pgK ys L X) = false) := decide_eq_false hpg
      have HDN : Hid (dfN xs ys ms ns L p X = [⟨(Q : Int), -1⟩] ++ [(⟨(Q : Int), (R : Int)⟩ : Pl)]) := by unfold Hid dfN; rw [if_pos ⟨by rw [HQR.out.2]; exact HR0.out, by rw [HQR.out.1, HBB.out.1, HBB.out.2]; decide⟩, if_neg hpg, HQR.out.1, HQR.out.2]
      have TA : Hid True := trivial
      have TB : Hid True := trivial
      gi_wp2_with (first
       | (gi_at_builtin; have zz := TA; clear TA zz; refine wpListIn_append_own _ rfl _ _ 40 rfl w.heap.size 45 i0 (.agg #[.int .i64 0, .int .i64 0]) 2 16 Tryd.underlying40 hi0 hz0 hz1 hz2 rfl (by decide) _ _ _ rfl (HROW.out.alloc _) ⟨W3.heap.size, 0, none⟩ 1 1 [.int .i64 (Q : Int), .int .i64 (-1)] rfl rfl (cell_two_new _ _ _ _) (by simp [Value.oneCell']) (by rw [show maxLen = 9223372036854775807 from rfl]; have := HDL.out; (try simp only [List.length_append, List.length_cons, List.length_nil]); omega) (by have := HDL.out; (try simp only [List.length_append, List.length_cons, List.length_nil]); omega) (by have := HD3.out.bel.size; simp; omega) ?_; intro v4 w4 hown' hgrow _; obtain ⟨g4, cap4, rfl⟩ := ownsRow_succ hown'
          obtain ⟨k1, k2, k3, k4, k5⟩ := Dfd.app HD3.out HV.out HROW.out ⟨(Q : Int), (-1)⟩ hown' hgrow
          have hv4 : Boxed w4 u2.heap.size 40 v := ((HV.out.alloc _).kept hgrow (HV.out.not_row (by decide) HROW.out))
          have cc4 := hv4.cell
          have ff4 := hv4.frozen
          have HD4 : Hid (Dfd w (w4.setCell ⟨u2.heap.size, 0, none⟩ (.slice (some ⟨g4, 0, none⟩) ((D).length + 1) cap4)) u2.heap.size b p s bk off n c (some ⟨mb, mo, none⟩) m c' bk2 off2 c2 (some ⟨mb2, mo2, none⟩) c2' (D ++ [(⟨(Q : Int), -1⟩ : Pl)])) := k1
          have HK4 : Hid (∀ B, KeepsFrom B W (w4.setCell ⟨u2.heap.size, 0, none⟩ (.slice (some ⟨g4, 0, none⟩) ((D).length + 1) cap4))) := fun B => (HK3.out B).trans (k2.from B)
          have HBW4 : Hid (Below w.heap.size W (w4.setCell ⟨u2.heap.size, 0, none⟩ (.slice (some ⟨g4, 0, none⟩) ((D).length + 1) cap4))) := HBW3.out.trans k4
          have HPB4 : Hid ((w4.setCell ⟨u2.heap.size, 0, none⟩ (.slice (some ⟨g4, 0, none⟩) ((D).length + 1) cap4)).heap[W.heap.size]? = some (.cells #[.int .i64 (Q : Int), .int .i64 (R : Int)] 45 (0, 0))) := (k3 _ hws (HVP.out) HQN.out).trans HPB.out
          have HV4 : Hid (Boxed (w4.setCell ⟨u2.heap.size, 0, none⟩ (.slice (some ⟨g4, 0, none⟩) ((D).length + 1) cap4)) u2.heap.size 40 (.slice (some ⟨g4, 0, none⟩) ((D).length + 1) cap4)) := hv4.set _
          have hr4 := HV4.out.cell
          have e4 := cells5 HD4.out.b2
          have p40 : (w4.setCell ⟨u2.heap.size, 0, none⟩ (.slice (some ⟨g4, 0, none⟩) ((D).length + 1) cap4)).cell? ⟨W.heap.size, 0, none⟩ = some (.int .i64 (Q : Int)) := (by simp [World.cell?, HPB4.out])
          have p41 : (w4.setCell ⟨u2.heap.size, 0, none⟩ (.slice (some ⟨g4, 0, none⟩) ((D).length + 1) cap4)).cell? ⟨W.heap.size, 1, none⟩ = some (.int .i64 (R : Int)) := (by simp [World.cell?, HPB4.out])
          obtain ⟨e40, e41, e42, e43, e44⟩ := e4
          clear k1 k2 k3 k4 k5 hown' hgrow)
       | (gi_at_call 31; refine CallsIn.mono (CallsIn.inRound l (callsIn_wide.2 (window_any b p s bk2 off2 (some ⟨mb2, mo2, none⟩) n c2 m c2' _ X L (X * L) ((X + 1) * L) hc2 hnc2 HF.out HLs.out rfl rfl HXL.out (by omega) (by omega)))) ?_; rintro e u5 ⟨rfl, b5⟩
          have HD5 : Hid (Dfd w u5 u2.heap.size b p s bk off n c (some ⟨mb, mo, none⟩) m c' bk2 off2 c2 (some ⟨mb2, mo2, none⟩) c2' (D ++ [(⟨(Q : Int), -1⟩ : Pl)])) := HD4.out.below b5
          have HK5 : Hid (∀ B, KeepsFrom B W u5) := fun B => (HK4.out B).trans (keeps_below b5 B)
          have HBW5 : Hid (Below w.heap.size W u5) := HBW4.out.trans (b5.mono HD4.out.bel.size)
          have HPB5 : Hid (u5.heap[W.heap.size]? = some (.cells #[.int .i64 (Q : Int), .int .i64 (R : Int)] 45 (0, 0))) := (b5.block _ (lt_of_b HPB4.out)).trans HPB4.out
          have HV5 : Hid (Boxed u5 u2.heap.size 40 (.slice (some ⟨g4, 0, none⟩) ((D).length + 1) cap4)) := (b5.block _ (lt_of_b HV4.out)).trans HV4.out
          have HR5 : Hid (u5.ownsRow w.heap.size 45 2 (.slice (some ⟨g4, 0, none⟩) ((D).length + 1) cap4) (D ++ [(⟨(Q : Int), -1⟩ : Pl)]).length (flatP (D ++ [(⟨(Q : Int), -1⟩ : Pl)]))) := (by
           obtain ⟨v9, hv9, hr9⟩ := HD5.out.row
           have e9 : v9 = (.slice (some ⟨g4, 0, none⟩) ((D).length + 1) cap4) := (by have h8 := HV5.out; unfold Boxed at h8; rw [hv9] at h8; injection h8 with h8; injection h8 with h8; simpa using h8)
           rw [e9] at hr9
           exact hr9)
          have r5 := HV5.out.cell
          have p50 : u5.cell? ⟨W.heap.size, 0, none⟩ = some (.int .i64 (Q : Int)) := (by simp [World.cell?, HPB5.out])
          have p51 : u5.cell? ⟨W.heap.size, 1, none⟩ = some (.int .i64 (R : Int)) := (by simp [World.cell?, HPB5.out])
          clear b5)
       | (gi_at_call 30; refine CallsIn.mono (CallsIn.inRound l (callsIn_wide.2 (equal_any _ _ L L _ _ (pgK xs L X) (pgK ys L X) _ (HPX.out.below HD5.out.bel) (HPY.out.below HD5.out.bel)))) ?_; rintro e u6 ⟨rfl, hu6⟩; rw [hu6, HDE.out]; clear hu6)
       | (gi_at_builtin; have zz := TB; clear TB zz; refine wpListIn_append_own _ rfl _ _ 40 rfl w.heap.size 45 i0 (.agg #[.int .i64 0, .int .i64 0]) 2 16 Tryd.underlying40 hi0 hz0 hz1 hz2 rfl (by decide) _ _ _ rfl (HR5.out.alloc _) ⟨u5.heap.size, 0, none⟩ 1 1 [.int .i64 (Q : Int), .int .i64 (R : Int)] rfl rfl (cell_two_new _ _ _ _) (by simp [Value.oneCell']) (by rw [show maxLen = 9223372036854775807 from rfl]; have := HDL.out; (try simp only [List.length_append, List.length_cons, List.length_nil]); omega) (by have := HDL.out; (try simp only [List.length_append, List.length_cons, List.length_nil]); omega) (by have := HD5.out.bel.size; simp; omega) ?_; intro v7 w7 hown' hgrow _; obtain ⟨g7, cap7, rfl⟩ := ownsRow_succ hown'
          obtain ⟨k1, k2, k3, k4, k5⟩ := Dfd.app HD5.out HV5.out HR5.out ⟨(Q : Int), (R : Int)⟩ hown' hgrow
          have hv7 : Boxed w7 u2.heap.size 40 (.slice (some ⟨g4, 0, none⟩) ((D).length + 1) cap4) := ((HV5.out.alloc _).kept hgrow (HV5.out.not_row (by decide) HR5.out))
          have cc7 := hv7.cell
          have ff7 := hv7.frozen
          have HD7 : Hid (Dfd w (w7.setCell ⟨u2.heap.size, 0, none⟩ (.slice (some ⟨g7, 0, none⟩) ((D ++ [(⟨(Q : Int), -1⟩ : Pl)]).length + 1) cap7)) u2.heap.size b p s bk off n c (some ⟨mb, mo, none⟩) m c' bk2 off2 c2 (some ⟨mb2, mo2, none⟩) c2' (D ++ [(⟨(Q : Int), -1⟩ : Pl)] ++ [(⟨(Q : Int), (R : Int)⟩ : Pl)])) := k1
          have HK7 : Hid (∀ B, KeepsFrom B W (w7.setCell ⟨u2.heap.size, 0, none⟩ (.slice (some ⟨g7, 0, none⟩) ((D ++ [(⟨(Q : Int), -1⟩ : Pl)]).length + 1) cap7))) := fun B => (HK5.out B).trans (k2.from B)
          have HBW7 : Hid (Below w.heap.size W (w7.setCell ⟨u2.heap.size, 0, none⟩ (.slice (some ⟨g7, 0, none⟩) ((D ++ [(⟨(Q : Int), -1⟩ : Pl)]).length + 1) cap7))) := HBW5.out.trans k4
          clear k1 k2 k3 k4 k5 hown' hgrow))
      have hk7 := HK7.out
      have hb7 := HBW7.out
      have h9 := HD7.out
      (try simp only [List.length_append, List.length_cons, List.length_nil, Nat.zero_add] at hk7 hb7 h9)
      refine ⟨hk7 _, ⟨hb7, fun o ho => by rw [HC.out.b3] at ho; cases ho; exact h9.b3⟩, ?_⟩
      dsimp only
      rw [List.flatMap_append, List.flatMap_singleton, HDD.out, HDN.out]
      simp only [List.append_assoc, List.nil_append, List.cons_append] at h9 ⊢
      exact h9
   | true =>
    cases B2 with
    | false =>
     refine wpIn_region_round (S := (fun y : World => y.cell? ⟨W.heap.size, 0, none⟩ = some (.int .i64 (Q : Int)) ∧ y.cell? ⟨W.heap.size, 1, none⟩ = some (.int .i64 (R : Int)) ∧ y.cell? ⟨w.heap.size, 4, none⟩ = some (.slice (some ⟨mb, mo, none⟩) m c') ∧ y.cell? ⟨w.heap.size + 1, 4, none⟩ = some (.slice (some ⟨mb2, mo2, none⟩) m c2') ∧ y.cell? ⟨mb, mo + Q, none⟩ = some (.bool true) ∧ y.cell? ⟨mb2, mo2 + Q, none⟩ = some (.bool false))) (by kernel_rfl) (by kernel_rfl) (fun h => by obtain ⟨_, _, h⟩ := h; exact h) (by rw [HU3.out]; exact HS14.out) (fun hHeld => ?_)
     rw [HU3.out] at hHeld ⊢
     refine tk 0 ?_
     refine tk 1 ?_
     refine tk 2 ?_
     refine tk 3 ?_
     refine tk 4 ?_
     refine tk 5 ?_
     refine tk 6 ?_
     refine tk 7 ?_
     refine tk 8 ?_
     refine tk 9 ?_
     refine tk 10 ?_
     refine tk 11 ?_
     refine tk 12 ?_
     refine tk 13 ?_
     refine tk 14 ?_
     refine tk 15 ?_
     refine tk 16 ?_
     refine tk 17 ?_
     refine wpAnyH_done (by kernel_rfl) ?_ _
     clear eR
     by_cases hpg : pgK xs L X = pgK ys L X
     ·have HDE : Hid (decide (pgK xs L X = pgK ys L X) = true) := decide_eq_true hpg
      have HDN : Hid (dfN xs ys ms ns L p X = [⟨(Q : Int), -1⟩] ++ []) := by unfold Hid dfN; rw [if_pos ⟨by rw [HQR.out.2]; exact HR0.out, by rw [HQR.out.1, HBB.out.1, HBB.out.2]; decide⟩, if_pos hpg, HQR.out.1]
      have TA : Hid True := trivial
      have TB : Hid True := trivial
      gi_wp2_with (first
       | (gi_at_builtin; have zz := TA; clear TA zz; refine wpListIn_append_own _ rfl _ _ 40 rfl w.heap.size 45 i0 (.agg #[.int .i64 0, .int .i64 0]) 2 16 Tryd.underlying40 hi0 hz0 hz1 hz2 rfl (by decide) _ _ _ rfl (HROW.out.alloc _) ⟨W3.heap.size, 0, none⟩ 1 1 [.int .i64 (Q : Int), .int .i64 (-1)] rfl rfl (cell_two_new _ _ _ _) (by simp [Value.oneCell']) (by rw [show maxLen = 9223372036854775807 from rfl]; have := HDL.out; (try simp only [List.length_append, List.length_cons, List.length_nil]); omega) (by have := HDL.out; (try simp only [List.length_append, List.length_cons, List.length_nil]); omega) (by have := HD3.out.bel.size; simp; omega) ?_; intro v4 w4 hown' hgrow _; obtain ⟨g4, cap4, rfl⟩ := ownsRow_succ hown'
          obtain ⟨k1, k2, k3, k4, k5⟩ := Dfd.app HD3.out HV.out HROW.out ⟨(Q : Int), (-1)⟩ hown' hgrow
          have hv4 : Boxed w4 u2.heap.size 40 v := ((HV.out.alloc _).kept hgrow (HV.out.not_row (by decide) HROW.out))
          have cc4 := hv4.cell
          have ff4 := hv4.frozen
          have HD4 : Hid (Dfd w (w4.setCell ⟨u2.heap.size, 0, none⟩ (.slice (some ⟨g4, 0, none⟩) ((D).length + 1) cap4)) u2.heap.size b p s bk off n c (some ⟨mb, mo, none⟩) m c' bk2 off2 c2 (some ⟨mb2, mo2, none⟩) c2' (D ++ [(⟨(Q : Int), -1⟩ : Pl)])) := k1
          have HK4 : Hid (∀ B, KeepsFrom B W (w4.setCell ⟨u2.heap.size, 0, none⟩ (.slice (some ⟨g4, 0, none⟩) ((D).length + 1) cap4))) := fun B => (HK3.out B).trans (k2.from B)
          have HBW4 : Hid (Below w.heap.size W (w4.setCell ⟨u2.heap.size, 0, none⟩ (.slice (some ⟨g4, 0, none⟩) ((D).length + 1) cap4))) := HBW3.out.trans k4
          have HPB4 : Hid ((w4.setCell ⟨u2.heap.size, 0, none⟩ (.slice (some ⟨g4, 0, none⟩) ((D).length + 1) cap4)).heap[W.heap.size]? = some (.cells #[.int .i64 (Q : Int), .int .i64 (R : Int)] 45 (0, 0))) := (k3 _ hws (HVP.out) HQN.out).trans HPB.out
          have HV4 : Hid (Boxed (w4.setCell ⟨u2.heap.size, 0, none⟩ (.slice (some ⟨g4, 0, none⟩) ((D).length + 1) cap4)) u2.heap.size 40 (.slice (some ⟨g4, 0, none⟩) ((D).length + 1) cap4)) := hv4.set _
          have hr4 := HV4.out.cell
          have e4 := cells5 HD4.out.b2
          have p40 : (w4.setCell ⟨u2.heap.size, 0, none⟩ (.slice (some ⟨g4, 0, none⟩) ((D).length + 1) cap4)).cell? ⟨W.heap.size, 0, none⟩ = some (.int .i64 (Q : Int)) := (by simp [World.cell?, HPB4.out])
          have p41 : (w4.setCell ⟨u2.heap.size, 0, none⟩ (.slice (some ⟨g4, 0, none⟩) ((D).length + 1) cap4)).cell? ⟨W.heap.size, 1, none⟩ = some (.int .i64 (R : Int)) := (by simp [World.cell?, HPB4.out])
          obtain ⟨e40, e41, e42, e43, e44⟩ := e4
          clear k1 k2 k3 k4 k5 hown' hgrow)
       | (gi_at_call 31; refine CallsIn.mono (CallsIn.inRound l (callsIn_wide.2 (window_any b p s bk2 off2 (some ⟨mb2, mo2, none⟩) n c2 m c2' _ X L (X * L) ((X + 1) * L) hc2 hnc2 HF.out HLs.out rfl rfl HXL.out (by omega) (by omega)))) ?_; rintro e u5 ⟨rfl, b5⟩
          have HD5 : Hid (Dfd w u5 u2.heap.size b p s bk off n c (some ⟨mb, mo, none⟩) m c' bk2 off2 c2 (some ⟨mb2, mo2, none⟩) c2' (D ++ [(⟨(Q : Int), -1⟩ : Pl)])) := HD4.out.below b5
          have HK5 : Hid (∀ B, KeepsFrom B W u5) := fun B => (HK4.out B).trans (keeps_below b5 B)
          have HBW5 : Hid (Below w.heap.size W u5) := HBW4.out.trans (b5.mono HD4.out.bel.size)
          have HPB5 : Hid (u5.heap[W.heap.size]? = some (.cells #[.int .i64 (Q : Int), .int .i64 (R : Int)] 45 (0, 0))) := (b5.block _ (lt_of_b HPB4.out)).trans HPB4.out
          have HV5 : Hid (Boxed u5 u2.heap.size 40 (.slice (some ⟨g4, 0, none⟩) ((D).length + 1) cap4)) := (b5.block _ (lt_of_b HV4.out)).trans HV4.out
          have HR5 : Hid (u5.ownsRow w.heap.size 45 2 (.slice (some ⟨g4, 0, none⟩) ((D).length + 1) cap4) (D ++ [(⟨(Q : Int), -1⟩ : Pl)]).length (flatP (D ++ [(⟨(Q : Int), -1⟩ : Pl)]))) := (by
           obtain ⟨v9, hv9, hr9⟩ := HD5.out.row
           have e9 : v9 = (.slice (some ⟨g4, 0, none⟩) ((D).length + 1) cap4) := (by have h8 := HV5.out; unfold Boxed at h8; rw [hv9] at h8; injection h8 with h8; injection h8 with h8; simpa using h8)
           rw [e9] at hr9
           exact hr9)
          have r5 := HV5.out.cell
          have p50 : u5.cell? ⟨W.heap.size, 0, none⟩ = some (.int .i64 (Q : Int)) := (by simp [World.cell?, HPB5.out])
          have p51 : u5.cell? ⟨W.heap.size, 1, none⟩ = some (.int .i64 (R : Int)) := (by simp [World.cell?, HPB5.out])
          clear b5)
       | (gi_at_call 30; refine CallsIn.mono (CallsIn.inRound l (callsIn_wide.2 (equal_any _ _ L L _ _ (pgK xs L X) (pgK ys L X) _ (HPX.out.below HD5.out.bel) (HPY.out.below HD5.out.bel)))) ?_; rintro e u6 ⟨rfl, hu6⟩; rw [hu6, HDE.out]; clear hu6))
      refine ⟨HK5.out _, ⟨HBW5.out, fun o ho => by rw [HC.out.b3] at ho; cases ho; exact HD5.out.b3⟩, ?_⟩
      have h9 := HD5.out
      dsimp only
      rw [List.flatMap_append, List.flatMap_singleton, HDD.out, HDN.out]
      simp only [List.append_nil] at h9 ⊢
      exact h9
     ·have HDE : Hid (decide (pgK xs L X = pgK ys L X) = false) := decide_eq_false hpg
      have HDN : Hid (dfN xs ys ms ns L p X = [⟨(Q : Int), -1⟩] ++ [(⟨(Q : Int), (R : Int)⟩ : Pl)]) := by unfold Hid dfN; rw [if_pos ⟨by rw [HQR.out.2]; exact HR0.out, by rw [HQR.out.1, HBB.out.1, HBB.out.2]; decide⟩, if_neg hpg, HQR.out.1, HQR.out.2]
      have TA : Hid True := trivial
      have TB : Hid True := trivial
      gi_wp2_with (first
       | (gi_at_builtin; have zz := TA; clear TA zz; refine wpListIn_append_own _ rfl _ _ 40 rfl w.heap.size 45 i0 (.agg #[.int .i64 0, .int .i64 0]) 2 16 Tryd.underlying40 hi0 hz0 hz1 hz2 rfl (by decide) _ _ _ rfl (HROW.out.alloc _) ⟨W3.heap.size, 0, none⟩ 1 1 [.int .i64 (Q : Int), .int .i64 (-1)] rfl rfl (cell_two_new _ _ _ _) (by simp [Value.oneCell']) (by rw [show maxLen = 9223372036854775807 from rfl]; have := HDL.out; (try simp only [List.length_append, List.length_cons, List.length_nil]); omega) (by have := HDL.out; (try simp only [List.length_append, List.length_cons, List.length_nil]); omega) (by have := HD3.out.bel.size; simp; omega) ?_; intro v4 w4 hown' hgrow _; obtain ⟨g4, cap4, rfl⟩ := ownsRow_succ hown'
          obtain ⟨k1, k2, k3, k4, k5⟩ := Dfd.app HD3.out HV.out HROW.out ⟨(Q : Int), (-1)⟩ hown' hgrow
          have hv4 : Boxed w4 u2.heap.size 40 v := ((HV.out.alloc _).kept hgrow (HV.out.not_row (by decide) HROW.out))
          have cc4 := hv4.cell
          have ff4 := hv4.frozen
          have HD4 : Hid (Dfd w (w4.setCell ⟨u2.heap.size, 0, none⟩ (.slice (some ⟨g4, 0, none⟩) ((D).length + 1) cap4)) u2.heap.size b p s bk off n c (some ⟨mb, mo, none⟩) m c' bk2 off2 c2 (some ⟨mb2, mo2, none⟩) c2' (D ++ [(⟨(Q : Int), -1⟩ : Pl)])) := k1
          have HK4 : Hid (∀ B, KeepsFrom B W (w4.setCell ⟨u2.heap.size, 0, none⟩ (.slice (some ⟨g4, 0, none⟩) ((D).length + 1) cap4))) := fun B => (HK3.out B).trans (k2.from B)
          have HBW4 : Hid (Below w.heap.size W (w4.setCell ⟨u2.heap.size, 0, none⟩ (.slice (some ⟨g4, 0, none⟩) ((D).length + 1) cap4))) := HBW3.out.trans k4
          have HPB4 : Hid ((w4.setCell ⟨u2.heap.size, 0, none⟩ (.slice (some ⟨g4, 0, none⟩) ((D).length + 1) cap4)).heap[W.heap.size]? = some (.cells #[.int .i64 (Q : Int), .int .i64 (R : Int)] 45 (0, 0))) := (k3 _ hws (HVP.out) HQN.out).trans HPB.out
          have HV4 : Hid (Boxed (w4.setCell ⟨u2.heap.size, 0, none⟩ (.slice (some ⟨g4, 0, none⟩) ((D).length + 1) cap4)) u2.heap.size 40 (.slice (some ⟨g4, 0, none⟩) ((D).length + 1) cap4)) := hv4.set _
          have hr4 := HV4.out.cell
          have e4 := cells5 HD4.out.b2
          have p40 : (w4.setCell ⟨u2.heap.size, 0, none⟩ (.slice (some ⟨g4, 0, none⟩) ((D).length + 1) cap4)).cell? ⟨W.heap.size, 0, none⟩ = some (.int .i64 (Q : Int)) := (by simp [World.cell?, HPB4.out])
          have p41 : (w4.setCell ⟨u2.heap.size, 0, none⟩ (.slice (some ⟨g4, 0, none⟩) ((D).length + 1) cap4)).cell? ⟨W.heap.size, 1, none⟩ = some (.int .i64 (R : Int)) := (by simp [World.cell?, HPB4.out])
          obtain ⟨e40, e41, e42, e43, e44⟩ := e4
          clear k1 k2 k3 k4 k5 hown' hgrow)
       | (gi_at_call 31; refine CallsIn.mono (CallsIn.inRound l (callsIn_wide.2 (window_any b p s bk2 off2 (some ⟨mb2, mo2, none⟩) n c2 m c2' _ X L (X * L) ((X + 1) * L) hc2 hnc2 HF.out HLs.out rfl rfl HXL.out (by omega) (by omega)))) ?_; rintro e u5 ⟨rfl, b5⟩
          have HD5 : Hid (Dfd w u5 u2.heap.size b p s bk off n c (some ⟨mb, mo, none⟩) m c' bk2 off2 c2 (some ⟨mb2, mo2, none⟩) c2' (D ++ [(⟨(Q : Int), -1⟩ : Pl)])) := HD4.out.below b5
          have HK5 : Hid (∀ B, KeepsFrom B W u5) := fun B => (HK4.out B).trans (keeps_below b5 B)
          have HBW5 : Hid (Below w.heap.size W u5) := HBW4.out.trans (b5.mono HD4.out.bel.size)
          have HPB5 : Hid (u5.heap[W.heap.size]? = some (.cells #[.int .i64 (Q : Int), .int .i64 (R : Int)] 45 (0, 0))) := (b5.block _ (lt_of_b HPB4.out)).trans HPB4.out
          have HV5 : Hid (Boxed u5 u2.heap.size 40 (.slice (some ⟨g4, 0, none⟩) ((D).length + 1) cap4)) := (b5.block _ (lt_of_b HV4.out)).trans HV4.out
          have HR5 : Hid (u5.ownsRow w.heap.size 45 2 (.slice (some ⟨g4, 0, none⟩) ((D).length + 1) cap4) (D ++ [(⟨(Q : Int), -1⟩ : Pl)]).length (flatP (D ++ [(⟨(Q : Int), -1⟩ : Pl)]))) := (by
           obtain ⟨v9, hv9, hr9⟩ := HD5.out.row
           have e9 : v9 = (.slice (some ⟨g4, 0, none⟩) ((D).length + 1) cap4) := (by have h8 := HV5.out; unfold Boxed at h8; rw [hv9] at h8; injection h8 with h8; injection h8 with h8; simpa using h8)
           rw [e9] at hr9
           exact hr9)
          have r5 := HV5.out.cell
          have p50 : u5.cell? ⟨W.heap.size, 0, none⟩ = some (.int .i64 (Q : Int)) := (by simp [World.cell?, HPB5.out])
          have p51 : u5.cell? ⟨W.heap.size, 1, none⟩ = some (.int .i64 (R : Int)) := (by simp [World.cell?, HPB5.out])
          clear b5)
       | (gi_at_call 30; refine CallsIn.mono (CallsIn.inRound l (callsIn_wide.2 (equal_any _ _ L L _ _ (pgK xs L X) (pgK ys L X) _ (HPX.out.below HD5.out.bel) (HPY.out.below HD5.out.bel)))) ?_; rintro e u6 ⟨rfl, hu6⟩; rw [hu6, HDE.out]; clear hu6)
       | (gi_at_builtin; have zz := TB; clear TB zz; refine wpListIn_append_own _ rfl _ _ 40 rfl w.heap.size 45 i0 (.agg #[.int .i64 0, .int .i64 0]) 2 16 Tryd.underlying40 hi0 hz0 hz1 hz2 rfl (by decide) _ _ _ rfl (HR5.out.alloc _) ⟨u5.heap.size, 0, none⟩ 1 1 [.int .i64 (Q : Int), .int .i64 (R : Int)] rfl rfl (cell_two_new _ _ _ _) (by simp [Value.oneCell']) (by rw [show maxLen = 9223372036854775807 from rfl]; have := HDL.out; (try simp only [List.length_append, List.length_cons, List.length_nil]); omega) (by have := HDL.out; (try simp only [List.length_append, List.length_cons, List.length_nil]); omega) (by have := HD5.out.bel.size; simp; omega) ?_; intro v7 w7 hown' hgrow _; obtain ⟨g7, cap7, rfl⟩ := ownsRow_succ hown'
          obtain ⟨k1, k2, k3, k4, k5⟩ := Dfd.app HD5.out HV5.out HR5.out ⟨(Q : Int), (R : Int)⟩ hown' hgrow
          have hv7 : Boxed w7 u2.heap.size 40 (.slice (some ⟨g4, 0, none⟩) ((D).length + 1) cap4) := ((HV5.out.alloc _).kept hgrow (HV5.out.not_row (by decide) HR5.out))
          have cc7 := hv7.cell
          have ff7 := hv7.frozen
          have HD7 : Hid (Dfd w (w7.setCell ⟨u2.heap.size, 0, none⟩ (.slice (some ⟨g7, 0, none⟩) ((D ++ [(⟨(Q : Int), -1⟩ : Pl)]).length + 1) cap7)) u2.heap.size b p s bk off n c (some ⟨mb, mo, none⟩) m c' bk2 off2 c2 (some ⟨mb2, mo2, none⟩) c2' (D ++ [(⟨(Q : Int), -1⟩ : Pl)] ++ [(⟨(Q : Int), (R : Int)⟩ : Pl)])) := k1
          have HK7 : Hid (∀ B, KeepsFrom B W (w7.setCell ⟨u2.heap.size, 0, none⟩ (.slice (some ⟨g7, 0, none⟩) ((D ++ [(⟨(Q : Int), -1⟩ : Pl)]).length + 1) cap7))) := fun B => (HK5.out B).trans (k2.from B)
          have HBW7 : Hid (Below w.heap.size W (w7.setCell ⟨u2.heap.size, 0, none⟩ (.slice (some ⟨g7, 0, none⟩) ((D ++ [(⟨(Q : Int), -1⟩ : Pl)]).length + 1) cap7))) := HBW5.out.trans k4
          clear k1 k2 k3 k4 k5 hown' hgrow))
      have hk7 := HK7.out
      have hb7 := HBW7.out
      have h9 := HD7.out
      (try simp only [List.length_append, List.length_cons, List.length_nil, Nat.zero_add] at hk7 hb7 h9)
      refine ⟨hk7 _, ⟨hb7, fun o ho => by rw [HC.out.b3] at ho; cases ho; exact h9.b3⟩, ?_⟩
      dsimp only
      rw [List.flatMap_append, List.flatMap_singleton, HDD.out, HDN.out]
      simp only [List.append_assoc, List.nil_append, List.cons_append] at h9 ⊢
      exact h9
    | true =>
     refine wpIn_region_round (S := (fun y : World => y.cell? ⟨W.heap.size, 0, none⟩ = some (.int .i64 (Q : Int)) ∧ y.cell? ⟨W.heap.size, 1, none⟩ = some (.int .i64 (R : Int)) ∧ y.cell? ⟨w.heap.size, 4, none⟩ = some (.slice (some ⟨mb, mo, none⟩) m c') ∧ y.cell? ⟨w.heap.size + 1, 4, none⟩ = some (.slice (some ⟨mb2, mo2, none⟩) m c2') ∧ y.cell? ⟨mb, mo + Q, none⟩ = some (.bool true) ∧ y.cell? ⟨mb2, mo2 + Q, none⟩ = some (.bool true))) (by kernel_rfl) (by kernel_rfl) (fun h => by obtain ⟨_, _, h⟩ := h; exact h) (by rw [HU3.out]; exact HS14.out) (fun hHeld => ?_)
     rw [HU3.out] at hHeld ⊢
     refine tk 0 ?_
     refine tk 1 ?_
     refine tk 2 ?_
     refine tk 3 ?_
     refine tk 4 ?_
     refine tk 5 ?_
     refine tk 6 ?_
     refine tk 7 ?_
     refine tk 8 ?_
     refine tk 9 ?_
     refine tk 10 ?_
     refine tk 11 ?_
     refine tk 12 ?_
     refine tk 13 ?_
     refine tk 14 ?_
     refine tk 15 ?_
     refine tk 16 ?_
     refine tk 17 ?_
     refine wpAnyH_done (by kernel_rfl) ?_ _
     clear eR
     by_cases hpg : pgK xs L X = pgK ys L X
     ·have HDE : Hid (decide (pgK xs L X = pgK ys L X) = true) := decide_eq_true hpg
      have HDN : Hid (dfN xs ys ms ns L p X = [] ++ []) := by unfold Hid dfN; rw [if_neg (fun h9 => h9.2 (by rw [HQR.out.1, HBB.out.1, HBB.out.2])), if_pos hpg]
      have TA : Hid True := trivial
      have TB : Hid True := trivial
      gi_wp2_with (first
       | (gi_at_call 31; refine CallsIn.mono (CallsIn.inRound l (callsIn_wide.2 (window_any b p s bk2 off2 (some ⟨mb2, mo2, none⟩) n c2 m c2' _ X L (X * L) ((X + 1) * L) hc2 hnc2 HF.out HLs.out rfl rfl HXL.out (by omega) (by omega)))) ?_; rintro e u5 ⟨rfl, b5⟩
          have HD5 : Hid (Dfd w u5 u2.heap.size b p s bk off n c (some ⟨mb, mo, none⟩) m c' bk2 off2 c2 (some ⟨mb2, mo2, none⟩) c2' (D)) := HD3.out.below b5
          have HK5 : Hid (∀ B, KeepsFrom B W u5) := fun B => (HK3.out B).trans (keeps_below b5 B)
          have HBW5 : Hid (Below w.heap.size W u5) := HBW3.out.trans (b5.mono HD3.out.bel.size)
          have HPB5 : Hid (u5.heap[W.heap.size]? = some (.cells #[.int .i64 (Q : Int), .int .i64 (R : Int)] 45 (0, 0))) := (b5.block _ (lt_of_b HPB.out)).trans HPB.out
          have HV5 : Hid (Boxed u5 u2.heap.size 40 v) := (b5.block _ (lt_of_b HV.out)).trans HV.out
          have HR5 : Hid (u5.ownsRow w.heap.size 45 2 v (D).length (flatP (D))) := (by
           obtain ⟨v9, hv9, hr9⟩ := HD5.out.row
           have e9 : v9 = v := (by have h8 := HV5.out; unfold Boxed at h8; rw [hv9] at h8; injection h8 with h8; injection h8 with h8; simpa using h8)
           rw [e9] at hr9
           exact hr9)
          have r5 := HV5.out.cell
          have p50 : u5.cell? ⟨W.heap.size, 0, none⟩ = some (.int .i64 (Q : Int)) := (by simp [World.cell?, HPB5.out])
          have p51 : u5.cell? ⟨W.heap.size, 1, none⟩ = some (.int .i64 (R : Int)) := (by simp [World.cell?, HPB5.out])
          clear b5)
       | (gi_at_call 30; refine CallsIn.mono (CallsIn.inRound l (callsIn_wide.2 (equal_any _ _ L L _ _ (pgK xs L X) (pgK ys L X) _ (HPX.out.below HD5.out.bel) (HPY.out.below HD5.out.bel)))) ?_; rintro e u6 ⟨rfl, hu6⟩; rw [hu6, HDE.out]; clear hu6))
      refine ⟨HK5.out _, ⟨HBW5.out, fun o ho => by rw [HC.out.b3] at ho; cases ho; exact HD5.out.b3⟩, ?_⟩
      have h9 := HD5.out
      dsimp only
      rw [List.flatMap_append, List.flatMap_singleton, HDD.out, HDN.out]
      simp only [List.append_nil] at h9 ⊢
      exact h9
     ·have HDE : Hid (decide (pgK xs L X = pgK ys L X) = false) := decide_eq_false hpg
      have HDN : Hid (dfN xs ys ms ns L p X = [] ++ [(⟨(Q : Int), (R : Int)⟩ : Pl)]) := by unfold Hid dfN; rw [if_neg (fun h9 => h9.2 (by rw [HQR.out.1, HBB.out.1, HBB.out.2])), if_neg hpg, HQR.out.1, HQR.out.2]
      have TA : Hid True := trivial
      have TB : Hid True := trivial
      gi_wp2_with (first
       | (gi_at_call 31; refine CallsIn.mono (CallsIn.inRound l (callsIn_wide.2 (window_any b p s bk2 off2 (some ⟨mb2, mo2, none⟩) n c2 m c2' _ X L (X * L) ((X + 1) * L) hc2 hnc2 HF.out HLs.out rfl rfl HXL.out (by omega) (by omega)))) ?_; rintro e u5 ⟨rfl, b5⟩
          have HD5 : Hid (Dfd w u5 u2.heap.size b p s bk off n c (some ⟨mb, mo, none⟩) m c' bk2 off2 c2 (some ⟨mb2, mo2, none⟩) c2' (D)) := HD3.out.below b5
          have HK5 : Hid (∀ B, KeepsFrom B W u5) := fun B => (HK3.out B).trans (keeps_below b5 B)
          have HBW5 : Hid (Below w.heap.size W u5) := HBW3.out.trans (b5.mono HD3.out.bel.size)
          have HPB5 : Hid (u5.heap[W.heap.size]? = some (.cells #[.int .i64 (Q : Int), .int .i64 (R : Int)] 45 (0, 0))) := (b5.block _ (lt_of_b HPB.out)).trans HPB.out
          have HV5 : Hid (Boxed u5 u2.heap.size 40 v) := (b5.block _ (lt_of_b HV.out)).trans HV.out
          have HR5 : Hid (u5.ownsRow w.heap.size 45 2 v (D).length (flatP (D))) := (by
           obtain ⟨v9, hv9, hr9⟩ := HD5.out.row
           have e9 : v9 = v := (by have h8 := HV5.out; unfold Boxed at h8; rw [hv9] at h8; injection h8 with h8; injection h8 with h8; simpa using h8)
           rw [e9] at hr9
           exact hr9)
          have r5 := HV5.out.cell
          have p50 : u5.cell? ⟨W.heap.size, 0, none⟩ = some (.int .i64 (Q : Int)) := (by simp [World.cell?, HPB5.out])
          have p51 : u5.cell? ⟨W.heap.size, 1, none⟩ = some (.int .i64 (R : Int)) := (by simp [World.cell?, HPB5.out])
          clear b5)
       | (gi_at_call 30; refine CallsIn.mono (CallsIn.inRound l (callsIn_wide.2 (equal_any _ _ L L _ _ (pgK xs L X) (pgK ys L X) _ (HPX.out.below HD5.out.bel) (HPY.out.below HD5.out.bel)))) ?_; rintro e u6 ⟨rfl, hu6⟩; rw [hu6, HDE.out]; clear hu6)
       | (gi_at_builtin; have zz := TB; clear TB zz; refine wpListIn_append_own _ rfl _ _ 40 rfl w.heap.size 45 i0 (.agg #[.int .i64 0, .int .i64 0]) 2 16 Tryd.underlying40 hi0 hz0 hz1 hz2 rfl (by decide) _ _ _ rfl (HR5.out.alloc _) ⟨u5.heap.size, 0, none⟩ 1 1 [.int .i64 (Q : Int), .int .i64 (R : Int)] rfl rfl (cell_two_new _ _ _ _) (by simp [Value.oneCell']) (by rw [show maxLen = 9223372036854775807 from rfl]; have := HDL.out; (try simp only [List.length_append, List.length_cons, List.length_nil]); omega) (by have := HDL.out; (try simp only [List.length_append, List.length_cons, List.length_nil]); omega) (by have := HD5.out.bel.size; simp; omega) ?_; intro v7 w7 hown' hgrow _; obtain ⟨g7, cap7, rfl⟩ := ownsRow_succ hown'
          obtain ⟨k1, k2, k3, k4, k5⟩ := Dfd.app HD5.out HV5.out HR5.out ⟨(Q : Int), (R : Int)⟩ hown' hgrow
          have hv7 : Boxed w7 u2.heap.size 40 v := ((HV5.out.alloc _).kept hgrow (HV5.out.not_row (by decide) HR5.out))
          have cc7 := hv7.cell
          have ff7 := hv7.frozen
          have HD7 : Hid (Dfd w (w7.setCell ⟨u2.heap.size, 0, none⟩ (.slice (some ⟨g7, 0, none⟩) ((D).length + 1) cap7)) u2.heap.size b p s bk off n c (some ⟨mb, mo, none⟩) m c' bk2 off2 c2 (some ⟨mb2, mo2, none⟩) c2' (D ++ [(⟨(Q : Int), (R : Int)⟩ : Pl)])) := k1
          have HK7 : Hid (∀ B, KeepsFrom B W (w7.setCell ⟨u2.heap.size, 0, none⟩ (.slice (some ⟨g7, 0, none⟩) ((D).length + 1) cap7))) := fun B => (HK5.out B).trans (k2.from B)
          have HBW7 : Hid (Below w.heap.size W (w7.setCell ⟨u2.heap.size, 0, none⟩ (.slice (some ⟨g7, 0, none⟩) ((D).length + 1) cap7))) := HBW5.out.trans k4
          clear k1 k2 k3 k4 k5 hown' hgrow))
      have hk7 := HK7.out
      have hb7 := HBW7.out
      have h9 := HD7.out
      (try simp only [List.length_append, List.length_cons, List.length_nil, Nat.zero_add] at hk7 hb7 h9)
      refine ⟨hk7 _, ⟨hb7, fun o ho => by rw [HC.out.b3] at ho; cases ho; exact h9.b3⟩, ?_⟩
      dsimp only
      rw [List.flatMap_append, List.flatMap_singleton, HDD.out, HDN.out]
      simp only [List.nil_append] at h9 ⊢
      exact h9
  ·have eR : ((R : Int) == 0) = false := by rw [beq_eq_false_iff_ne]; omega
   refine wpIn_region_round (S := (fun y : World => y.cell? ⟨W.heap.size, 0, none⟩ = some (.int .i64 (Q : Int)) ∧ y.cell? ⟨W.heap.size, 1, none⟩ = some (.int .i64 (R : Int)) ∧ y.cell? ⟨w.heap.size, 4, none⟩ = some (.slice (some ⟨mb, mo, none⟩) m c') ∧ y.cell? ⟨w.heap.size + 1, 4, none⟩ = some (.slice (some ⟨mb2, mo2, none⟩) m c2') ∧ y.cell? ⟨mb, mo + Q, none⟩ = some (.bool B1) ∧ y.cell? ⟨mb2, mo2 + Q, none⟩ = some (.bool B2))) (by kernel_rfl) (by kernel_rfl) (fun h => by obtain ⟨_, _, h⟩ := h; exact h) (by rw [HU3.out]; exact HS14.out) (fun hHeld => ?_)
   rw [HU3.out] at hHeld ⊢
   refine tk 0 ?_
   refine tk 1 ?_
   refine tk 2 ?_
   refine tk 3 ?_
   refine tu 4 ?_
   refine tu 5 ?_
   refine tu 6 ?_
   refine tu 7 ?_
   refine tu 8 ?_
   refine tu 9 ?_
   refine tu 10 ?_
   refine tu 11 ?_
   refine tu 12 ?_
   refine tu 13 ?_
   refine tu 14 ?_
   refine tu 15 ?_
   refine tu 16 ?_
   refine tk 17 ?_
   refine wpAnyH_done (by kernel_rfl) ?_ _
   by_cases hpg : pgK xs L X = pgK ys L X
   ·have HDE : Hid (decide (pgK xs L X = pgK ys L X) = true) := decide_eq_true hpg
    have HDN : Hid (dfN xs ys ms ns L p X = [] ++ []) := by unfold Hid dfN; rw [if_neg (fun h9 => hR0 (by rw [← HQR.out.2]; exact h9.1)), if_pos hpg]
    have TA : Hid True := trivial
    have TB : Hid True := trivial
    gi_wp2_with (first
     | (gi_at_call 31; refine CallsIn.mono (CallsIn.inRound l (callsIn_wide.2 (window_any b p s bk2 off2 (some ⟨mb2, mo2, none⟩) n c2 m c2' _ X L (X * L) ((X + 1) * L) hc2 hnc2 HF.out HLs.out rfl rfl HXL.out (by omega) (by omega)))) ?_; rintro e u5 ⟨rfl, b5⟩
        have HD5 : Hid (Dfd w u5 u2.heap.size b p s bk off n c (some ⟨mb, mo, none⟩) m c' bk2 off2 c2 (some ⟨mb2, mo2, none⟩) c2' (D)) := HD3.out.below b5
        have HK5 : Hid (∀ B, KeepsFrom B W u5) := fun B => (HK3.out B).trans (keeps_below b5 B)
        have HBW5 : Hid (Below w.heap.size W u5) := HBW3.out.trans (b5.mono HD3.out.bel.size)
        have HPB5 : Hid (u5.heap[W.heap.size]? = some (.cells #[.int .i64 (Q : Int), .int .i64 (R : Int)] 45 (0, 0))) := (b5.block _ (lt_of_b HPB.out)).trans HPB.out
        have HV5 : Hid (Boxed u5 u2.heap.size 40 v) := (b5.block _ (lt_of_b HV.out)).trans HV.out
        have HR5 : Hid (u5.ownsRow w.heap.size 45 2 v (D).length (flatP (D))) := (by
         obtain ⟨v9, hv9, hr9⟩ := HD5.out.row
         have e9 : v9 = v := (by have h8 := HV5.out; unfold Boxed at h8; rw [hv9] at h8; injection h8 with h8; injection h8 with h8; simpa using h8)
         rw [e9] at hr9
         exact hr9)
        have r5 := HV5.out.cell
        have p50 : u5.cell? ⟨W.heap.size, 0, none⟩ = some (.int .i64 (Q : Int)) := (by simp [World.cell?, HPB5.out])
        have p51 : u5.cell? ⟨W.heap.size, 1, none⟩ = some (.int .i64 (R : Int)) := (by simp [World.cell?, HPB5.out])
        clear b5)
     | (gi_at_call 30; refine CallsIn.mono (CallsIn.inRound l (callsIn_wide.2 (equal_any _ _ L L _ _ (pgK xs L X) (pgK ys L X) _ (HPX.out.below HD5.out.bel) (HPY.out.below HD5.out.bel)))) ?_; rintro e u6 ⟨rfl, hu6⟩; rw [hu6, HDE.out]; clear hu6))
    refine ⟨HK5.out _, ⟨HBW5.out, fun o ho => by rw [HC.out.b3] at ho; cases ho; exact HD5.out.b3⟩, ?_⟩
    have h9 := HD5.out
    dsimp only
    rw [List.flatMap_append, List.flatMap_singleton, HDD.out, HDN.out]
    simp only [List.append_nil] at h9 ⊢
    exact h9
   ·have HDE : Hid (decide (pgK xs L X = pgK ys L X) = false) := decide_eq_false hpg
    have HDN : Hid (dfN xs ys ms ns L p X = [] ++ [(⟨(Q : Int), (R : Int)⟩ : Pl)]) := by unfold Hid dfN; rw [if_neg (fun h9 => hR0 (by rw [← HQR.out.2]; exact h9.1)), if_neg hpg, HQR.out.1, HQR.out.2]
    have TA : Hid True := trivial
    have TB : Hid True := trivial
    gi_wp2_with (first
     | (gi_at_call 31; refine CallsIn.mono (CallsIn.inRound l (callsIn_wide.2 (window_any b p s bk2 off2 (some ⟨mb2, mo2, none⟩) n c2 m c2' _ X L (X * L) ((X + 1) * L) hc2 hnc2 HF.out HLs.out rfl rfl HXL.out (by omega) (by omega)))) ?_; rintro e u5 ⟨rfl, b5⟩
        have HD5 : Hid (Dfd w u5 u2.heap.size b p s bk off n c (some ⟨mb, mo, none⟩) m c' bk2 off2 c2 (some ⟨mb2, mo2, none⟩) c2' (D)) := HD3.out.below b5
        have HK5 : Hid (∀ B, KeepsFrom B W u5) := fun B => (HK3.out B).trans (keeps_below b5 B)
        have HBW5 : Hid (Below w.heap.size W u5) := HBW3.out.trans (b5.mono HD3.out.bel.size)
        have HPB5 : Hid (u5.heap[W.heap.size]? = some (.cells #[.int .i64 (Q : Int), .int .i64 (R : Int)] 45 (0, 0))) := (b5.block _ (lt_of_b HPB.out)).trans HPB.out
        have HV5 : Hid (Boxed u5 u2.heap.size 40 v) := (b5.block _ (lt_of_b HV.out)).trans HV.out
        have HR5 : Hid (u5.ownsRow w.heap.size 45 2 v (D).length (flatP (D))) := (by
         obtain ⟨v9, hv9, hr9⟩ := HD5.out.row
         have e9 : v9 = v := (by have h8 := HV5.out; unfold Boxed at h8; rw [hv9] at h8; injection h8 with h8; injection h8 with h8; simpa using h8)
         rw [e9] at hr9
         exact hr9)
        have r5 := HV5.out.cell
        have p50 : u5.cell? ⟨W.heap.size, 0, none⟩ = some (.int .i64 (Q : Int)) := (by simp [World.cell?, HPB5.out])
        have p51 : u5.cell? ⟨W.heap.size, 1, none⟩ = some (.int .i64 (R : Int)) := (by simp [World.cell?, HPB5.out])
        clear b5)
     | (gi_at_call 30; refine CallsIn.mono (CallsIn.inRound l (callsIn_wide.2 (equal_any _ _ L L _ _ (pgK xs L X) (pgK ys L X) _ (HPX.out.below HD5.out.bel) (HPY.out.below HD5.out.bel)))) ?_; rintro e u6 ⟨rfl, hu6⟩; rw [hu6, HDE.out]; clear hu6)
     | (gi_at_builtin; have zz := TB; clear TB zz; refine wpListIn_append_own _ rfl _ _ 40 rfl w.heap.size 45 i0 (.agg #[.int .i64 0, .int .i64 0]) 2 16 Tryd.underlying40 hi0 hz0 hz1 hz2 rfl (by decide) _ _ _ rfl (HR5.out.alloc _) ⟨u5.heap.size, 0, none⟩ 1 1 [.int .i64 (Q : Int), .int .i64 (R : Int)] rfl rfl (cell_two_new _ _ _ _) (by simp [Value.oneCell']) (by rw [show maxLen = 9223372036854775807 from rfl]; have := HDL.out; (try simp only [List.length_append, List.length_cons, List.length_nil]); omega) (by have := HDL.out; (try simp only [List.length_append, List.length_cons, List.length_nil]); omega) (by have := HD5.out.bel.size; simp; omega) ?_; intro v7 w7 hown' hgrow _; obtain ⟨g7, cap7, rfl⟩ := ownsRow_succ hown'
        obtain ⟨k1, k2, k3, k4, k5⟩ := Dfd.app HD5.out HV5.out HR5.out ⟨(Q : Int), (R : Int)⟩ hown' hgrow
        have hv7 : Boxed w7 u2.heap.size 40 v := ((HV5.out.alloc _).kept hgrow (HV5.out.not_row (by decide) HR5.out))
        have cc7 := hv7.cell
        have ff7 := hv7.frozen
        have HD7 : Hid (Dfd w (w7.setCell ⟨u2.heap.size, 0, none⟩ (.slice (some ⟨g7, 0, none⟩) ((D).length + 1) cap7)) u2.heap.size b p s bk off n c (some ⟨mb, mo, none⟩) m c' bk2 off2 c2 (some ⟨mb2, mo2, none⟩) c2' (D ++ [(⟨(Q : Int), (R : Int)⟩ : Pl)])) := k1
        have HK7 : Hid (∀ B, KeepsFrom B W (w7.setCell ⟨u2.heap.size, 0, none⟩ (.slice (some ⟨g7, 0, none⟩) ((D).length + 1) cap7))) := fun B => (HK5.out B).trans (k2.from B)
        have HBW7 : Hid (Below w.heap.size W (w7.setCell ⟨u2.heap.size, 0, none⟩ (.slice (some ⟨g7, 0, none⟩) ((D).length + 1) cap7))) := HBW5.out.trans k4
        clear k1 k2 k3 k4 k5 hown' hgrow))
    have hk7 := HK7.out
    have hb7 := HBW7.out
    have h9 := HD7.out
    (try simp only [List.length_append, List.length_cons, List.length_nil, Nat.zero_add] at hk7 hb7 h9)
    refine ⟨hk7 _, ⟨hb7, fun o ho => by rw [HC.out.b3] at ho; cases ho; exact h9.b3⟩, ?_⟩
    dsimp only
    rw [List.flatMap_append, List.flatMap_singleton, HDD.out, HDN.out]
    simp only [List.nil_append] at h9 ⊢
    exact h9
 case done =>
  rintro D ys' W hD rfl hC hK
  obtain ⟨v, hv, hrow⟩ := hC.row
  have hcv : W.cell? ⟨u2.heap.size, 0, none⟩ = some v := Boxed.cell (t := 40) hv
  rw [df_all] at hrow
  have HRW : Hid (W.ownsRow w.heap.size 45 2 v (dfL xs ys ms ns L p N).length (flatP (dfL xs ys ms ns L p N))) := hrow
  have HBL : Hid (Below w.heap.size w W) := hC.bel
  have HKD : Hid (W.heap[D]? = some (.deferred (some []))) := hK
  have hD9 : w.heap.size ≤ D := by have := HB2.out.size; simp at hD; omega
  clear hrow hC hK hv
  go_wp2
  refine ⟨by simp, .inl ⟨_, _, rfl, run_takeDeferred HKD.out, ?_⟩⟩
  refine ⟨.tuple #[v, .int .i64 0], by simp [results, Tryd.results9, go_sem], v, rfl, ownsRow_putObj HRW.out _ HKD.out rfl, ?_⟩
  exact HBL.out.trans (belowK_b (w := w) (Nat.le_refl _) W D _ _ hD9 HKD.out rfl rfl)
 case stop =>
  rintro D c pre W _ _ h _
  exact h.elim
end Go.Proofs.YtnmnhgagnfodhaaDoor
