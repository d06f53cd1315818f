/-
  SEAT Ytnopljjngbgpdaa: the reference's Diff.
-/
import Derived.Test.YtnopljjngbgpdaaDi
import Derived.Test.YtnopljjngbgpdaaL
import Derived.Test.YtnopljjngbgpdaaGa
namespace Go.Proofs.Ytnopljjngbgpdaa
open Go.RowKit Go.Shelf
set_option linter.unusedVariables false

/-- Where the pages of a block differ, the first j of them. -/
def dgJ (xs ys : List Int) (L p i j : Nat) : List Pl := (List.range j).flatMap fun k => if pgK xs L (i * p + k) = pgK ys L (i * p + k) then [] else [⟨(i : Int), (k : Int)⟩]
def dgM (ms ns : List Bool) (i : Nat) : List Pl := if ms.getD i false ≠ ns.getD i false then [⟨(i : Int), -1⟩] else []
theorem dgJ_succ (xs ys : List Int) (L p i j : Nat) : dgJ xs ys L p i (j + 1) = dgJ xs ys L p i j ++ if pgK xs L (i * p + j) = pgK ys L (i * p + j) then [] else [⟨(i : Int), (j : Int)⟩] := by
  unfold dgJ
  rw [List.range_succ, List.flatMap_append, List.flatMap_singleton]
theorem dgJ_len (xs ys : List Int) (L p i : Nat) : ∀ j, (dgJ xs ys L p i j).length ≤ j
  | 0 => by simp [dgJ]
  | j + 1 => by
    have := dgJ_len xs ys L p i j
    rw [dgJ_succ, List.length_append]
    split <;> simp <;> omega
theorem dfN_at (xs ys : List Int) (ms ns : List Bool) (L p i j : Nat) (hj : j < p) : dfN xs ys ms ns L p (i * p + j) = (if j = 0 then dgM ms ns i else []) ++ if pgK xs L (i * p + j) = pgK ys L (i * p + j) then [] else [⟨(i : Int), (j : Int)⟩] := by
  have e1 : (i * p + j) / p = i := by
    rw [Nat.mul_comm, Nat.mul_add_div (by omega), Nat.div_eq_of_lt hj, Nat.add_zero]
  have e2 : (i * p + j) % p = j := by
    rw [Nat.mul_comm, Nat.mul_add_mod, Nat.mod_eq_of_lt hj]
  unfold dfN dgM
  rw [e1, e2]
  congr 1
  by_cases h0 : j = 0
  · rw [if_pos h0]
    by_cases h1 : ms.getD i false ≠ ns.getD i false
    · rw [if_pos h1, if_pos ⟨h0, h1⟩]
    · rw [if_neg h1, if_neg (fun h => h1 h.2)]
  · rw [if_neg h0, if_neg (fun h => h0 h.1)]
theorem df_row (xs ys : List Int) (ms ns : List Bool) (L p i : Nat) : ∀ j, j ≤ p → ((List.range j).flatMap fun k => dfN xs ys ms ns L p (i * p + k)) = if j = 0 then [] else dgM ms ns i ++ dgJ xs ys L p i j
  | 0, _ => by simp
  | j + 1, hj => by
    rw [List.range_succ, List.flatMap_append, List.flatMap_singleton, df_row xs ys ms ns L p i j (by omega), dfN_at _ _ _ _ _ _ _ _ (by omega), dgJ_succ]
    by_cases h0 : j = 0
    · subst h0
      simp [dgJ]
    · simp [h0]
theorem df_add (xs ys : List Int) (ms ns : List Bool) (L p a c : Nat) : dfL xs ys ms ns L p (a + c) = dfL xs ys ms ns L p a ++ (List.range c).flatMap fun k => dfN xs ys ms ns L p (a + k) := by
  unfold dfL
  rw [List.range_add, List.flatMap_append, List.flatMap_map]
theorem df_block (xs ys : List Int) (ms ns : List Bool) (L p i : Nat) (hp : 0 < p) : dfL xs ys ms ns L p ((i + 1) * p) = dfL xs ys ms ns L p (i * p) ++ (dgM ms ns i ++ dgJ xs ys L p i p) := by
  rw [Nat.succ_mul, df_add, df_row _ _ _ _ _ _ _ _ (Nat.le_refl p), if_neg (by omega)]
theorem dfL_len (xs ys : List Int) (ms ns : List Bool) (L p : Nat) : ∀ N, (dfL xs ys ms ns L p N).length ≤ 2 * N
  | 0 => by simp [dfL]
  | N + 1 => by
    have h1 := dfL_len xs ys ms ns L p N
    have h2 := dfN_len xs ys ms ns L p N
    have e : dfL xs ys ms ns L p (N + 1) = dfL xs ys ms ns L p N ++ dfN xs ys ms ns L p N := by unfold dfL; rw [List.range_succ, List.flatMap_append, List.flatMap_singleton]
    rw [e, List.length_append]
    omega
theorem dgM_len (ms ns : List Bool) (i : Nat) : (dgM ms ns i).length ≤ 1 := by unfold dgM; split <;> simp
/-- What stands in the reference's loops. -/
structure Rfd (w W : World) (b p s bk off n c mb mo m c' bk2 off2 c2 mb2 mo2 c2' : Nat) (v : Value) (D : List Pl) : Prop where
  row : W.ownsRow w.heap.size 38 2 v D.length (flatP D)
  b1 : W.heap[w.heap.size]? = some (.cells #[.int .i64 (b : Int), .int .i64 (p : Int), .int .i64 (s : Int), .slice (some ⟨bk, off, none⟩) n c, .slice (some ⟨mb, mo, none⟩) m c'] 27 (0, 0))
  b2 : W.heap[w.heap.size + 1]? = some (.cells #[.int .i64 (b : Int), .int .i64 (p : Int), .int .i64 (s : Int), .slice (some ⟨bk2, off2, none⟩) n c2, .slice (some ⟨mb2, mo2, none⟩) m c2'] 27 (0, 0))
  bel : Below w.heap.size w W
theorem Rfd.below {w W X : World} {b p s bk off n c mb mo m c' bk2 off2 c2 mb2 mo2 c2' : Nat} {v : Value} {D : List Pl} (h : Rfd w W b p s bk off n c mb mo m c' bk2 off2 c2 mb2 mo2 c2' v D) (hb : Below W.heap.size W X) : Rfd w X b p s bk off n c mb mo m c' bk2 off2 c2 mb2 mo2 c2' v D :=
  ⟨ownsRow_below h.row hb, (hb.block _ (lt_of_b h.b1)).trans h.b1, (hb.block _ (lt_of_b h.b2)).trans h.b2, below_trans h.bel hb⟩
theorem Rfd.app {w W w1 : World} {b p s bk off n c mb mo m c' bk2 off2 c2 mb2 mo2 c2' : Nat} {v v1 : Value} {D : List Pl} (h : Rfd w W b p s bk off n c mb mo m c' bk2 off2 c2 mb2 mo2 c2' v D) {tmp : Obj} (pl : Pl) (hown : w1.ownsRow w.heap.size 38 2 v1 (D.length + 1) (flatP D ++ [.int .i64 pl.x, .int .i64 pl.y])) (hg : (W.alloc tmp).grownBy w1 v.ownBlock) : Rfd w w1 b p s bk off n c mb mo m c' bk2 off2 c2 mb2 mo2 c2' v1 (D ++ [pl]) := by
  have kb : ∀ (i : Nat) (cs : Array Value), W.heap[i]? = some (.cells cs 27 (0, 0)) → w1.heap[i]? = some (.cells cs 27 (0, 0)) := fun i cs hi => by
    refine (hg.block i (by have := lt_of_b hi; simp; omega) (fun e => ?_)).trans ((Below.heap_alloc _ _ _ (lt_of_b hi)).trans hi)
    rcases h.row.2 with ⟨rfl, _⟩ | ⟨g, cap, cur, rfl, _, hg', _⟩
    · cases e
    · injection e with e
      change i = g at e
      subst e
      rw [hg'] at hi
      cases hi
  refine ⟨by rw [flatP_snoc, List.length_append]; exact hown, kb _ _ h.b1, kb _ _ h.b2, ?_⟩
  refine (h.bel.alloc h.bel.size tmp).grown hg (by have := h.bel.size; simp; omega) (fun k e => (h.row.lt k e).1)


/-- A row of its own, read. -/
theorem own_reads {W : World} {B n : Nat} {v : Value} {zs : List Int} (h : W.ownsRow B 5 1 v n (zs.map (Value.int .u8))) {xs : List Int} (hb : ∀ x ∈ xs, 0 ≤ x ∧ x ≤ 255) (hs : ∀ x ∈ zs, x ∈ xs := by exact fun x hx => List.mem_of_mem_drop (List.mem_of_mem_take hx)) : ∃ a c, v = .slice a n c ∧ Reads W a n zs := by
  have hby : ∀ x ∈ zs, 0 ≤ x ∧ x ≤ 255 := fun x hx => hb x (hs x hx)
  have hl : zs.length = n := by have := h.1; simpa using this
  rcases h.2 with ⟨rfl, h0⟩ | ⟨g, cap, cur, rfl, r⟩
  · subst h0
    exact ⟨none, 0, rfl, hl, hby, fun _ => rfl, fun x hx => by cases hx⟩
  · exact ⟨some ⟨g, 0, none⟩, cap, rfl, Own.all (B := B) ⟨h.1, Or.inr ⟨g, cap, cur, rfl, r⟩⟩ hby⟩

set_option maxHeartbeats 8000000 in
set_option maxRecDepth 100000 in
theorem rdiff_ok (b p s bk off n c : Nat) (a' : Option Addr) (m c' : Nat) (bk2 off2 c2 : Nat) (a2' : Option Addr) (c2' : Nat) (xs ys : List Int) (ms ns : List Bool) (N L : Nat) (w : World) (hf : Fits (b : Int) (p : Int) (s : Int) = true) (hE : chkE (b : Int) (p : Int) (s : Int) n m = 0) (hN : b * p = N) (hL : 256 * s + (54 + 3 * s) = L) (hn : n = N * L) (hm : m = b) (hx : Reads w (some ⟨bk, off, none⟩) n xs) (hy : Reads w (some ⟨bk2, off2, none⟩) n ys) (hms : ReadsB w a' m ms) (hns : ReadsB w a2' m ns) :
    Calls Try.prog 15 #[.agg #[.int .i64 (b : Int), .int .i64 (p : Int), .int .i64 (s : Int), .slice (some ⟨bk, off, none⟩) n c, .slice a' m c'], .agg #[.int .i64 (b : Int), .int .i64 (p : Int), .int .i64 (s : Int), .slice (some ⟨bk2, off2, none⟩) n c2, .slice a2' m c2']] w fun e w' => ∃ v, e = .returned (.tuple #[v, .int .i64 0]) ∧ w'.ownsRow w.heap.size 38 2 v (dfL xs ys ms ns L p N).length (flatP (dfL xs ys ms ns L p N)) ∧ Below w.heap.size w w' := by
  obtain ⟨q1, q2, q3, q4, q5, q6, q7⟩ := fits_nat hf
  have hNb : N ≤ 65536 := by omega
  have hLb : L ≤ 2200 := by omega
  have hnb : n ≤ 144179200 := by rw [hn]; exact Nat.mul_le_mul hNb hLb
  have hmb : m ≤ 4096 := by omega
  obtain ⟨mb, mo, rfl, hmk, hmc⟩ := hms.pos (by omega)
  obtain ⟨mb2, mo2, rfl, hmk2, hmc2⟩ := hns.pos (by omega)
  have HMC : Hid (∀ i, i < m → w.cell? ⟨mb, mo + i, none⟩ = some (.bool (ms.getD i false))) := hmc
  have HMC2 : Hid (∀ i, i < m → w.cell? ⟨mb2, mo2 + i, none⟩ = some (.bool (ns.getD i false))) := hmc2
  have HML : Hid (mb < w.heap.size ∧ mb2 < w.heap.size) := ⟨hmk, hmk2⟩
  have HE : Hid (chkE (b : Int) (p : Int) (s : Int) n m = 0) := hE
  have HX : Hid (Reads w (some ⟨bk, off, none⟩) n xs) := hx
  have HY : Hid (Reads w (some ⟨bk2, off2, none⟩) n ys) := hy
  have HN : Hid (b * p = N) := hN
  have HL : Hid (256 * s + (54 + 3 * s) = L) := hL
  have HLs : Hid ((L : Int) = 256 * (s : Int) + (54 + 3 * (s : Int))) := by unfold Hid; omega
  have Hn : Hid (n = N * L) := hn
  have Hm : Hid (m = b) := hm
  obtain ⟨i0, hi0, hz0, hz1, hz2⟩ := info_parts info38
  have hw1 : ((w.alloc (.cells #[.int .i64 (b : Int), .int .i64 (p : Int), .int .i64 (s : Int), .slice (some ⟨bk, off, none⟩) n c, .slice (some ⟨mb, mo, none⟩) m c'] 27)).alloc (.cells #[.int .i64 (b : Int), .int .i64 (p : Int), .int .i64 (s : Int), .slice (some ⟨bk2, off2, none⟩) n c2, .slice (some ⟨mb2, mo2, none⟩) m c2'] 27)).heap[w.heap.size]? = some (.cells #[.int .i64 (b : Int), .int .i64 (p : Int), .int .i64 (s : Int), .slice (some ⟨bk, off, none⟩) n c, .slice (some ⟨mb, mo, none⟩) m c'] 27 (0, 0)) := (Below.heap_alloc _ _ _ (by simp)).trans (heap_alloc_new w _)
  have hw2 : ((w.alloc (.cells #[.int .i64 (b : Int), .int .i64 (p : Int), .int .i64 (s : Int), .slice (some ⟨bk, off, none⟩) n c, .slice (some ⟨mb, mo, none⟩) m c'] 27)).alloc (.cells #[.int .i64 (b : Int), .int .i64 (p : Int), .int .i64 (s : Int), .slice (some ⟨bk2, off2, none⟩) n c2, .slice (some ⟨mb2, mo2, none⟩) m c2'] 27)).heap[w.heap.size + 1]? = some (.cells #[.int .i64 (b : Int), .int .i64 (p : Int), .int .i64 (s : Int), .slice (some ⟨bk2, off2, none⟩) n c2, .slice (some ⟨mb2, mo2, none⟩) m c2'] 27 (0, 0)) := by
    have h9 := heap_alloc_new (w.alloc (.cells #[.int .i64 (b : Int), .int .i64 (p : Int), .int .i64 (s : Int), .slice (some ⟨bk, off, none⟩) n c, .slice (some ⟨mb, mo, none⟩) m c'] 27)) (.cells #[.int .i64 (b : Int), .int .i64 (p : Int), .int .i64 (s : Int), .slice (some ⟨bk2, off2, none⟩) n c2, .slice (some ⟨mb2, mo2, none⟩) m c2'] 27); rw [World.size_alloc] at h9; exact h9
  have HR0 : Hid (Rfd w ((w.alloc (.cells #[.int .i64 (b : Int), .int .i64 (p : Int), .int .i64 (s : Int), .slice (some ⟨bk, off, none⟩) n c, .slice (some ⟨mb, mo, none⟩) m c'] 27)).alloc (.cells #[.int .i64 (b : Int), .int .i64 (p : Int), .int .i64 (s : Int), .slice (some ⟨bk2, off2, none⟩) n c2, .slice (some ⟨mb2, mo2, none⟩) m c2'] 27)) b p s bk off n c mb mo m c' bk2 off2 c2 mb2 mo2 c2' (.slice none 0 0) ([])) := ⟨World.ownsRow_nil _ _ _ _, hw1, hw2, below_trans (below_alloc w _) (below_alloc _ _)⟩
  obtain ⟨c0, c1, cz2, c3, c4⟩ := cells5 hw1
  obtain ⟨d0, d1, d2, d3, d4⟩ := cells5 hw2
  have T1 : Hid True := trivial
  clear hE hx hy hms hns hf hN hL hn hm q7 hmk hmk2 hmc hmc2 hw1 hw2
  go_enter Try.func15, Try.ntmps15
  go_upto_region 8 with (first
    | (go_at_call 9; have zz := T1; clear T1 zz; refine (rcheck_any b p s _ _ n _ m _ _ (by omega) (by omega)).mono ?_; rintro e u1 ⟨rfl, b1⟩; rw [HE.out]
       have HR1 : Hid (Rfd w u1 b p s bk off n c mb mo m c' bk2 off2 c2 mb2 mo2 c2' (.slice none 0 0) ([])) := HR0.out.below b1
       clear b1 c0 c1 cz2 c3 c4 d0 d1 d2 d3 d4
       obtain ⟨c0, c1, cz2, c3, c4⟩ := cells5 HR1.out.b1
       obtain ⟨d0, d1, d2, d3, d4⟩ := cells5 HR1.out.b2)
    | (go_at_call 9; refine (rcheck_any b p s _ _ n _ m _ _ (by omega) (by omega)).mono ?_; rintro e u2 ⟨rfl, b2⟩; rw [HE.out]
       have HR2 : Hid (Rfd w u2 b p s bk off n c mb mo m c' bk2 off2 c2 mb2 mo2 c2' (.slice none 0 0) ([])) := HR1.out.below b2
       clear b2 c0 c1 cz2 c3 c4 d0 d1 d2 d3 d4
       obtain ⟨c0, c1, cz2, c3, c4⟩ := cells5 HR2.out.b1
       obtain ⟨d0, d1, d2, d3, d4⟩ := cells5 HR2.out.b2))
  clear c0 c1 cz2 c3 c4 d0 d1 d2 d3 d4
  go_wp2_with fail
  go_loopw [7, 8] (fun s7 s8 wr => ∃ i : Nat, i ≤ b ∧ s8 = .int .i64 (i : Int) ∧ Hid (Rfd w wr b p s bk off n c mb mo m c' bk2 off2 c2 mb2 mo2 c2' s7 (dfL xs ys ms ns L p (i * p)))) (fun _ i _ => b - (intOf i).toNat)
  case atStart => exact ⟨0, by omega, rfl, by unfold Hid; rw [Nat.zero_mul]; exact HR2.out⟩
  case round =>
    obtain ⟨i, hi, rfl, HRO⟩ := hrel
    obtain ⟨c0, c1, cz2, c3, c4⟩ := cells5 HRO.out.b1
    obtain ⟨d0, d1, d2, d3, d4⟩ := cells5 HRO.out.b2
    by_cases hc : i < b
    · have dc : (i : Int) < (b : Int) := by omega
      have dcm : (i : Int) < (m : Int) := by have := Hm.out; omega
      have wi : IntKind.i64.wrap ((i : Int) + 1) = (i : Int) + 1 := by rw [IntKind.wrap_i64]; omega
      have hm1 := HMC.out i (by have := Hm.out; omega)
      have hm2 := HMC2.out i (by have := Hm.out; omega)
      obtain ⟨D0, hD0⟩ : ∃ D0, D0 = dfL xs ys ms ns L p (i * p) := ⟨_, rfl⟩
      have HRD : Hid (Rfd w wr.drew b p s bk off n c mb mo m c' bk2 off2 c2 mb2 mo2 c2' u7 (dfL xs ys ms ns L p (i * p))) := HRO.out.below ⟨rfl, rfl, rfl, Nat.le_refl _, fun _ _ => rfl⟩
      have HDL : Hid ((dfL xs ys ms ns L p (i * p)).length ≤ 300000) := by
        unfold Hid
        have h6 := dfL_len xs ys ms ns L p (i * p)
        have h8 := Nat.mul_le_mul_right p (show i ≤ b by omega)
        rw [HN.out] at h8
        omega
      clear HRO hD0
      cases hg1 : ms.getD i false with
      | false =>
        rw [hg1] at hm1
        cases hg2 : ns.getD i false with
        | false =>
          rw [hg2] at hm2
          have HDG : Hid (dgM ms ns i = []) := by unfold Hid dgM; rw [hg1, hg2]; rfl
          clear hg1 hg2
          go_upto_region 12 with fail
          refine wp_region_held_drew (S := (fun y : World => y.cell? ⟨w.heap.size, 4, none⟩ = some (.slice (some ⟨mb, mo, none⟩) m c') ∧ y.cell? ⟨w.heap.size + 1, 4, none⟩ = some (.slice (some ⟨mb2, mo2, none⟩) m c2') ∧ y.cell? ⟨mb, mo + i, none⟩ = some (.bool false) ∧ y.cell? ⟨mb2, mo2 + i, none⟩ = some (.bool false))) (by kernel_rfl) (⟨(cells5 HRD.out.b1).2.2.2.2, (cells5 HRD.out.b2).2.2.2.2, (HRD.out.bel.cell (p := ⟨mb, mo + i, none⟩) HML.out.1).trans hm1, (HRD.out.bel.cell (p := ⟨mb2, mo2 + i, none⟩) HML.out.2).trans hm2⟩) (fun hHeld => ?_)
          refine wpAnyH_take (i := 0) (oi := { dst := some 35, op := Op.fieldAddr 27 (Operand.tmp 2) 2, type := 0, pos := "ref.go:326", after := #[], guard := none }) (v := ?v0rm1) rfl (by kernel_rfl) (by kernel_rfl) (by kernel_rfl) (fun _ _ _ h => h) (Or.inl ⟨by rfl, ?y0rm1⟩) (by assumption) ?r0rm1
          case y0rm1 => (intro x hx; (try dsimp only at hx); go_simp; try with_reducible rfl)
          try simp only [Act.put, List.setIfInBounds_toArray, List.set_cons_zero, List.set_cons_succ]
          refine wpAnyH_take (i := 1) (oi := { dst := some 36, op := Op.load 25 (Operand.tmp 35), type := 25, pos := "ref.go:326", after := #[{ on := 0, ground := Ground.data }], guard := none }) (v := ?v1rm1) rfl (by kernel_rfl) (by kernel_rfl) (by kernel_rfl) (fun _ _ _ h => h) (Or.inl ⟨by rfl, ?y1rm1⟩) (by assumption) ?r1rm1
          case y1rm1 => (intro x hx; (try dsimp only at hx); go_simp; try with_reducible rfl)
          try simp only [Act.put, List.setIfInBounds_toArray, List.set_cons_zero, List.set_cons_succ]
          refine wpAnyH_take (i := 2) (oi := { dst := some 37, op := Op.move (Operand.tmp 8), type := 3, pos := "ref.go:326", after := #[], guard := none }) (v := ?v2rm1) rfl (by kernel_rfl) (by kernel_rfl) (by kernel_rfl) (fun _ _ _ h => h) (Or.inl ⟨by rfl, ?y2rm1⟩) (by assumption) ?r2rm1
          case y2rm1 => (intro x hx; (try dsimp only at hx); go_simp; try with_reducible rfl)
          try simp only [Act.put, List.setIfInBounds_toArray, List.set_cons_zero, List.set_cons_succ]
          refine wpAnyH_take (i := 3) (oi := { dst := some 38, op := Op.indexAddr 25 (Operand.tmp 36) (Operand.tmp 37), type := 0, pos := "ref.go:326", after := #[{ on := 1, ground := Ground.data }, { on := 2, ground := Ground.data }], guard := none }) (v := ?v3rm1) rfl (by kernel_rfl) (by kernel_rfl) (by kernel_rfl) (fun _ _ _ h => h) (Or.inl ⟨by rfl, ?y3rm1⟩) (by assumption) ?r3rm1
          case y3rm1 => (intro x hx; (try dsimp only at hx); go_simp; try with_reducible rfl)
          try simp only [Act.put, List.setIfInBounds_toArray, List.set_cons_zero, List.set_cons_succ]
          refine wpAnyH_take (i := 4) (oi := { dst := some 39, op := Op.load 4 (Operand.tmp 38), type := 4, pos := "ref.go:326", after := #[{ on := 3, ground := Ground.data }], guard := none }) (v := ?v4rm1) rfl (by kernel_rfl) (by kernel_rfl) (by kernel_rfl) (fun _ _ _ h => h) (Or.inl ⟨by rfl, ?y4rm1⟩) (by assumption) ?r4rm1
          case y4rm1 => (intro x hx; (try dsimp only at hx); go_simp; try with_reducible rfl)
          try simp only [Act.put, List.setIfInBounds_toArray, List.set_cons_zero, List.set_cons_succ]
          refine wpAnyH_take (i := 5) (oi := { dst := some 40, op := Op.fieldAddr 27 (Operand.tmp 3) 2, type := 0, pos := "ref.go:326", after := #[], guard := none }) (v := ?v5rm1) rfl (by kernel_rfl) (by kernel_rfl) (by kernel_rfl) (fun _ _ _ h => h) (Or.inl ⟨by rfl, ?y5rm1⟩) (by assumption) ?r5rm1
          case y5rm1 => (intro x hx; (try dsimp only at hx); go_simp; try with_reducible rfl)
          try simp only [Act.put, List.setIfInBounds_toArray, List.set_cons_zero, List.set_cons_succ]
          refine wpAnyH_take (i := 6) (oi := { dst := some 41, op := Op.load 25 (Operand.tmp 40), type := 25, pos := "ref.go:326", after := #[{ on := 5, ground := Ground.data }], guard := none }) (v := ?v6rm1) rfl (by kernel_rfl) (by kernel_rfl) (by kernel_rfl) (fun _ _ _ h => h) (Or.inl ⟨by rfl, ?y6rm1⟩) (by assumption) ?r6rm1
          case y6rm1 => (intro x hx; (try dsimp only at hx); go_simp; try with_reducible rfl)
          try simp only [Act.put, List.setIfInBounds_toArray, List.set_cons_zero, List.set_cons_succ]
          refine wpAnyH_take (i := 7) (oi := { dst := some 42, op := Op.move (Operand.tmp 8), type := 3, pos := "ref.go:326", after := #[], guard := none }) (v := ?v7rm1) rfl (by kernel_rfl) (by kernel_rfl) (by kernel_rfl) (fun _ _ _ h => h) (Or.inl ⟨by rfl, ?y7rm1⟩) (by assumption) ?r7rm1
          case y7rm1 => (intro x hx; (try dsimp only at hx); go_simp; try with_reducible rfl)
          try simp only [Act.put, List.setIfInBounds_toArray, List.set_cons_zero, List.set_cons_succ]
          refine wpAnyH_take (i := 8) (oi := { dst := some 43, op := Op.indexAddr 25 (Operand.tmp 41) (Operand.tmp 42), type := 0, pos := "ref.go:326", after := #[{ on := 6, ground := Ground.data }, { on := 7, ground := Ground.data }], guard := none }) (v := ?v8rm1) rfl (by kernel_rfl) (by kernel_rfl) (by kernel_rfl) (fun _ _ _ h => h) (Or.inl ⟨by rfl, ?y8rm1⟩) (by assumption) ?r8rm1
          case y8rm1 => (intro x hx; (try dsimp only at hx); go_simp; try with_reducible rfl)
          try simp only [Act.put, List.setIfInBounds_toArray, List.set_cons_zero, List.set_cons_succ]
          refine wpAnyH_take (i := 9) (oi := { dst := some 44, op := Op.load 4 (Operand.tmp 43), type := 4, pos := "ref.go:326", after := #[{ on := 8, ground := Ground.data }], guard := none }) (v := ?v9rm1) rfl (by kernel_rfl) (by kernel_rfl) (by kernel_rfl) (fun _ _ _ h => h) (Or.inl ⟨by rfl, ?y9rm1⟩) (by assumption) ?r9rm1
          case y9rm1 => (intro x hx; (try dsimp only at hx); go_simp; try with_reducible rfl)
          try simp only [Act.put, List.setIfInBounds_toArray, List.set_cons_zero, List.set_cons_succ]
          refine wpAnyH_take (i := 10) (oi := { dst := some 45, op := Op.binOp BinOp.neq 4 (Operand.tmp 39) (Operand.tmp 44) 4, type := 4, pos := "ref.go:326", after := #[{ on := 4, ground := Ground.data }, { on := 9, ground := Ground.data }], guard := none }) (v := ?v10rm1) rfl (by kernel_rfl) (by kernel_rfl) (by kernel_rfl) (fun _ _ _ h => h) (Or.inl ⟨by rfl, ?y10rm1⟩) (by assumption) ?r10rm1
          case y10rm1 => (intro x hx; (try dsimp only at hx); go_simp; try with_reducible rfl)
          try simp only [Act.put, List.setIfInBounds_toArray, List.set_cons_zero, List.set_cons_succ]
          refine wpAnyH_done (by kernel_rfl) ?_ _
          clear hm1 hm2
          go_wp2_with fail
          clear c0 c1 cz2 c3 c4 d0 d1 d2 d3 d4
          go_loopw [7, 9] (fun s7 s9 wr => ∃ j : Nat, j ≤ p ∧ s9 = .int .i64 (j : Int) ∧ Hid (Rfd w wr b p s bk off n c mb mo m c' bk2 off2 c2 mb2 mo2 c2' s7 (dfL xs ys ms ns L p (i * p) ++ (dgM ms ns i ++ dgJ xs ys L p i j)))) (fun _ j _ => p - (intOf j).toNat)
          case atStart =>
            refine ⟨0, by omega, rfl, ?_⟩
            have h9 := HRD.out
            unfold Hid
            rw [show dgJ xs ys L p i 0 = [] by simp [dgJ], List.append_nil, HDG.out]
            rw [List.append_nil]; exact h9
          case round =>
            obtain ⟨j, hj, rfl, HRI⟩ := hrel
            obtain ⟨c0, c1, cz2, c3, c4⟩ := cells5 HRI.out.b1
            by_cases hcj : j < p
            · have dcj : (j : Int) < (p : Int) := by omega
              have wj : IntKind.i64.wrap ((j : Int) + 1) = (j : Int) + 1 := by rw [IntKind.wrap_i64]; omega
              obtain ⟨k, hk⟩ : ∃ k, i * p + j = k := ⟨_, rfl⟩
              have HKK : Hid (i * p + j = k) := hk
              obtain ⟨ip, hip⟩ : ∃ ip, i * p = ip := ⟨_, rfl⟩
              have hkN : k < N := by
                have h8 := Nat.mul_le_mul_right p (show i + 1 ≤ b by omega)
                rw [Nat.succ_mul, HN.out] at h8
                omega
              have wip : IntKind.i64.wrap ((i : Int) * (p : Int)) = (ip : Int) := by rw [← Int.natCast_mul, hip, IntKind.wrap_i64]; omega
              have wk : IntKind.i64.wrap ((ip : Int) + (j : Int)) = (k : Int) := by rw [IntKind.wrap_i64]; omega
              have HKL : Hid ((k + 1) * L ≤ n) := by unfold Hid; rw [Hn.out]; exact Nat.mul_le_mul_right L hkN
              obtain ⟨D9, hD9⟩ : ∃ D9, D9 = dfL xs ys ms ns L p (i * p) ++ (dgM ms ns i ++ dgJ xs ys L p i j) := ⟨_, rfl⟩
              have HD9 : Hid (D9 = dfL xs ys ms ns L p (i * p) ++ (dgM ms ns i ++ dgJ xs ys L p i j)) := hD9
              have HDL : Hid (D9.length ≤ 300000) := by
                unfold Hid
                have h6 := dfL_len xs ys ms ns L p (i * p)
                have h7 := dgM_len ms ns i
                have h8 := dgJ_len xs ys L p i j
                rw [hD9, List.length_append, List.length_append]
                omega
              have HSD : Hid (Rfd w wr.drew b p s bk off n c mb mo m c' bk2 off2 c2 mb2 mo2 c2' u7 (D9)) := by
                unfold Hid
                rw [hD9]
                exact HRI.out.below ⟨rfl, rfl, rfl, Nat.le_refl _, fun _ _ => rfl⟩
              clear hk hip hD9 HRI
              by_cases hpg : pgK xs L k = pgK ys L k
              · have HDE : Hid (decide (pgK xs L k = pgK ys L k) = true) := decide_eq_true hpg
                go_upto_region 17 with fail
                refine wp_region_held_drew (S := (fun y : World => (y.cell? ⟨w.heap.size, 0, none⟩ = some (.int .i64 (b : Int)) ∧ y.cell? ⟨w.heap.size, 1, none⟩ = some (.int .i64 (p : Int)) ∧ y.cell? ⟨w.heap.size, 2, none⟩ = some (.int .i64 (s : Int)) ∧ y.cell? ⟨w.heap.size, 3, none⟩ = some (.slice (some ⟨bk, off, none⟩) n c) ∧ y.cell? ⟨w.heap.size, 4, none⟩ = some (.slice (some ⟨mb, mo, none⟩) m c')) ∧ (y.cell? ⟨w.heap.size + 1, 0, none⟩ = some (.int .i64 (b : Int)) ∧ y.cell? ⟨w.heap.size + 1, 1, none⟩ = some (.int .i64 (p : Int)) ∧ y.cell? ⟨w.heap.size + 1, 2, none⟩ = some (.int .i64 (s : Int)) ∧ y.cell? ⟨w.heap.size + 1, 3, none⟩ = some (.slice (some ⟨bk2, off2, none⟩) n c2) ∧ y.cell? ⟨w.heap.size + 1, 4, none⟩ = some (.slice (some ⟨mb2, mo2, none⟩) m c2')))) (by kernel_rfl) (And.intro (cells5 HSD.out.b1) (cells5 HSD.out.b2)) (fun hHeld => ?_)
                refine wpAnyH_take (i := 0) (oi := { dst := some 58, op := Op.load 27 (Operand.tmp 2), type := 27, pos := "ref.go:330", after := #[], guard := none }) (v := ?v0rp2) rfl (by kernel_rfl) (by kernel_rfl) (by kernel_rfl) (fun _ _ _ h => h) (Or.inl ⟨by rfl, ?y0rp2⟩) (by assumption) ?r0rp2
                case y0rp2 => (intro x hx; (try dsimp only at hx); go_simp; try with_reducible rfl)
                try simp only [Act.put, List.setIfInBounds_toArray, List.set_cons_zero, List.set_cons_succ]
                refine wpAnyH_take (i := 1) (oi := { dst := some 59, op := Op.move (Operand.tmp 8), type := 3, pos := "ref.go:330", after := #[], guard := none }) (v := ?v1rp2) rfl (by kernel_rfl) (by kernel_rfl) (by kernel_rfl) (fun _ _ _ h => h) (Or.inl ⟨by rfl, ?y1rp2⟩) (by assumption) ?r1rp2
                case y1rp2 => (intro x hx; (try dsimp only at hx); go_simp; try with_reducible rfl)
                try simp only [Act.put, List.setIfInBounds_toArray, List.set_cons_zero, List.set_cons_succ]
                refine wpAnyH_take (i := 2) (oi := { dst := some 60, op := Op.fieldAddr 27 (Operand.tmp 2) 0, type := 0, pos := "ref.go:330", after := #[], guard := none }) (v := ?v2rp2) rfl (by kernel_rfl) (by kernel_rfl) (by kernel_rfl) (fun _ _ _ h => h) (Or.inl ⟨by rfl, ?y2rp2⟩) (by assumption) ?r2rp2
                case y2rp2 => (intro x hx; (try dsimp only at hx); go_simp; try with_reducible rfl)
                try simp only [Act.put, List.setIfInBounds_toArray, List.set_cons_zero, List.set_cons_succ]
                refine wpAnyH_take (i := 3) (oi := { dst := some 61, op := Op.fieldAddr 23 (Operand.tmp 60) 1, type := 0, pos := "ref.go:330", after := #[{ on := 2, ground := Ground.data }], guard := none }) (v := ?v3rp2) rfl (by kernel_rfl) (by kernel_rfl) (by kernel_rfl) (fun _ _ _ h => h) (Or.inl ⟨by rfl, ?y3rp2⟩) (by assumption) ?r3rp2
                case y3rp2 => (intro x hx; (try dsimp only at hx); go_simp; try with_reducible rfl)
                try simp only [Act.put, List.setIfInBounds_toArray, List.set_cons_zero, List.set_cons_succ]
                refine wpAnyH_take (i := 4) (oi := { dst := some 62, op := Op.load 3 (Operand.tmp 61), type := 3, pos := "ref.go:330", after := #[{ on := 3, ground := Ground.data }], guard := none }) (v := ?v4rp2) rfl (by kernel_rfl) (by kernel_rfl) (by kernel_rfl) (fun _ _ _ h => h) (Or.inl ⟨by rfl, ?y4rp2⟩) (by assumption) ?r4rp2
                case y4rp2 => (intro x hx; (try dsimp only at hx); go_simp; try with_reducible rfl)
                try simp only [Act.put, List.setIfInBounds_toArray, List.set_cons_zero, List.set_cons_succ]
                refine wpAnyH_take (i := 5) (oi := { dst := some 63, op := Op.binOp BinOp.mul 3 (Operand.tmp 59) (Operand.tmp 62) 3, type := 3, pos := "ref.go:330", after := #[{ on := 1, ground := Ground.data }, { on := 4, ground := Ground.data }], guard := none }) (v := ?v5rp2) rfl (by kernel_rfl) (by kernel_rfl) (by kernel_rfl) (fun _ _ _ h => h) (Or.inl ⟨by rfl, ?y5rp2⟩) (by assumption) ?r5rp2
                case y5rp2 => (intro x hx; (try dsimp only at hx); go_simp; try with_reducible rfl)
                try simp only [Act.put, List.setIfInBounds_toArray, List.set_cons_zero, List.set_cons_succ]
                refine wpAnyH_take (i := 6) (oi := { dst := some 64, op := Op.move (Operand.tmp 9), type := 3, pos := "ref.go:330", after := #[], guard := none }) (v := ?v6rp2) rfl (by kernel_rfl) (by kernel_rfl) (by kernel_rfl) (fun _ _ _ h => h) (Or.inl ⟨by rfl, ?y6rp2⟩) (by assumption) ?r6rp2
                case y6rp2 => (intro x hx; (try dsimp only at hx); go_simp; try with_reducible rfl)
                try simp only [Act.put, List.setIfInBounds_toArray, List.set_cons_zero, List.set_cons_succ]
                refine wpAnyH_take (i := 7) (oi := { dst := some 65, op := Op.binOp BinOp.add 3 (Operand.tmp 63) (Operand.tmp 64) 3, type := 3, pos := "ref.go:330", after := #[{ on := 5, ground := Ground.data }, { on := 6, ground := Ground.data }], guard := none }) (v := ?v7rp2) rfl (by kernel_rfl) (by kernel_rfl) (by kernel_rfl) (fun _ _ _ h => h) (Or.inl ⟨by rfl, ?y7rp2⟩) (by assumption) ?r7rp2
                case y7rp2 => (intro x hx; (try dsimp only at hx); go_simp; try with_reducible rfl)
                try simp only [Act.put, List.setIfInBounds_toArray, List.set_cons_zero, List.set_cons_succ]
                refine wpAnyH_take (i := 9) (oi := { dst := some 67, op := Op.load 27 (Operand.tmp 3), type := 27, pos := "ref.go:330", after := #[], guard := none }) (v := ?v9rp2) rfl (by kernel_rfl) (by kernel_rfl) (by kernel_rfl) (fun _ _ _ h => h) (Or.inl ⟨by rfl, ?y9rp2⟩) (by assumption) ?r9rp2
                case y9rp2 => (intro x hx; (try dsimp only at hx); go_simp; try with_reducible rfl)
                try simp only [Act.put, List.setIfInBounds_toArray, List.set_cons_zero, List.set_cons_succ]
                refine wpAnyH_take (i := 10) (oi := { dst := some 68, op := Op.move (Operand.tmp 8), type := 3, pos := "ref.go:330", after := #[], guard := none }) (v := ?v10rp2) rfl (by kernel_rfl) (by kernel_rfl) (by kernel_rfl) (fun _ _ _ h => h) (Or.inl ⟨by rfl, ?y10rp2⟩) (by assumption) ?r10rp2
                case y10rp2 => (intro x hx; (try dsimp only at hx); go_simp; try with_reducible rfl)
                try simp only [Act.put, List.setIfInBounds_toArray, List.set_cons_zero, List.set_cons_succ]
                refine wpAnyH_take (i := 11) (oi := { dst := some 69, op := Op.fieldAddr 27 (Operand.tmp 2) 0, type := 0, pos := "ref.go:330", after := #[], guard := none }) (v := ?v11rp2) rfl (by kernel_rfl) (by kernel_rfl) (by kernel_rfl) (fun _ _ _ h => h) (Or.inl ⟨by rfl, ?y11rp2⟩) (by assumption) ?r11rp2
                case y11rp2 => (intro x hx; (try dsimp only at hx); go_simp; try with_reducible rfl)
                try simp only [Act.put, List.setIfInBounds_toArray, List.set_cons_zero, List.set_cons_succ]
                refine wpAnyH_take (i := 12) (oi := { dst := some 70, op := Op.fieldAddr 23 (Operand.tmp 69) 1, type := 0, pos := "ref.go:330", after := #[{ on := 11, ground := Ground.data }], guard := none }) (v := ?v12rp2) rfl (by kernel_rfl) (by kernel_rfl) (by kernel_rfl) (fun _ _ _ h => h) (Or.inl ⟨by rfl, ?y12rp2⟩) (by assumption) ?r12rp2
                case y12rp2 => (intro x hx; (try dsimp only at hx); go_simp; try with_reducible rfl)
                try simp only [Act.put, List.setIfInBounds_toArray, List.set_cons_zero, List.set_cons_succ]
                refine wpAnyH_take (i := 13) (oi := { dst := some 71, op := Op.load 3 (Operand.tmp 70), type := 3, pos := "ref.go:330", after := #[{ on := 12, ground := Ground.data }], guard := none }) (v := ?v13rp2) rfl (by kernel_rfl) (by kernel_rfl) (by kernel_rfl) (fun _ _ _ h => h) (Or.inl ⟨by rfl, ?y13rp2⟩) (by assumption) ?r13rp2
                case y13rp2 => (intro x hx; (try dsimp only at hx); go_simp; try with_reducible rfl)
                try simp only [Act.put, List.setIfInBounds_toArray, List.set_cons_zero, List.set_cons_succ]
                refine wpAnyH_take (i := 14) (oi := { dst := some 72, op := Op.binOp BinOp.mul 3 (Operand.tmp 68) (Operand.tmp 71) 3, type := 3, pos := "ref.go:330", after := #[{ on := 10, ground := Ground.data }, { on := 13, ground := Ground.data }], guard := none }) (v := ?v14rp2) rfl (by kernel_rfl) (by kernel_rfl) (by kernel_rfl) (fun _ _ _ h => h) (Or.inl ⟨by rfl, ?y14rp2⟩) (by assumption) ?r14rp2
                case y14rp2 => (intro x hx; (try dsimp only at hx); go_simp; try with_reducible rfl)
                try simp only [Act.put, List.setIfInBounds_toArray, List.set_cons_zero, List.set_cons_succ]
                refine wpAnyH_take (i := 15) (oi := { dst := some 73, op := Op.move (Operand.tmp 9), type := 3, pos := "ref.go:330", after := #[], guard := none }) (v := ?v15rp2) rfl (by kernel_rfl) (by kernel_rfl) (by kernel_rfl) (fun _ _ _ h => h) (Or.inl ⟨by rfl, ?y15rp2⟩) (by assumption) ?r15rp2
                case y15rp2 => (intro x hx; (try dsimp only at hx); go_simp; try with_reducible rfl)
                try simp only [Act.put, List.setIfInBounds_toArray, List.set_cons_zero, List.set_cons_succ]
                refine wpAnyH_take (i := 16) (oi := { dst := some 74, op := Op.binOp BinOp.add 3 (Operand.tmp 72) (Operand.tmp 73) 3, type := 3, pos := "ref.go:330", after := #[{ on := 14, ground := Ground.data }, { on := 15, ground := Ground.data }], guard := none }) (v := ?v16rp2) rfl (by kernel_rfl) (by kernel_rfl) (by kernel_rfl) (fun _ _ _ h => h) (Or.inl ⟨by rfl, ?y16rp2⟩) (by assumption) ?r16rp2
                case y16rp2 => (intro x hx; (try dsimp only at hx); go_simp; try with_reducible rfl)
                try simp only [Act.put, List.setIfInBounds_toArray, List.set_cons_zero, List.set_cons_succ]
                refine wpAnyH_ready (rs := [8]) (by kernel_rfl) (by simp) ?_
                refine AllReadyH.cons (o := { dst := some 66, op := Op.call { callee := Callee.value (Operand.func 25), args := #[Operand.tmp 58, Operand.tmp 65], argTypes := #[27, 3] }, type := 24, pos := "ref.go:330", after := #[{ on := 0, ground := Ground.data }, { on := 7, ground := Ground.data }], guard := none }) rfl (fun K hK => ?_) AllReadyH.nil
                go_simp
                go_at_call 25
                refine (rpage_any b p s _ _ n _ m _ xs _ k L (k * L) ((k + 1) * L) (by omega) (by omega) (by omega) (HX.out.below HSD.out.bel) HLs.out rfl rfl HKL.out (by omega)).mono ?_
                rintro e u3 ⟨vp, rfl, own3, b3⟩
                obtain ⟨ap, cp, rfl, rp⟩ := own_reads own3 (HX.out.2.1)
                have HS3 : Hid (Rfd w u3 b p s bk off n c mb mo m c' bk2 off2 c2 mb2 mo2 c2' u7 (D9)) := HSD.out.below b3
                have HP3 : Hid (Reads u3 ap L (pgK xs L k)) := rp
                have hSnew := And.intro (cells5 HS3.out.b1) (cells5 HS3.out.b2)
                clear own3 b3 rp
                go_wp2_with fail
                refine hK.out _ _ hSnew (fun hHeld8 => ?_)
                clear hK K hSnew
                clear hHeld
                have hHeld := hHeld8
                clear hHeld8
                try simp only [Act.put, List.setIfInBounds_toArray, List.set_cons_zero, List.set_cons_succ]
                refine wpAnyH_ready (rs := [17]) (by kernel_rfl) (by simp) ?_
                refine AllReadyH.cons (o := { dst := some 75, op := Op.call { callee := Callee.value (Operand.func 25), args := #[Operand.tmp 67, Operand.tmp 74], argTypes := #[27, 3] }, type := 24, pos := "ref.go:330", after := #[{ on := 9, ground := Ground.data }, { on := 16, ground := Ground.data }, { on := 8, ground := Ground.chain }], guard := none }) rfl (fun K hK => ?_) AllReadyH.nil
                go_simp
                go_at_call 25
                refine (rpage_any b p s _ _ n _ m _ ys _ k L (k * L) ((k + 1) * L) (by omega) (by omega) (by omega) (HY.out.below HS3.out.bel) HLs.out rfl rfl HKL.out (by omega)).mono ?_
                rintro e u4 ⟨vq, rfl, own4, b4⟩
                obtain ⟨aq, cq, rfl, rq⟩ := own_reads own4 (HY.out.2.1)
                have HS4 : Hid (Rfd w u4 b p s bk off n c mb mo m c' bk2 off2 c2 mb2 mo2 c2' u7 (D9)) := HS3.out.below b4
                have HP4 : Hid (Reads u4 ap L (pgK xs L k)) := HP3.out.below b4
                have HP5 : Hid (Reads u4 aq L (pgK ys L k)) := rq
                have hSnew := And.intro (cells5 HS4.out.b1) (cells5 HS4.out.b2)
                clear own4 b4 rq
                go_wp2_with fail
                refine hK.out _ _ hSnew (fun hHeld17 => ?_)
                clear hK K hSnew
                clear hHeld
                have hHeld := hHeld17
                clear hHeld17
                try simp only [Act.put, List.setIfInBounds_toArray, List.set_cons_zero, List.set_cons_succ]
                refine wpAnyH_ready (rs := [18]) (by kernel_rfl) (by simp) ?_
                refine AllReadyH.cons (o := { dst := some 76, op := Op.call { callee := Callee.value (Operand.func 30), args := #[Operand.tmp 66, Operand.tmp 75], argTypes := #[24, 24] }, type := 4, pos := "ref.go:330", after := #[{ on := 8, ground := Ground.data }, { on := 17, ground := Ground.data }, { on := 17, ground := Ground.chain }], guard := none }) rfl (fun K hK => ?_) AllReadyH.nil
                go_simp
                go_at_call 30
                refine (rsame_any ap aq L _ _ (pgK xs L k) (pgK ys L k) _ (by omega) HP4.out HP5.out).mono ?_
                rintro e u5 ⟨rfl, q5, hu5⟩
                rw [HDE.out]
                have b5 : Below u4.heap.size u4 u5 := (by rw [hu5]; exact ⟨rfl, rfl, rfl, Nat.le_refl _, fun _ _ => rfl⟩)
                have HS5 : Hid (Rfd w u5 b p s bk off n c mb mo m c' bk2 off2 c2 mb2 mo2 c2' u7 (D9)) := HS4.out.below b5
                have hSnew := And.intro (cells5 HS5.out.b1) (cells5 HS5.out.b2)
                clear hu5 b5
                go_wp2_with fail
                refine hK.out _ _ hSnew (fun hHeld18 => ?_)
                clear hK K hSnew
                clear hHeld
                have hHeld := hHeld18
                clear hHeld18
                try simp only [Act.put, List.setIfInBounds_toArray, List.set_cons_zero, List.set_cons_succ]
                refine wpAnyH_take (i := 19) (oi := { dst := some 77, op := Op.unOp UnOp.not 4 (Operand.tmp 76), type := 4, pos := "ref.go:330", after := #[{ on := 18, ground := Ground.data }], guard := none }) (v := ?v19rp2) rfl (by kernel_rfl) (by kernel_rfl) (by kernel_rfl) (fun _ _ _ h => h) (Or.inl ⟨by rfl, ?y19rp2⟩) (by assumption) ?r19rp2
                case y19rp2 => (intro x hx; (try dsimp only at hx); go_simp; try with_reducible rfl)
                try simp only [Act.put, List.setIfInBounds_toArray, List.set_cons_zero, List.set_cons_succ]
                refine wpAnyH_done (by kernel_rfl) ?_ _
                go_wp2_with fail
                go_roundw
                all_goals first
                  | (refine ⟨j + 1, by omega, by simp, ?_⟩; have h9 := HS5.out; unfold Hid; rw [HD9.out] at h9; rw [dgJ_succ, if_pos (by rw [HKK.out]; exact hpg), List.append_nil]; exact h9)
                  | (simp [intOf]; omega)
              · have HDE : Hid (decide (pgK xs L k = pgK ys L k) = false) := decide_eq_false hpg
                go_upto_region 17 with fail
                refine wp_region_held_drew (S := (fun y : World => (y.cell? ⟨w.heap.size, 0, none⟩ = some (.int .i64 (b : Int)) ∧ y.cell? ⟨w.heap.size, 1, none⟩ = some (.int .i64 (p : Int)) ∧ y.cell? ⟨w.heap.size, 2, none⟩ = some (.int .i64 (s : Int)) ∧ y.cell? ⟨w.heap.size, 3, none⟩ = some (.slice (some ⟨bk, off, none⟩) n c) ∧ y.cell? ⟨w.heap.size, 4, none⟩ = some (.slice (some ⟨mb, mo, none⟩) m c')) ∧ (y.cell? ⟨w.heap.size + 1, 0, none⟩ = some (.int .i64 (b : Int)) ∧ y.cell? ⟨w.heap.size + 1, 1, none⟩ = some (.int .i64 (p : Int)) ∧ y.cell? ⟨w.heap.size + 1, 2, none⟩ = some (.int .i64 (s : Int)) ∧ y.cell? ⟨w.heap.size + 1, 3, none⟩ = some (.slice (some ⟨bk2, off2, none⟩) n c2) ∧ y.cell? ⟨w.heap.size + 1, 4, none⟩ = some (.slice (some ⟨mb2, mo2, none⟩) m c2')))) (by kernel_rfl) (And.intro (cells5 HSD.out.b1) (cells5 HSD.out.b2)) (fun hHeld => ?_)
                refine wpAnyH_take (i := 0) (oi := { dst := some 58, op := Op.load 27 (Operand.tmp 2), type := 27, pos := "ref.go:330", after := #[], guard := none }) (v := ?v0rp3) rfl (by kernel_rfl) (by kernel_rfl) (by kernel_rfl) (fun _ _ _ h => h) (Or.inl ⟨by rfl, ?y0rp3⟩) (by assumption) ?r0rp3
                case y0rp3 => (intro x hx; (try dsimp only at hx); go_simp; try with_reducible rfl)
                try simp only [Act.put, List.setIfInBounds_toArray, List.set_cons_zero, List.set_cons_succ]
                refine wpAnyH_take (i := 1) (oi := { dst := some 59, op := Op.move (Operand.tmp 8), type := 3, pos := "ref.go:330", after := #[], guard := none }) (v := ?v1rp3) rfl (by kernel_rfl) (by kernel_rfl) (by kernel_rfl) (fun _ _ _ h => h) (Or.inl ⟨by rfl, ?y1rp3⟩) (by assumption) ?r1rp3
                case y1rp3 => (intro x hx; (try dsimp only at hx); go_simp; try with_reducible rfl)
                try simp only [Act.put, List.setIfInBounds_toArray, List.set_cons_zero, List.set_cons_succ]
                refine wpAnyH_take (i := 2) (oi := { dst := some 60, op := Op.fieldAddr 27 (Operand.tmp 2) 0, type := 0, pos := "ref.go:330", after := #[], guard := none }) (v := ?v2rp3) rfl (by kernel_rfl) (by kernel_rfl) (by kernel_rfl) (fun _ _ _ h => h) (Or.inl ⟨by rfl, ?y2rp3⟩) (by assumption) ?r2rp3
                case y2rp3 => (intro x hx; (try dsimp only at hx); go_simp; try with_reducible rfl)
                try simp only [Act.put, List.setIfInBounds_toArray, List.set_cons_zero, List.set_cons_succ]
                refine wpAnyH_take (i := 3) (oi := { dst := some 61, op := Op.fieldAddr 23 (Operand.tmp 60) 1, type := 0, pos := "ref.go:330", after := #[{ on := 2, ground := Ground.data }], guard := none }) (v := ?v3rp3) rfl (by kernel_rfl) (by kernel_rfl) (by kernel_rfl) (fun _ _ _ h => h) (Or.inl ⟨by rfl, ?y3rp3⟩) (by assumption) ?r3rp3
                case y3rp3 => (intro x hx; (try dsimp only at hx); go_simp; try with_reducible rfl)
                try simp only [Act.put, List.setIfInBounds_toArray, List.set_cons_zero, List.set_cons_succ]
                refine wpAnyH_take (i := 4) (oi := { dst := some 62, op := Op.load 3 (Operand.tmp 61), type := 3, pos := "ref.go:330", after := #[{ on := 3, ground := Ground.data }], guard := none }) (v := ?v4rp3) rfl (by kernel_rfl) (by kernel_rfl) (by kernel_rfl) (fun _ _ _ h => h) (Or.inl ⟨by rfl, ?y4rp3⟩) (by assumption) ?r4rp3
                case y4rp3 => (intro x hx; (try dsimp only at hx); go_simp; try with_reducible rfl)
                try simp only [Act.put, List.setIfInBounds_toArray, List.set_cons_zero, List.set_cons_succ]
                refine wpAnyH_take (i := 5) (oi := { dst := some 63, op := Op.binOp BinOp.mul 3 (Operand.tmp 59) (Operand.tmp 62) 3, type := 3, pos := "ref.go:330", after := #[{ on := 1, ground := Ground.data }, { on := 4, ground := Ground.data }], guard := none }) (v := ?v5rp3) rfl (by kernel_rfl) (by kernel_rfl) (by kernel_rfl) (fun _ _ _ h => h) (Or.inl ⟨by rfl, ?y5rp3⟩) (by assumption) ?r5rp3
                case y5rp3 => (intro x hx; (try dsimp only at hx); go_simp; try with_reducible rfl)
                try simp only [Act.put, List.setIfInBounds_toArray, List.set_cons_zero, List.set_cons_succ]
                refine wpAnyH_take (i := 6) (oi := { dst := some 64, op := Op.move (Operand.tmp 9), type := 3, pos := "ref.go:330", after := #[], guard := none }) (v := ?v6rp3) rfl (by kernel_rfl) (by kernel_rfl) (by kernel_rfl) (fun _ _ _ h => h) (Or.inl ⟨by rfl, ?y6rp3⟩) (by assumption) ?r6rp3
                case y6rp3 => (intro x hx; (try dsimp only at hx); go_simp; try with_reducible rfl)
                try simp only [Act.put, List.setIfInBounds_toArray, List.set_cons_zero, List.set_cons_succ]
                refine wpAnyH_take (i := 7) (oi := { dst := some 65, op := Op.binOp BinOp.add 3 (Operand.tmp 63) (Operand.tmp 64) 3, type := 3, pos := "ref.go:330", after := #[{ on := 5, ground := Ground.data }, { on := 6, ground := Ground.data }], guard := none }) (v := ?v7rp3) rfl (by kernel_rfl) (by kernel_rfl) (by kernel_rfl) (fun _ _ _ h => h) (Or.inl ⟨by rfl, ?y7rp3⟩) (by assumption) ?r7rp3
                case y7rp3 => (intro x hx; (try dsimp only at hx); go_simp; try with_reducible rfl)
                try simp only [Act.put, List.setIfInBounds_toArray, List.set_cons_zero, List.set_cons_succ]
                refine wpAnyH_take (i := 9) (oi := { dst := some 67, op := Op.load 27 (Operand.tmp 3), type := 27, pos := "ref.go:330", after := #[], guard := none }) (v := ?v9rp3) rfl (by kernel_rfl) (by kernel_rfl) (by kernel_rfl) (fun _ _ _ h => h) (Or.inl ⟨by rfl, ?y9rp3⟩) (by assumption) ?r9rp3
                case y9rp3 => (intro x hx; (try dsimp only at hx); go_simp; try with_reducible rfl)
                try simp only [Act.put, List.setIfInBounds_toArray, List.set_cons_zero, List.set_cons_succ]
                refine wpAnyH_take (i := 10) (oi := { dst := some 68, op := Op.move (Operand.tmp 8), type := 3, pos := "ref.go:330", after := #[], guard := none }) (v := ?v10rp3) rfl (by kernel_rfl) (by kernel_rfl) (by kernel_rfl) (fun _ _ _ h => h) (Or.inl ⟨by rfl, ?y10rp3⟩) (by assumption) ?r10rp3
                case y10rp3 => (intro x hx; (try dsimp only at hx); go_simp; try with_reducible rfl)
                try simp only [Act.put, List.setIfInBounds_toArray, List.set_cons_zero, List.set_cons_succ]
                refine wpAnyH_take (i := 11) (oi := { dst := some 69, op := Op.fieldAddr 27 (Operand.tmp 2) 0, type := 0, pos := "ref.go:330", after := #[], guard := none }) (v := ?v11rp3) rfl (by kernel_rfl) (by kernel_rfl) (by kernel_rfl) (fun _ _ _ h => h) (Or.inl ⟨by rfl, ?y11rp3⟩) (by assumption) ?r11rp3
                case y11rp3 => (intro x hx; (try dsimp only at hx); go_simp; try with_reducible rfl)
                try simp only [Act.put, List.setIfInBounds_toArray, List.set_cons_zero, List.set_cons_succ]
                refine wpAnyH_take (i := 12) (oi := { dst := some 70, op := Op.fieldAddr 23 (Operand.tmp 69) 1, type := 0, pos := "ref.go:330", after := #[{ on := 11, ground := Ground.data }], guard := none }) (v := ?v12rp3) rfl (by kernel_rfl) (by kernel_rfl) (by kernel_rfl) (fun _ _ _ h => h) (Or.inl ⟨by rfl, ?y12rp3⟩) (by assumption) ?r12rp3
                case y12rp3 => (intro x hx; (try dsimp only at hx); go_simp; try with_reducible rfl)
                try simp only [Act.put, List.setIfInBounds_toArray, List.set_cons_zero, List.set_cons_succ]
                refine wpAnyH_take (i := 13) (oi := { dst := some 71, op := Op.load 3 (Operand.tmp 70), type := 3, pos := "ref.go:330", after := #[{ on := 12, ground := Ground.data }], guard := none }) (v := ?v13rp3) rfl (by kernel_rfl) (by kernel_rfl) (by kernel_rfl) (fun _ _ _ h => h) (Or.inl ⟨by rfl, ?y13rp3⟩) (by assumption) ?r13rp3
                case y13rp3 => (intro x hx; (try dsimp only at hx); go_simp; try with_reducible rfl)
                try simp only [Act.put, List.setIfInBounds_toArray, List.set_cons_zero, List.set_cons_succ]
                refine wpAnyH_take (i := 14) (oi := { dst := some 72, op := Op.binOp BinOp.mul 3 (Operand.tmp 68) (Operand.tmp 71) 3, type := 3, pos := "ref.go:330", after := #[{ on := 10, ground := Ground.data }, { on := 13, ground := Ground.data }], guard := none }) (v := ?v14rp3) rfl (by kernel_rfl) (by kernel_rfl) (by kernel_rfl) (fun _ _ _ h => h) (Or.inl ⟨by rfl, ?y14rp3⟩) (by assumption) ?r14rp3
                case y14rp3 => (intro x hx; (try dsimp only at hx); go_simp; try with_reducible rfl)
                try simp only [Act.put, List.setIfInBounds_toArray, List.set_cons_zero, List.set_cons_succ]
                refine wpAnyH_take (i := 15) (oi := { dst := some 73, op := Op.move (Operand.tmp 9), type := 3, pos := "ref.go:330", after := #[], guard := none }) (v := ?v15rp3) rfl (by kernel_rfl) (by kernel_rfl) (by kernel_rfl) (fun _ _ _ h => h) (Or.inl ⟨by rfl, ?y15rp3⟩) (by assumption) ?r15rp3
                case y15rp3 => (intro x hx; (try dsimp only at hx); go_simp; try with_reducible rfl)
                try simp only [Act.put, List.setIfInBounds_toArray, List.set_cons_zero, List.set_cons_succ]
                refine wpAnyH_take (i := 16) (oi := { dst := some 74, op := Op.binOp BinOp.add 3 (Operand.tmp 72) (Operand.tmp 73) 3, type := 3, pos := "ref.go:330", after := #[{ on := 14, ground := Ground.data }, { on := 15, ground := Ground.data }], guard := none }) (v := ?v16rp3) rfl (by kernel_rfl) (by kernel_rfl) (by kernel_rfl) (fun _ _ _ h => h) (Or.inl ⟨by rfl, ?y16rp3⟩) (by assumption) ?r16rp3
                case y16rp3 => (intro x hx; (try dsimp only at hx); go_simp; try with_reducible rfl)
                try simp only [Act.put, List.setIfInBounds_toArray, List.set_cons_zero, List.set_cons_succ]
                refine wpAnyH_ready (rs := [8]) (by kernel_rfl) (by simp) ?_
                refine AllReadyH.cons (o := { dst := some 66, op := Op.call { callee := Callee.value (Operand.func 25), args := #[Operand.tmp 58, Operand.tmp 65], argTypes := #[27, 3] }, type := 24, pos := "ref.go:330", after := #[{ on := 0, ground := Ground.data }, { on := 7, ground := Ground.data }], guard := none }) rfl (fun K hK => ?_) AllReadyH.nil
                go_simp
                go_at_call 25
                refine (rpage_any b p s _ _ n _ m _ xs _ k L (k * L) ((k + 1) * L) (by omega) (by omega) (by omega) (HX.out.below HSD.out.bel) HLs.out rfl rfl HKL.out (by omega)).mono ?_
                rintro e u3 ⟨vp, rfl, own3, b3⟩
                obtain ⟨ap, cp, rfl, rp⟩ := own_reads own3 (HX.out.2.1)
                have HS3 : Hid (Rfd w u3 b p s bk off n c mb mo m c' bk2 off2 c2 mb2 mo2 c2' u7 (D9)) := HSD.out.below b3
                have HP3 : Hid (Reads u3 ap L (pgK xs L k)) := rp
                have hSnew := And.intro (cells5 HS3.out.b1) (cells5 HS3.out.b2)
                clear own3 b3 rp
                go_wp2_with fail
                refine hK.out _ _ hSnew (fun hHeld8 => ?_)
                clear hK K hSnew
                clear hHeld
                have hHeld := hHeld8
                clear hHeld8
                try simp only [Act.put, List.setIfInBounds_toArray, List.set_cons_zero, List.set_cons_succ]
                refine wpAnyH_ready (rs := [17]) (by kernel_rfl) (by simp) ?_
                refine AllReadyH.cons (o := { dst := some 75, op := Op.call { callee := Callee.value (Operand.func 25), args := #[Operand.tmp 67, Operand.tmp 74], argTypes := #[27, 3] }, type := 24, pos := "ref.go:330", after := #[{ on := 9, ground := Ground.data }, { on := 16, ground := Ground.data }, { on := 8, ground := Ground.chain }], guard := none }) rfl (fun K hK => ?_) AllReadyH.nil
                go_simp
                go_at_call 25
                refine (rpage_any b p s _ _ n _ m _ ys _ k L (k * L) ((k + 1) * L) (by omega) (by omega) (by omega) (HY.out.below HS3.out.bel) HLs.out rfl rfl HKL.out (by omega)).mono ?_
                rintro e u4 ⟨vq, rfl, own4, b4⟩
                obtain ⟨aq, cq, rfl, rq⟩ := own_reads own4 (HY.out.2.1)
                have HS4 : Hid (Rfd w u4 b p s bk off n c mb mo m c' bk2 off2 c2 mb2 mo2 c2' u7 (D9)) := HS3.out.below b4
                have HP4 : Hid (Reads u4 ap L (pgK xs L k)) := HP3.out.below b4
                have HP5 : Hid (Reads u4 aq L (pgK ys L k)) := rq
                have hSnew := And.intro (cells5 HS4.out.b1) (cells5 HS4.out.b2)
                clear own4 b4 rq
                go_wp2_with fail
                refine hK.out _ _ hSnew (fun hHeld17 => ?_)
                clear hK K hSnew
                clear hHeld
                have hHeld := hHeld17
                clear hHeld17
                try simp only [Act.put, List.setIfInBounds_toArray, List.set_cons_zero, List.set_cons_succ]
                refine wpAnyH_ready (rs := [18]) (by kernel_rfl) (by simp) ?_
                refine AllReadyH.cons (o := { dst := some 76, op := Op.call { callee := Callee.value (Operand.func 30), args := #[Operand.tmp 66, Operand.tmp 75], argTypes := #[24, 24] }, type := 4, pos := "ref.go:330", after := #[{ on := 8, ground := Ground.data }, { on := 17, ground := Ground.data }, { on := 17, ground := Ground.chain }], guard := none }) rfl (fun K hK => ?_) AllReadyH.nil
                go_simp
                go_at_call 30
                refine (rsame_any ap aq L _ _ (pgK xs L k) (pgK ys L k) _ (by omega) HP4.out HP5.out).mono ?_
                rintro e u5 ⟨rfl, q5, hu5⟩
                rw [HDE.out]
                have b5 : Below u4.heap.size u4 u5 := (by rw [hu5]; exact ⟨rfl, rfl, rfl, Nat.le_refl _, fun _ _ => rfl⟩)
                have HS5 : Hid (Rfd w u5 b p s bk off n c mb mo m c' bk2 off2 c2 mb2 mo2 c2' u7 (D9)) := HS4.out.below b5
                have hSnew := And.intro (cells5 HS5.out.b1) (cells5 HS5.out.b2)
                clear hu5 b5
                go_wp2_with fail
                refine hK.out _ _ hSnew (fun hHeld18 => ?_)
                clear hK K hSnew
                clear hHeld
                have hHeld := hHeld18
                clear hHeld18
                try simp only [Act.put, List.setIfInBounds_toArray, List.set_cons_zero, List.set_cons_succ]
                refine wpAnyH_take (i := 19) (oi := { dst := some 77, op := Op.unOp UnOp.not 4 (Operand.tmp 76), type := 4, pos := "ref.go:330", after := #[{ on := 18, ground := Ground.data }], guard := none }) (v := ?v19rp3) rfl (by kernel_rfl) (by kernel_rfl) (by kernel_rfl) (fun _ _ _ h => h) (Or.inl ⟨by rfl, ?y19rp3⟩) (by assumption) ?r19rp3
                case y19rp3 => (intro x hx; (try dsimp only at hx); go_simp; try with_reducible rfl)
                try simp only [Act.put, List.setIfInBounds_toArray, List.set_cons_zero, List.set_cons_succ]
                refine wpAnyH_done (by kernel_rfl) ?_ _
                go_wp2_with (first
                  | (at_builtin; refine wpList_append_own _ rfl _ _ 46 rfl w.heap.size 38 i0 (.agg #[.int .i64 0, .int .i64 0]) 2 16 Try.underlying46 hi0 hz0 hz1 hz2 rfl (by decide) _ _ _ rfl (HS5.out.row.alloc _) ⟨u5.heap.size, 0, none⟩ 1 1 [.int .i64 (i : Int), .int .i64 (j : Int)] rfl rfl (cell_two_new _ _ _ _) (by simp [Value.oneCell']) (by rw [show maxLen = 9223372036854775807 from rfl]; have := HDL.out; omega) (by have := HDL.out; omega) (by have := HS5.out.bel.size; simp; omega) ?_; intro v7 w7 hown' hgrow _
                     have HA7 : Hid (Rfd w w7 b p s bk off n c mb mo m c' bk2 off2 c2 mb2 mo2 c2' v7 (D9 ++ [(⟨(i : Int), (j : Int)⟩ : Pl)])) := Rfd.app HS5.out ⟨(i : Int), (j : Int)⟩ hown' hgrow
                     clear hown' hgrow))
                go_roundw
                all_goals first
                  | (refine ⟨j + 1, by omega, by simp, ?_⟩; have h9 := HA7.out; unfold Hid; rw [HD9.out, List.append_assoc, List.append_assoc] at h9; rw [dgJ_succ, if_neg (by rw [HKK.out]; exact hpg)]; exact h9)
                  | (simp [intOf]; omega)
            · obtain rfl : j = p := by omega
              have dcj : ¬ (j : Int) < (j : Int) := by omega
              go_wp2_with fail
              go_roundw
              all_goals first
                | (refine ⟨i + 1, by omega, by simp, ?_⟩; unfold Hid; rw [df_block _ _ _ _ _ _ _ (by omega)]; exact HRI.out)
                | (simp [intOf]; omega)
        | true =>
          rw [hg2] at hm2
          have HDG : Hid (dgM ms ns i = [⟨(i : Int), -1⟩]) := by unfold Hid dgM; rw [hg1, hg2]; rfl
          clear hg1 hg2
          go_upto_region 12 with fail
          refine wp_region_held_drew (S := (fun y : World => y.cell? ⟨w.heap.size, 4, none⟩ = some (.slice (some ⟨mb, mo, none⟩) m c') ∧ y.cell? ⟨w.heap.size + 1, 4, none⟩ = some (.slice (some ⟨mb2, mo2, none⟩) m c2') ∧ y.cell? ⟨mb, mo + i, none⟩ = some (.bool false) ∧ y.cell? ⟨mb2, mo2 + i, none⟩ = some (.bool true))) (by kernel_rfl) (⟨(cells5 HRD.out.b1).2.2.2.2, (cells5 HRD.out.b2).2.2.2.2, (HRD.out.bel.cell (p := ⟨mb, mo + i, none⟩) HML.out.1).trans hm1, (HRD.out.bel.cell (p := ⟨mb2, mo2 + i, none⟩) HML.out.2).trans hm2⟩) (fun hHeld => ?_)
          refine wpAnyH_take (i := 0) (oi := { dst := some 35, op := Op.fieldAddr 27 (Operand.tmp 2) 2, type := 0, pos := "ref.go:326", after := #[], guard := none }) (v := ?v0rm2) rfl (by kernel_rfl) (by kernel_rfl) (by kernel_rfl) (fun _ _ _ h => h) (Or.inl ⟨by rfl, ?y0rm2⟩) (by assumption) ?r0rm2
          case y0rm2 => (intro x hx; (try dsimp only at hx); go_simp; try with_reducible rfl)
          try simp only [Act.put, List.setIfInBounds_toArray, List.set_cons_zero, List.set_cons_succ]
          refine wpAnyH_take (i := 1) (oi := { dst := some 36, op := Op.load 25 (Operand.tmp 35), type := 25, pos := "ref.go:326", after := #[{ on := 0, ground := Ground.data }], guard := none }) (v := ?v1rm2) rfl (by kernel_rfl) (by kernel_rfl) (by kernel_rfl) (fun _ _ _ h => h) (Or.inl ⟨by rfl, ?y1rm2⟩) (by assumption) ?r1rm2
          case y1rm2 => (intro x hx; (try dsimp only at hx); go_simp; try with_reducible rfl)
          try simp only [Act.put, List.setIfInBounds_toArray, List.set_cons_zero, List.set_cons_succ]
          refine wpAnyH_take (i := 2) (oi := { dst := some 37, op := Op.move (Operand.tmp 8), type := 3, pos := "ref.go:326", after := #[], guard := none }) (v := ?v2rm2) rfl (by kernel_rfl) (by kernel_rfl) (by kernel_rfl) (fun _ _ _ h => h) (Or.inl ⟨by rfl, ?y2rm2⟩) (by assumption) ?r2rm2
          case y2rm2 => (intro x hx; (try dsimp only at hx); go_simp; try with_reducible rfl)
          try simp only [Act.put, List.setIfInBounds_toArray, List.set_cons_zero, List.set_cons_succ]
          refine wpAnyH_take (i := 3) (oi := { dst := some 38, op := Op.indexAddr 25 (Operand.tmp 36) (Operand.tmp 37), type := 0, pos := "ref.go:326", after := #[{ on := 1, ground := Ground.data }, { on := 2, ground := Ground.data }], guard := none }) (v := ?v3rm2) rfl (by kernel_rfl) (by kernel_rfl) (by kernel_rfl) (fun _ _ _ h => h) (Or.inl ⟨by rfl, ?y3rm2⟩) (by assumption) ?r3rm2
          case y3rm2 => (intro x hx; (try dsimp only at hx); go_simp; try with_reducible rfl)
          try simp only [Act.put, List.setIfInBounds_toArray, List.set_cons_zero, List.set_cons_succ]
          refine wpAnyH_take (i := 4) (oi := { dst := some 39, op := Op.load 4 (Operand.tmp 38), type := 4, pos := "ref.go:326", after := #[{ on := 3, ground := Ground.data }], guard := none }) (v := ?v4rm2) rfl (by kernel_rfl) (by kernel_rfl) (by kernel_rfl) (fun _ _ _ h => h) (Or.inl ⟨by rfl, ?y4rm2⟩) (by assumption) ?r4rm2
          case y4rm2 => (intro x hx; (try dsimp only at hx); go_simp; try with_reducible rfl)
          try simp only [Act.put, List.setIfInBounds_toArray, List.set_cons_zero, List.set_cons_succ]
          refine wpAnyH_take (i := 5) (oi := { dst := some 40, op := Op.fieldAddr 27 (Operand.tmp 3) 2, type := 0, pos := "ref.go:326", after := #[], guard := none }) (v := ?v5rm2) rfl (by kernel_rfl) (by kernel_rfl) (by kernel_rfl) (fun _ _ _ h => h) (Or.inl ⟨by rfl, ?y5rm2⟩) (by assumption) ?r5rm2
          case y5rm2 => (intro x hx; (try dsimp only at hx); go_simp; try with_reducible rfl)
          try simp only [Act.put, List.setIfInBounds_toArray, List.set_cons_zero, List.set_cons_succ]
          refine wpAnyH_take (i := 6) (oi := { dst := some 41, op := Op.load 25 (Operand.tmp 40), type := 25, pos := "ref.go:326", after := #[{ on := 5, ground := Ground.data }], guard := none }) (v := ?v6rm2) rfl (by kernel_rfl) (by kernel_rfl) (by kernel_rfl) (fun _ _ _ h => h) (Or.inl ⟨by rfl, ?y6rm2⟩) (by assumption) ?r6rm2
          case y6rm2 => (intro x hx; (try dsimp only at hx); go_simp; try with_reducible rfl)
          try simp only [Act.put, List.setIfInBounds_toArray, List.set_cons_zero, List.set_cons_succ]
          refine wpAnyH_take (i := 7) (oi := { dst := some 42, op := Op.move (Operand.tmp 8), type := 3, pos := "ref.go:326", after := #[], guard := none }) (v := ?v7rm2) rfl (by kernel_rfl) (by kernel_rfl) (by kernel_rfl) (fun _ _ _ h => h) (Or.inl ⟨by rfl, ?y7rm2⟩) (by assumption) ?r7rm2
          case y7rm2 => (intro x hx; (try dsimp only at hx); go_simp; try with_reducible rfl)
          try simp only [Act.put, List.setIfInBounds_toArray, List.set_cons_zero, List.set_cons_succ]
          refine wpAnyH_take (i := 8) (oi := { dst := some 43, op := Op.indexAddr 25 (Operand.tmp 41) (Operand.tmp 42), type := 0, pos := "ref.go:326", after := #[{ on := 6, ground := Ground.data }, { on := 7, ground := Ground.data }], guard := none }) (v := ?v8rm2) rfl (by kernel_rfl) (by kernel_rfl) (by kernel_rfl) (fun _ _ _ h => h) (Or.inl ⟨by rfl, ?y8rm2⟩) (by assumption) ?r8rm2
          case y8rm2 => (intro x hx; (try dsimp only at hx); go_simp; try with_reducible rfl)
          try simp only [Act.put, List.setIfInBounds_toArray, List.set_cons_zero, List.set_cons_succ]
          refine wpAnyH_take (i := 9) (oi := { dst := some 44, op := Op.load 4 (Operand.tmp 43), type := 4, pos := "ref.go:326", after := #[{ on := 8, ground := Ground.data }], guard := none }) (v := ?v9rm2) rfl (by kernel_rfl) (by kernel_rfl) (by kernel_rfl) (fun _ _ _ h => h) (Or.inl ⟨by rfl, ?y9rm2⟩) (by assumption) ?r9rm2
          case y9rm2 => (intro x hx; (try dsimp only at hx); go_simp; try with_reducible rfl)
          try simp only [Act.put, List.setIfInBounds_toArray, List.set_cons_zero, List.set_cons_succ]
          refine wpAnyH_take (i := 10) (oi := { dst := some 45, op := Op.binOp BinOp.neq 4 (Operand.tmp 39) (Operand.tmp 44) 4, type := 4, pos := "ref.go:326", after := #[{ on := 4, ground := Ground.data }, { on := 9, ground := Ground.data }], guard := none }) (v := ?v10rm2) rfl (by kernel_rfl) (by kernel_rfl) (by kernel_rfl) (fun _ _ _ h => h) (Or.inl ⟨by rfl, ?y10rm2⟩) (by assumption) ?r10rm2
          case y10rm2 => (intro x hx; (try dsimp only at hx); go_simp; try with_reducible rfl)
          try simp only [Act.put, List.setIfInBounds_toArray, List.set_cons_zero, List.set_cons_succ]
          refine wpAnyH_done (by kernel_rfl) ?_ _
          clear hm1 hm2
          obtain ⟨W5, hW5⟩ : ∃ W5, wr.drew = W5 := ⟨_, rfl⟩
          rw [hW5]
          have HRW : Hid (Rfd w W5 b p s bk off n c mb mo m c' bk2 off2 c2 mb2 mo2 c2' u7 (dfL xs ys ms ns L p (i * p))) := by unfold Hid; rw [← hW5]; exact HRD.out
          clear hW5
          go_upto_region 14 with (first
            | (at_builtin; refine wpList_append_own _ rfl _ _ 46 rfl w.heap.size 38 i0 (.agg #[.int .i64 0, .int .i64 0]) 2 16 Try.underlying46 hi0 hz0 hz1 hz2 rfl (by decide) _ _ _ rfl (HRW.out.row.alloc _) ⟨W5.heap.size, 0, none⟩ 1 1 [.int .i64 (i : Int), .int .i64 (-1)] rfl rfl (cell_two_new _ _ _ _) (by simp [Value.oneCell']) (by rw [show maxLen = 9223372036854775807 from rfl]; have := HDL.out; omega) (by have := HDL.out; omega) (by have := HRW.out.bel.size; simp; omega) ?_; intro v6 w6 hown' hgrow _
               have HA6 : Hid (Rfd w w6 b p s bk off n c mb mo m c' bk2 off2 c2 mb2 mo2 c2' v6 (dfL xs ys ms ns L p (i * p) ++ [(⟨(i : Int), (-1)⟩ : Pl)])) := Rfd.app HRW.out ⟨(i : Int), (-1)⟩ hown' hgrow
               clear hown' hgrow))
          go_wp2_with fail
          clear c0 c1 cz2 c3 c4 d0 d1 d2 d3 d4
          go_loopw [7, 9] (fun s7 s9 wr => ∃ j : Nat, j ≤ p ∧ s9 = .int .i64 (j : Int) ∧ Hid (Rfd w wr b p s bk off n c mb mo m c' bk2 off2 c2 mb2 mo2 c2' s7 (dfL xs ys ms ns L p (i * p) ++ (dgM ms ns i ++ dgJ xs ys L p i j)))) (fun _ j _ => p - (intOf j).toNat)
          case atStart =>
            refine ⟨0, by omega, rfl, ?_⟩
            have h9 := HA6.out
            unfold Hid
            rw [show dgJ xs ys L p i 0 = [] by simp [dgJ], List.append_nil, HDG.out]
            exact h9
          case round =>
            obtain ⟨j, hj, rfl, HRI⟩ := hrel
            obtain ⟨c0, c1, cz2, c3, c4⟩ := cells5 HRI.out.b1
            by_cases hcj : j < p
            · have dcj : (j : Int) < (p : Int) := by omega
              have wj : IntKind.i64.wrap ((j : Int) + 1) = (j : Int) + 1 := by rw [IntKind.wrap_i64]; omega
              obtain ⟨k, hk⟩ : ∃ k, i * p + j = k := ⟨_, rfl⟩
              have HKK : Hid (i * p + j = k) := hk
              obtain ⟨ip, hip⟩ : ∃ ip, i * p = ip := ⟨_, rfl⟩
              have hkN : k < N := by
                have h8 := Nat.mul_le_mul_right p (show i + 1 ≤ b by omega)
                rw [Nat.succ_mul, HN.out] at h8
                omega
              have wip : IntKind.i64.wrap ((i : Int) * (p : Int)) = (ip : Int) := by rw [← Int.natCast_mul, hip, IntKind.wrap_i64]; omega
              have wk : IntKind.i64.wrap ((ip : Int) + (j : Int)) = (k : Int) := by rw [IntKind.wrap_i64]; omega
              have HKL : Hid ((k + 1) * L ≤ n) := by unfold Hid; rw [Hn.out]; exact Nat.mul_le_mul_right L hkN
              obtain ⟨D9, hD9⟩ : ∃ D9, D9 = dfL xs ys ms ns L p (i * p) ++ (dgM ms ns i ++ dgJ xs ys L p i j) := ⟨_, rfl⟩
              have HD9 : Hid (D9 = dfL xs ys ms ns L p (i * p) ++ (dgM ms ns i ++ dgJ xs ys L p i j)) := hD9
              have HDL : Hid (D9.length ≤ 300000) := by
                unfold Hid
                have h6 := dfL_len xs ys ms ns L p (i * p)
                have h7 := dgM_len ms ns i
                have h8 := dgJ_len xs ys L p i j
                rw [hD9, List.length_append, List.length_append]
                omega
              have HSD : Hid (Rfd w wr.drew b p s bk off n c mb mo m c' bk2 off2 c2 mb2 mo2 c2' u7 (D9)) := by
                unfold Hid
                rw [hD9]
                exact HRI.out.below ⟨rfl, rfl, rfl, Nat.le_refl _, fun _ _ => rfl⟩
              clear hk hip hD9 HRI
              by_cases hpg : pgK xs L k = pgK ys L k
              · have HDE : Hid (decide (pgK xs L k = pgK ys L k) = true) := decide_eq_true hpg
                go_upto_region 17 with fail
                refine wp_region_held_drew (S := (fun y : World => (y.cell? ⟨w.heap.size, 0, none⟩ = some (.int .i64 (b : Int)) ∧ y.cell? ⟨w.heap.size, 1, none⟩ = some (.int .i64 (p : Int)) ∧ y.cell? ⟨w.heap.size, 2, none⟩ = some (.int .i64 (s : Int)) ∧ y.cell? ⟨w.heap.size, 3, none⟩ = some (.slice (some ⟨bk, off, none⟩) n c) ∧ y.cell? ⟨w.heap.size, 4, none⟩ = some (.slice (some ⟨mb, mo, none⟩) m c')) ∧ (y.cell? ⟨w.heap.size + 1, 0, none⟩ = some (.int .i64 (b : Int)) ∧ y.cell? ⟨w.heap.size + 1, 1, none⟩ = some (.int .i64 (p : Int)) ∧ y.cell? ⟨w.heap.size + 1, 2, none⟩ = some (.int .i64 (s : Int)) ∧ y.cell? ⟨w.heap.size + 1, 3, none⟩ = some (.slice (some ⟨bk2, off2, none⟩) n c2) ∧ y.cell? ⟨w.heap.size + 1, 4, none⟩ = some (.slice (some ⟨mb2, mo2, none⟩) m c2')))) (by kernel_rfl) (And.intro (cells5 HSD.out.b1) (cells5 HSD.out.b2)) (fun hHeld => ?_)
                refine wpAnyH_take (i := 0) (oi := { dst := some 58, op := Op.load 27 (Operand.tmp 2), type := 27, pos := "ref.go:330", after := #[], guard := none }) (v := ?v0rp4) rfl (by kernel_rfl) (by kernel_rfl) (by kernel_rfl) (fun _ _ _ h => h) (Or.inl ⟨by rfl, ?y0rp4⟩) (by assumption) ?r0rp4
                case y0rp4 => (intro x hx; (try dsimp only at hx); go_simp; try with_reducible rfl)
                try simp only [Act.put, List.setIfInBounds_toArray, List.set_cons_zero, List.set_cons_succ]
                refine wpAnyH_take (i := 1) (oi := { dst := some 59, op := Op.move (Operand.tmp 8), type := 3, pos := "ref.go:330", after := #[], guard := none }) (v := ?v1rp4) rfl (by kernel_rfl) (by kernel_rfl) (by kernel_rfl) (fun _ _ _ h => h) (Or.inl ⟨by rfl, ?y1rp4⟩) (by assumption) ?r1rp4
                case y1rp4 => (intro x hx; (try dsimp only at hx); go_simp; try with_reducible rfl)
                try simp only [Act.put, List.setIfInBounds_toArray, List.set_cons_zero, List.set_cons_succ]
                refine wpAnyH_take (i := 2) (oi := { dst := some 60, op := Op.fieldAddr 27 (Operand.tmp 2) 0, type := 0, pos := "ref.go:330", after := #[], guard := none }) (v := ?v2rp4) rfl (by kernel_rfl) (by kernel_rfl) (by kernel_rfl) (fun _ _ _ h => h) (Or.inl ⟨by rfl, ?y2rp4⟩) (by assumption) ?r2rp4
                case y2rp4 => (intro x hx; (try dsimp only at hx); go_simp; try with_reducible rfl)
                try simp only [Act.put, List.setIfInBounds_toArray, List.set_cons_zero, List.set_cons_succ]
                refine wpAnyH_take (i := 3) (oi := { dst := some 61, op := Op.fieldAddr 23 (Operand.tmp 60) 1, type := 0, pos := "ref.go:330", after := #[{ on := 2, ground := Ground.data }], guard := none }) (v := ?v3rp4) rfl (by kernel_rfl) (by kernel_rfl) (by kernel_rfl) (fun _ _ _ h => h) (Or.inl ⟨by rfl, ?y3rp4⟩) (by assumption) ?r3rp4
                case y3rp4 => (intro x hx; (try dsimp only at hx); go_simp; try with_reducible rfl)
                try simp only [Act.put, List.setIfInBounds_toArray, List.set_cons_zero, List.set_cons_succ]
                refine wpAnyH_take (i := 4) (oi := { dst := some 62, op := Op.load 3 (Operand.tmp 61), type := 3, pos := "ref.go:330", after := #[{ on := 3, ground := Ground.data }], guard := none }) (v := ?v4rp4) rfl (by kernel_rfl) (by kernel_rfl) (by kernel_rfl) (fun _ _ _ h => h) (Or.inl ⟨by rfl, ?y4rp4⟩) (by assumption) ?r4rp4
                case y4rp4 => (intro x hx; (try dsimp only at hx); go_simp; try with_reducible rfl)
                try simp only [Act.put, List.setIfInBounds_toArray, List.set_cons_zero, List.set_cons_succ]
                refine wpAnyH_take (i := 5) (oi := { dst := some 63, op := Op.binOp BinOp.mul 3 (Operand.tmp 59) (Operand.tmp 62) 3, type := 3, pos := "ref.go:330", after := #[{ on := 1, ground := Ground.data }, { on := 4, ground := Ground.data }], guard := none }) (v := ?v5rp4) rfl (by kernel_rfl) (by kernel_rfl) (by kernel_rfl) (fun _ _ _ h => h) (Or.inl ⟨by rfl, ?y5rp4⟩) (by assumption) ?r5rp4
                case y5rp4 => (intro x hx; (try dsimp only at hx); go_simp; try with_reducible rfl)
                try simp only [Act.put, List.setIfInBounds_toArray, List.set_cons_zero, List.set_cons_succ]
                refine wpAnyH_take (i := 6) (oi := { dst := some 64, op := Op.move (Operand.tmp 9), type := 3, pos := "ref.go:330", after := #[], guard := none }) (v := ?v6rp4) rfl (by kernel_rfl) (by kernel_rfl) (by kernel_rfl) (fun _ _ _ h => h) (Or.inl ⟨by rfl, ?y6rp4⟩) (by assumption) ?r6rp4
                case y6rp4 => (intro x hx; (try dsimp only at hx); go_simp; try with_reducible rfl)
                try simp only [Act.put, List.setIfInBounds_toArray, List.set_cons_zero, List.set_cons_succ]
                refine wpAnyH_take (i := 7) (oi := { dst := some 65, op := Op.binOp BinOp.add 3 (Operand.tmp 63) (Operand.tmp 64) 3, type := 3, pos := "ref.go:330", after := #[{ on := 5, ground := Ground.data }, { on := 6, ground := Ground.data }], guard := none }) (v := ?v7rp4) rfl (by kernel_rfl) (by kernel_rfl) (by kernel_rfl) (fun _ _ _ h => h) (Or.inl ⟨by rfl, ?y7rp4⟩) (by assumption) ?r7rp4
                case y7rp4 => (intro x hx; (try dsimp only at hx); go_simp; try with_reducible rfl)
                try simp only [Act.put, List.setIfInBounds_toArray, List.set_cons_zero, List.set_cons_succ]
                refine wpAnyH_take (i := 9) (oi := { dst := some 67, op := Op.load 27 (Operand.tmp 3), type := 27, pos := "ref.go:330", after := #[], guard := none }) (v := ?v9rp4) rfl (by kernel_rfl) (by kernel_rfl) (by kernel_rfl) (fun _ _ _ h => h) (Or.inl ⟨by rfl, ?y9rp4⟩) (by assumption) ?r9rp4
                case y9rp4 => (intro x hx; (try dsimp only at hx); go_simp; try with_reducible rfl)
                try simp only [Act.put, List.setIfInBounds_toArray, List.set_cons_zero, List.set_cons_succ]
                refine wpAnyH_take (i := 10) (oi := { dst := some 68, op := Op.move (Operand.tmp 8), type := 3, pos := "ref.go:330", after := #[], guard := none }) (v := ?v10rp4) rfl (by kernel_rfl) (by kernel_rfl) (by kernel_rfl) (fun _ _ _ h => h) (Or.inl ⟨by rfl, ?y10rp4⟩) (by assumption) ?r10rp4
                case y10rp4 => (intro x hx; (try dsimp only at hx); go_simp; try with_reducible rfl)
                try simp only [Act.put, List.setIfInBounds_toArray, List.set_cons_zero, List.set_cons_succ]
                refine wpAnyH_take (i := 11) (oi := { dst := some 69, op := Op.fieldAddr 27 (Operand.tmp 2) 0, type := 0, pos := "ref.go:330", after := #[], guard := none }) (v := ?v11rp4) rfl (by kernel_rfl) (by kernel_rfl) (by kernel_rfl) (fun _ _ _ h => h) (Or.inl ⟨by rfl, ?y11rp4⟩) (by assumption) ?r11rp4
                case y11rp4 => (intro x hx; (try dsimp only at hx); go_simp; try with_reducible rfl)
                try simp only [Act.put, List.setIfInBounds_toArray, List.set_cons_zero, List.set_cons_succ]
                refine wpAnyH_take (i := 12) (oi := { dst := some 70, op := Op.fieldAddr 23 (Operand.tmp 69) 1, type := 0, pos := "ref.go:330", after := #[{ on := 11, ground := Ground.data }], guard := none }) (v := ?v12rp4) rfl (by kernel_rfl) (by kernel_rfl) (by kernel_rfl) (fun _ _ _ h => h) (Or.inl ⟨by rfl, ?y12rp4⟩) (by assumption) ?r12rp4
                case y12rp4 => (intro x hx; (try dsimp only at hx); go_simp; try with_reducible rfl)
                try simp only [Act.put, List.setIfInBounds_toArray, List.set_cons_zero, List.set_cons_succ]
                refine wpAnyH_take (i := 13) (oi := { dst := some 71, op := Op.load 3 (Operand.tmp 70), type := 3, pos := "ref.go:330", after := #[{ on := 12, ground := Ground.data }], guard := none }) (v := ?v13rp4) rfl (by kernel_rfl) (by kernel_rfl) (by kernel_rfl) (fun _ _ _ h => h) (Or.inl ⟨by rfl, ?y13rp4⟩) (by assumption) ?r13rp4
                case y13rp4 => (intro x hx; (try dsimp only at hx); go_simp; try with_reducible rfl)
                try simp only [Act.put, List.setIfInBounds_toArray, List.set_cons_zero, List.set_cons_succ]
                refine wpAnyH_take (i := 14) (oi := { dst := some 72, op := Op.binOp BinOp.mul 3 (Operand.tmp 68) (Operand.tmp 71) 3, type := 3, pos := "ref.go:330", after := #[{ on := 10, ground := Ground.data }, { on := 13, ground := Ground.data }], guard := none }) (v := ?v14rp4) rfl (by kernel_rfl) (by kernel_rfl) (by kernel_rfl) (fun _ _ _ h => h) (Or.inl ⟨by rfl, ?y14rp4⟩) (by assumption) ?r14rp4
                case y14rp4 => (intro x hx; (try dsimp only at hx); go_simp; try with_reducible rfl)
                try simp only [Act.put, List.setIfInBounds_toArray, List.set_cons_zero, List.set_cons_succ]
                refine wpAnyH_take (i := 15) (oi := { dst := some 73, op := Op.move (Operand.tmp 9), type := 3, pos := "ref.go:330", after := #[], guard := none }) (v := ?v15rp4) rfl (by kernel_rfl) (by kernel_rfl) (by kernel_rfl) (fun _ _ _ h => h) (Or.inl ⟨by rfl, ?y15rp4⟩) (by assumption) ?r15rp4
                case y15rp4 => (intro x hx; (try dsimp only at hx); go_simp; try with_reducible rfl)
                try simp only [Act.put, List.setIfInBounds_toArray, List.set_cons_zero, List.set_cons_succ]
                refine wpAnyH_take (i := 16) (oi := { dst := some 74, op := Op.binOp BinOp.add 3 (Operand.tmp 72) (Operand.tmp 73) 3, type := 3, pos := "ref.go:330", after := #[{ on := 14, ground := Ground.data }, { on := 15, ground := Ground.data }], guard := none }) (v := ?v16rp4) rfl (by kernel_rfl) (by kernel_rfl) (by kernel_rfl) (fun _ _ _ h => h) (Or.inl ⟨by rfl, ?y16rp4⟩) (by assumption) ?r16rp4
                case y16rp4 => (intro x hx; (try dsimp only at hx); go_simp; try with_reducible rfl)
                try simp only [Act.put, List.setIfInBounds_toArray, List.set_cons_zero, List.set_cons_succ]
                refine wpAnyH_ready (rs := [8]) (by kernel_rfl) (by simp) ?_
                refine AllReadyH.cons (o := { dst := some 66, op := Op.call { callee := Callee.value (Operand.func 25), args := #[Operand.tmp 58, Operand.tmp 65], argTypes := #[27, 3] }, type := 24, pos := "ref.go:330", after := #[{ on := 0, ground := Ground.data }, { on := 7, ground := Ground.data }], guard := none }) rfl (fun K hK => ?_) AllReadyH.nil
                go_simp
                go_at_call 25
                refine (rpage_any b p s _ _ n _ m _ xs _ k L (k * L) ((k + 1) * L) (by omega) (by omega) (by omega) (HX.out.below HSD.out.bel) HLs.out rfl rfl HKL.out (by omega)).mono ?_
                rintro e u3 ⟨vp, rfl, own3, b3⟩
                obtain ⟨ap, cp, rfl, rp⟩ := own_reads own3 (HX.out.2.1)
                have HS3 : Hid (Rfd w u3 b p s bk off n c mb mo m c' bk2 off2 c2 mb2 mo2 c2' u7 (D9)) := HSD.out.below b3
                have HP3 : Hid (Reads u3 ap L (pgK xs L k)) := rp
                have hSnew := And.intro (cells5 HS3.out.b1) (cells5 HS3.out.b2)
                clear own3 b3 rp
                go_wp2_with fail
                refine hK.out _ _ hSnew (fun hHeld8 => ?_)
                clear hK K hSnew
                clear hHeld
                have hHeld := hHeld8
                clear hHeld8
                try simp only [Act.put, List.setIfInBounds_toArray, List.set_cons_zero, List.set_cons_succ]
                refine wpAnyH_ready (rs := [17]) (by kernel_rfl) (by simp) ?_
                refine AllReadyH.cons (o := { dst := some 75, op := Op.call { callee := Callee.value (Operand.func 25), args := #[Operand.tmp 67, Operand.tmp 74], argTypes := #[27, 3] }, type := 24, pos := "ref.go:330", after := #[{ on := 9, ground := Ground.data }, { on := 16, ground := Ground.data }, { on := 8, ground := Ground.chain }], guard := none }) rfl (fun K hK => ?_) AllReadyH.nil
                go_simp
                go_at_call 25
                refine (rpage_any b p s _ _ n _ m _ ys _ k L (k * L) ((k + 1) * L) (by omega) (by omega) (by omega) (HY.out.below HS3.out.bel) HLs.out rfl rfl HKL.out (by omega)).mono ?_
                rintro e u4 ⟨vq, rfl, own4, b4⟩
                obtain ⟨aq, cq, rfl, rq⟩ := own_reads own4 (HY.out.2.1)
                have HS4 : Hid (Rfd w u4 b p s bk off n c mb mo m c' bk2 off2 c2 mb2 mo2 c2' u7 (D9)) := HS3.out.below b4
                have HP4 : Hid (Reads u4 ap L (pgK xs L k)) := HP3.out.below b4
                have HP5 : Hid (Reads u4 aq L (pgK ys L k)) := rq
                have hSnew := And.intro (cells5 HS4.out.b1) (cells5 HS4.out.b2)
                clear own4 b4 rq
                go_wp2_with fail
                refine hK.out _ _ hSnew (fun hHeld17 => ?_)
                clear hK K hSnew
                clear hHeld
                have hHeld := hHeld17
                clear hHeld17
                try simp only [Act.put, List.setIfInBounds_toArray, List.set_cons_zero, List.set_cons_succ]
                refine wpAnyH_ready (rs := [18]) (by kernel_rfl) (by simp) ?_
                refine AllReadyH.cons (o := { dst := some 76, op := Op.call { callee := Callee.value (Operand.func 30), args := #[Operand.tmp 66, Operand.tmp 75], argTypes := #[24, 24] }, type := 4, pos := "ref.go:330", after := #[{ on := 8, ground := Ground.data }, { on := 17, ground := Ground.data }, { on := 17, ground := Ground.chain }], guard := none }) rfl (fun K hK => ?_) AllReadyH.nil
                go_simp
                go_at_call 30
                refine (rsame_any ap aq L _ _ (pgK xs L k) (pgK ys L k) _ (by omega) HP4.out HP5.out).mono ?_
                rintro e u5 ⟨rfl, q5, hu5⟩
                rw [HDE.out]
                have b5 : Below u4.heap.size u4 u5 := (by rw [hu5]; exact ⟨rfl, rfl, rfl, Nat.le_refl _, fun _ _ => rfl⟩)
                have HS5 : Hid (Rfd w u5 b p s bk off n c mb mo m c' bk2 off2 c2 mb2 mo2 c2' u7 (D9)) := HS4.out.below b5
                have hSnew := And.intro (cells5 HS5.out.b1) (cells5 HS5.out.b2)
                clear hu5 b5
                go_wp2_with fail
                refine hK.out _ _ hSnew (fun hHeld18 => ?_)
                clear hK K hSnew
                clear hHeld
                have hHeld := hHeld18
                clear hHeld18
                try simp only [Act.put, List.setIfInBounds_toArray, List.set_cons_zero, List.set_cons_succ]
                refine wpAnyH_take (i := 19) (oi := { dst := some 77, op := Op.unOp UnOp.not 4 (Operand.tmp 76), type := 4, pos := "ref.go:330", after := #[{ on := 18, ground := Ground.data }], guard := none }) (v := ?v19rp4) rfl (by kernel_rfl) (by kernel_rfl) (by kernel_rfl) (fun _ _ _ h => h) (Or.inl ⟨by rfl, ?y19rp4⟩) (by assumption) ?r19rp4
                case y19rp4 => (intro x hx; (try dsimp only at hx); go_simp; try with_reducible rfl)
                try simp only [Act.put, List.setIfInBounds_toArray, List.set_cons_zero, List.set_cons_succ]
                refine wpAnyH_done (by kernel_rfl) ?_ _
                go_wp2_with fail
                go_roundw
                all_goals first
                  | (refine ⟨j + 1, by omega, by simp, ?_⟩; have h9 := HS5.out; unfold Hid; rw [HD9.out] at h9; rw [dgJ_succ, if_pos (by rw [HKK.out]; exact hpg), List.append_nil]; exact h9)
                  | (simp [intOf]; omega)
              · have HDE : Hid (decide (pgK xs L k = pgK ys L k) = false) := decide_eq_false hpg
                go_upto_region 17 with fail
                refine wp_region_held_drew (S := (fun y : World => (y.cell? ⟨w.heap.size, 0, none⟩ = some (.int .i64 (b : Int)) ∧ y.cell? ⟨w.heap.size, 1, none⟩ = some (.int .i64 (p : Int)) ∧ y.cell? ⟨w.heap.size, 2, none⟩ = some (.int .i64 (s : Int)) ∧ y.cell? ⟨w.heap.size, 3, none⟩ = some (.slice (some ⟨bk, off, none⟩) n c) ∧ y.cell? ⟨w.heap.size, 4, none⟩ = some (.slice (some ⟨mb, mo, none⟩) m c')) ∧ (y.cell? ⟨w.heap.size + 1, 0, none⟩ = some (.int .i64 (b : Int)) ∧ y.cell? ⟨w.heap.size + 1, 1, none⟩ = some (.int .i64 (p : Int)) ∧ y.cell? ⟨w.heap.size + 1, 2, none⟩ = some (.int .i64 (s : Int)) ∧ y.cell? ⟨w.heap.size + 1, 3, none⟩ = some (.slice (some ⟨bk2, off2, none⟩) n c2) ∧ y.cell? ⟨w.heap.size + 1, 4, none⟩ = some (.slice (some ⟨mb2, mo2, none⟩) m c2')))) (by kernel_rfl) (And.intro (cells5 HSD.out.b1) (cells5 HSD.out.b2)) (fun hHeld => ?_)
                refine wpAnyH_take (i := 0) (oi := { dst := some 58, op := Op.load 27 (Operand.tmp 2), type := 27, pos := "ref.go:330", after := #[], guard := none }) (v := ?v0rp5) rfl (by kernel_rfl) (by kernel_rfl) (by kernel_rfl) (fun _ _ _ h => h) (Or.inl ⟨by rfl, ?y0rp5⟩) (by assumption) ?r0rp5
                case y0rp5 => (intro x hx; (try dsimp only at hx); go_simp; try with_reducible rfl)
                try simp only [Act.put, List.setIfInBounds_toArray, List.set_cons_zero, List.set_cons_succ]
                refine wpAnyH_take (i := 1) (oi := { dst := some 59, op := Op.move (Operand.tmp 8), type := 3, pos := "ref.go:330", after := #[], guard := none }) (v := ?v1rp5) rfl (by kernel_rfl) (by kernel_rfl) (by kernel_rfl) (fun _ _ _ h => h) (Or.inl ⟨by rfl, ?y1rp5⟩) (by assumption) ?r1rp5
                case y1rp5 => (intro x hx; (try dsimp only at hx); go_simp; try with_reducible rfl)
                try simp only [Act.put, List.setIfInBounds_toArray, List.set_cons_zero, List.set_cons_succ]
                refine wpAnyH_take (i := 2) (oi := { dst := some 60, op := Op.fieldAddr 27 (Operand.tmp 2) 0, type := 0, pos := "ref.go:330", after := #[], guard := none }) (v := ?v2rp5) rfl (by kernel_rfl) (by kernel_rfl) (by kernel_rfl) (fun _ _ _ h => h) (Or.inl ⟨by rfl, ?y2rp5⟩) (by assumption) ?r2rp5
                case y2rp5 => (intro x hx; (try dsimp only at hx); go_simp; try with_reducible rfl)
                try simp only [Act.put, List.setIfInBounds_toArray, List.set_cons_zero, List.set_cons_succ]
                refine wpAnyH_take (i := 3) (oi := { dst := some 61, op := Op.fieldAddr 23 (Operand.tmp 60) 1, type := 0, pos := "ref.go:330", after := #[{ on := 2, ground := Ground.data }], guard := none }) (v := ?v3rp5) rfl (by kernel_rfl) (by kernel_rfl) (by kernel_rfl) (fun _ _ _ h => h) (Or.inl ⟨by rfl, ?y3rp5⟩) (by assumption) ?r3rp5
                case y3rp5 => (intro x hx; (try dsimp only at hx); go_simp; try with_reducible rfl)
                try simp only [Act.put, List.setIfInBounds_toArray, List.set_cons_zero, List.set_cons_succ]
                refine wpAnyH_take (i := 4) (oi := { dst := some 62, op := Op.load 3 (Operand.tmp 61), type := 3, pos := "ref.go:330", after := #[{ on := 3, ground := Ground.data }], guard := none }) (v := ?v4rp5) rfl (by kernel_rfl) (by kernel_rfl) (by kernel_rfl) (fun _ _ _ h => h) (Or.inl ⟨by rfl, ?y4rp5⟩) (by assumption) ?r4rp5
                case y4rp5 => (intro x hx; (try dsimp only at hx); go_simp; try with_reducible rfl)
                try simp only [Act.put, List.setIfInBounds_toArray, List.set_cons_zero, List.set_cons_succ]
                refine wpAnyH_take (i := 5) (oi := { dst := some 63, op := Op.binOp BinOp.mul 3 (Operand.tmp 59) (Operand.tmp 62) 3, type := 3, pos := "ref.go:330", after := #[{ on := 1, ground := Ground.data }, { on := 4, ground := Ground.data }], guard := none }) (v := ?v5rp5) rfl (by kernel_rfl) (by kernel_rfl) (by kernel_rfl) (fun _ _ _ h => h) (Or.inl ⟨by rfl, ?y5rp5⟩) (by assumption) ?r5rp5
                case y5rp5 => (intro x hx; (try dsimp only at hx); go_simp; try with_reducible rfl)
                try simp only [Act.put, List.setIfInBounds_toArray, List.set_cons_zero, List.set_cons_succ]
                refine wpAnyH_take (i := 6) (oi := { dst := some 64, op := Op.move (Operand.tmp 9), type := 3, pos := "ref.go:330", after := #[], guard := none }) (v := ?v6rp5) rfl (by kernel_rfl) (by kernel_rfl) (by kernel_rfl) (fun _ _ _ h => h) (Or.inl ⟨by rfl, ?y6rp5⟩) (by assumption) ?r6rp5
                case y6rp5 => (intro x hx; (try dsimp only at hx); go_simp; try with_reducible rfl)
                try simp only [Act.put, List.setIfInBounds_toArray, List.set_cons_zero, List.set_cons_succ]
                refine wpAnyH_take (i := 7) (oi := { dst := some 65, op := Op.binOp BinOp.add 3 (Operand.tmp 63) (Operand.tmp 64) 3, type := 3, pos := "ref.go:330", after := #[{ on := 5, ground := Ground.data }, { on := 6, ground := Ground.data }], guard := none }) (v := ?v7rp5) rfl (by kernel_rfl) (by kernel_rfl) (by kernel_rfl) (fun _ _ _ h => h) (Or.inl ⟨by rfl, ?y7rp5⟩) (by assumption) ?r7rp5
                case y7rp5 => (intro x hx; (try dsimp only at hx); go_simp; try with_reducible rfl)
                try simp only [Act.put, List.setIfInBounds_toArray, List.set_cons_zero, List.set_cons_succ]
                refine wpAnyH_take (i := 9) (oi := { dst := some 67, op := Op.load 27 (Operand.tmp 3), type := 27, pos := "ref.go:330", after := #[], guard := none }) (v := ?v9rp5) rfl (by kernel_rfl) (by kernel_rfl) (by kernel_rfl) (fun _ _ _ h => h) (Or.inl ⟨by rfl, ?y9rp5⟩) (by assumption) ?r9rp5
                case y9rp5 => (intro x hx; (try dsimp only at hx); go_simp; try with_reducible rfl)
                try simp only [Act.put, List.setIfInBounds_toArray, List.set_cons_zero, List.set_cons_succ]
                refine wpAnyH_take (i := 10) (oi := { dst := some 68, op := Op.move (Operand.tmp 8), type := 3, pos := "ref.go:330", after := #[], guard := none }) (v := ?v10rp5) rfl (by kernel_rfl) (by kernel_rfl) (by kernel_rfl) (fun _ _ _ h => h) (Or.inl ⟨by rfl, ?y10rp5⟩) (by assumption) ?r10rp5
                case y10rp5 => (intro x hx; (try dsimp only at hx); go_simp; try with_reducible rfl)
                try simp only [Act.put, List.setIfInBounds_toArray, List.set_cons_zero, List.set_cons_succ]
                refine wpAnyH_take (i := 11) (oi := { dst := some 69, op := Op.fieldAddr 27 (Operand.tmp 2) 0, type := 0, pos := "ref.go:330", after := #[], guard := none }) (v := ?v11rp5) rfl (by kernel_rfl) (by kernel_rfl) (by kernel_rfl) (fun _ _ _ h => h) (Or.inl ⟨by rfl, ?y11rp5⟩) (by assumption) ?r11rp5
                case y11rp5 => (intro x hx; (try dsimp only at hx); go_simp; try with_reducible rfl)
                try simp only [Act.put, List.setIfInBounds_toArray, List.set_cons_zero, List.set_cons_succ]
                refine wpAnyH_take (i := 12) (oi := { dst := some 70, op := Op.fieldAddr 23 (Operand.tmp 69) 1, type := 0, pos := "ref.go:330", after := #[{ on := 11, ground := Ground.data }], guard := none }) (v := ?v12rp5) rfl (by kernel_rfl) (by kernel_rfl) (by kernel_rfl) (fun _ _ _ h => h) (Or.inl ⟨by rfl, ?y12rp5⟩) (by assumption) ?r12rp5
                case y12rp5 => (intro x hx; (try dsimp only at hx); go_simp; try with_reducible rfl)
                try simp only [Act.put, List.setIfInBounds_toArray, List.set_cons_zero, List.set_cons_succ]
                refine wpAnyH_take (i := 13) (oi := { dst := some 71, op := Op.load 3 (Operand.tmp 70), type := 3, pos := "ref.go:330", after := #[{ on := 12, ground := Ground.data }], guard := none }) (v := ?v13rp5) rfl (by kernel_rfl) (by kernel_rfl) (by kernel_rfl) (fun _ _ _ h => h) (Or.inl ⟨by rfl, ?y13rp5⟩) (by assumption) ?r13rp5
                case y13rp5 => (intro x hx; (try dsimp only at hx); go_simp; try with_reducible rfl)
                try simp only [Act.put, List.setIfInBounds_toArray, List.set_cons_zero, List.set_cons_succ]
                refine wpAnyH_take (i := 14) (oi := { dst := some 72, op := Op.binOp BinOp.mul 3 (Operand.tmp 68) (Operand.tmp 71) 3, type := 3, pos := "ref.go:330", after := #[{ on := 10, ground := Ground.data }, { on := 13, ground := Ground.data }], guard := none }) (v := ?v14rp5) rfl (by kernel_rfl) (by kernel_rfl) (by kernel_rfl) (fun _ _ _ h => h) (Or.inl ⟨by rfl, ?y14rp5⟩) (by assumption) ?r14rp5
                case y14rp5 => (intro x hx; (try dsimp only at hx); go_simp; try with_reducible rfl)
                try simp only [Act.put, List.setIfInBounds_toArray, List.set_cons_zero, List.set_cons_succ]
                refine wpAnyH_take (i := 15) (oi := { dst := some 73, op := Op.move (Operand.tmp 9), type := 3, pos := "ref.go:330", after := #[], guard := none }) (v := ?v15rp5) rfl (by kernel_rfl) (by kernel_rfl) (by kernel_rfl) (fun _ _ _ h => h) (Or.inl ⟨by rfl, ?y15rp5⟩) (by assumption) ?r15rp5
                case y15rp5 => (intro x hx; (try dsimp only at hx); go_simp; try with_reducible rfl)
                try simp only [Act.put, List.setIfInBounds_toArray, List.set_cons_zero, List.set_cons_succ]
                refine wpAnyH_take (i := 16) (oi := { dst := some 74, op := Op.binOp BinOp.add 3 (Operand.tmp 72) (Operand.tmp 73) 3, type := 3, pos := "ref.go:330", after := #[{ on := 14, ground := Ground.data }, { on := 15, ground := Ground.data }], guard := none }) (v := ?v16rp5) rfl (by kernel_rfl) (by kernel_rfl) (by kernel_rfl) (fun _ _ _ h => h) (Or.inl ⟨by rfl, ?y16rp5⟩) (by assumption) ?r16rp5
                case y16rp5 => (intro x hx; (try dsimp only at hx); go_simp; try with_reducible rfl)
                try simp only [Act.put, List.setIfInBounds_toArray, List.set_cons_zero, List.set_cons_succ]
                refine wpAnyH_ready (rs := [8]) (by kernel_rfl) (by simp) ?_
                refine AllReadyH.cons (o := { dst := some 66, op := Op.call { callee := Callee.value (Operand.func 25), args := #[Operand.tmp 58, Operand.tmp 65], argTypes := #[27, 3] }, type := 24, pos := "ref.go:330", after := #[{ on := 0, ground := Ground.data }, { on := 7, ground := Ground.data }], guard := none }) rfl (fun K hK => ?_) AllReadyH.nil
                go_simp
                go_at_call 25
                refine (rpage_any b p s _ _ n _ m _ xs _ k L (k * L) ((k + 1) * L) (by omega) (by omega) (by omega) (HX.out.below HSD.out.bel) HLs.out rfl rfl HKL.out (by omega)).mono ?_
                rintro e u3 ⟨vp, rfl, own3, b3⟩
                obtain ⟨ap, cp, rfl, rp⟩ := own_reads own3 (HX.out.2.1)
                have HS3 : Hid (Rfd w u3 b p s bk off n c mb mo m c' bk2 off2 c2 mb2 mo2 c2' u7 (D9)) := HSD.out.below b3
                have HP3 : Hid (Reads u3 ap L (pgK xs L k)) := rp
                have hSnew := And.intro (cells5 HS3.out.b1) (cells5 HS3.out.b2)
                clear own3 b3 rp
                go_wp2_with fail
                refine hK.out _ _ hSnew (fun hHeld8 => ?_)
                clear hK K hSnew
                clear hHeld
                have hHeld := hHeld8
                clear hHeld8
                try simp only [Act.put, List.setIfInBounds_toArray, List.set_cons_zero, List.set_cons_succ]
                refine wpAnyH_ready (rs := [17]) (by kernel_rfl) (by simp) ?_
                refine AllReadyH.cons (o := { dst := some 75, op := Op.call { callee := Callee.value (Operand.func 25), args := #[Operand.tmp 67, Operand.tmp 74], argTypes := #[27, 3] }, type := 24, pos := "ref.go:330", after := #[{ on := 9, ground := Ground.data }, { on := 16, ground := Ground.data }, { on := 8, ground := Ground.chain }], guard := none }) rfl (fun K hK => ?_) AllReadyH.nil
                go_simp
                go_at_call 25
                refine (rpage_any b p s _ _ n _ m _ ys _ k L (k * L) ((k + 1) * L) (by omega) (by omega) (by omega) (HY.out.below HS3.out.bel) HLs.out rfl rfl HKL.out (by omega)).mono ?_
                rintro e u4 ⟨vq, rfl, own4, b4⟩
                obtain ⟨aq, cq, rfl, rq⟩ := own_reads own4 (HY.out.2.1)
                have HS4 : Hid (Rfd w u4 b p s bk off n c mb mo m c' bk2 off2 c2 mb2 mo2 c2' u7 (D9)) := HS3.out.below b4
                have HP4 : Hid (Reads u4 ap L (pgK xs L k)) := HP3.out.below b4
                have HP5 : Hid (Reads u4 aq L (pgK ys L k)) := rq
                have hSnew := And.intro (cells5 HS4.out.b1) (cells5 HS4.out.b2)
                clear own4 b4 rq
                go_wp2_with fail
                refine hK.out _ _ hSnew (fun hHeld17 => ?_)
                clear hK K hSnew
                clear hHeld
                have hHeld := hHeld17
                clear hHeld17
                try simp only [Act.put, List.setIfInBounds_toArray, List.set_cons_zero, List.set_cons_succ]
                refine wpAnyH_ready (rs := [18]) (by kernel_rfl) (by simp) ?_
                refine AllReadyH.cons (o := { dst := some 76, op := Op.call { callee := Callee.value (Operand.func 30), args := #[Operand.tmp 66, Operand.tmp 75], argTypes := #[24, 24] }, type := 4, pos := "ref.go:330", after := #[{ on := 8, ground := Ground.data }, { on := 17, ground := Ground.data }, { on := 17, ground := Ground.chain }], guard := none }) rfl (fun K hK => ?_) AllReadyH.nil
                go_simp
                go_at_call 30
                refine (rsame_any ap aq L _ _ (pgK xs L k) (pgK ys L k) _ (by omega) HP4.out HP5.out).mono ?_
                rintro e u5 ⟨rfl, q5, hu5⟩
                rw [HDE.out]
                have b5 : Below u4.heap.size u4 u5 := (by rw [hu5]; exact ⟨rfl, rfl, rfl, Nat.le_refl _, fun _ _ => rfl⟩)
                have HS5 : Hid (Rfd w u5 b p s bk off n c mb mo m c' bk2 off2 c2 mb2 mo2 c2' u7 (D9)) := HS4.out.below b5
                have hSnew := And.intro (cells5 HS5.out.b1) (cells5 HS5.out.b2)
                clear hu5 b5
                go_wp2_with fail
                refine hK.out _ _ hSnew (fun hHeld18 => ?_)
                clear hK K hSnew
                clear hHeld
                have hHeld := hHeld18
                clear hHeld18
                try simp only [Act.put, List.setIfInBounds_toArray, List.set_cons_zero, List.set_cons_succ]
                refine wpAnyH_take (i := 19) (oi := { dst := some 77, op := Op.unOp UnOp.not 4 (Operand.tmp 76), type := 4, pos := "ref.go:330", after := #[{ on := 18, ground := Ground.data }], guard := none }) (v := ?v19rp5) rfl (by kernel_rfl) (by kernel_rfl) (by kernel_rfl) (fun _ _ _ h => h) (Or.inl ⟨by rfl, ?y19rp5⟩) (by assumption) ?r19rp5
                case y19rp5 => (intro x hx; (try dsimp only at hx); go_simp; try with_reducible rfl)
                try simp only [Act.put, List.setIfInBounds_toArray, List.set_cons_zero, List.set_cons_succ]
                refine wpAnyH_done (by kernel_rfl) ?_ _
                go_wp2_with (first
                  | (at_builtin; refine wpList_append_own _ rfl _ _ 46 rfl w.heap.size 38 i0 (.agg #[.int .i64 0, .int .i64 0]) 2 16 Try.underlying46 hi0 hz0 hz1 hz2 rfl (by decide) _ _ _ rfl (HS5.out.row.alloc _) ⟨u5.heap.size, 0, none⟩ 1 1 [.int .i64 (i : Int), .int .i64 (j : Int)] rfl rfl (cell_two_new _ _ _ _) (by simp [Value.oneCell']) (by rw [show maxLen = 9223372036854775807 from rfl]; have := HDL.out; omega) (by have := HDL.out; omega) (by have := HS5.out.bel.size; simp; omega) ?_; intro v7 w7 hown' hgrow _
                     have HA7 : Hid (Rfd w w7 b p s bk off n c mb mo m c' bk2 off2 c2 mb2 mo2 c2' v7 (D9 ++ [(⟨(i : Int), (j : Int)⟩ : Pl)])) := Rfd.app HS5.out ⟨(i : Int), (j : Int)⟩ hown' hgrow
                     clear hown' hgrow))
                go_roundw
                all_goals first
                  | (refine ⟨j + 1, by omega, by simp, ?_⟩; have h9 := HA7.out; unfold Hid; rw [HD9.out, List.append_assoc, List.append_assoc] at h9; rw [dgJ_succ, if_neg (by rw [HKK.out]; exact hpg)]; exact h9)
                  | (simp [intOf]; omega)
            · obtain rfl : j = p := by omega
              have dcj : ¬ (j : Int) < (j : Int) := by omega
              go_wp2_with fail
              go_roundw
              all_goals first
                | (refine ⟨i + 1, by omega, by simp, ?_⟩; unfold Hid; rw [df_block _ _ _ _ _ _ _ (by omega)]; exact HRI.out)
                | (simp [intOf]; omega)
      | true =>
        rw [hg1] at hm1
        cases hg2 : ns.getD i false with
        | false =>
          rw [hg2] at hm2
          have HDG : Hid (dgM ms ns i = [⟨(i : Int), -1⟩]) := by unfold Hid dgM; rw [hg1, hg2]; rfl
          clear hg1 hg2
          go_upto_region 12 with fail
          refine wp_region_held_drew (S := (fun y : World => y.cell? ⟨w.heap.size, 4, none⟩ = some (.slice (some ⟨mb, mo, none⟩) m c') ∧ y.cell? ⟨w.heap.size + 1, 4, none⟩ = some (.slice (some ⟨mb2, mo2, none⟩) m c2') ∧ y.cell? ⟨mb, mo + i, none⟩ = some (.bool true) ∧ y.cell? ⟨mb2, mo2 + i, none⟩ = some (.bool false))) (by kernel_rfl) (⟨(cells5 HRD.out.b1).2.2.2.2, (cells5 HRD.out.b2).2.2.2.2, (HRD.out.bel.cell (p := ⟨mb, mo + i, none⟩) HML.out.1).trans hm1, (HRD.out.bel.cell (p := ⟨mb2, mo2 + i, none⟩) HML.out.2).trans hm2⟩) (fun hHeld => ?_)
          refine wpAnyH_take (i := 0) (oi := { dst := some 35, op := Op.fieldAddr 27 (Operand.tmp 2) 2, type := 0, pos := "ref.go:326", after := #[], guard := none }) (v := ?v0rm3) rfl (by kernel_rfl) (by kernel_rfl) (by kernel_rfl) (fun _ _ _ h => h) (Or.inl ⟨by rfl, ?y0rm3⟩) (by assumption) ?r0rm3
          case y0rm3 => (intro x hx; (try dsimp only at hx); go_simp; try with_reducible rfl)
          try simp only [Act.put, List.setIfInBounds_toArray, List.set_cons_zero, List.set_cons_succ]
          refine wpAnyH_take (i := 1) (oi := { dst := some 36, op := Op.load 25 (Operand.tmp 35), type := 25, pos := "ref.go:326", after := #[{ on := 0, ground := Ground.data }], guard := none }) (v := ?v1rm3) rfl (by kernel_rfl) (by kernel_rfl) (by kernel_rfl) (fun _ _ _ h => h) (Or.inl ⟨by rfl, ?y1rm3⟩) (by assumption) ?r1rm3
          case y1rm3 => (intro x hx; (try dsimp only at hx); go_simp; try with_reducible rfl)
          try simp only [Act.put, List.setIfInBounds_toArray, List.set_cons_zero, List.set_cons_succ]
          refine wpAnyH_take (i := 2) (oi := { dst := some 37, op := Op.move (Operand.tmp 8), type := 3, pos := "ref.go:326", after := #[], guard := none }) (v := ?v2rm3) rfl (by kernel_rfl) (by kernel_rfl) (by kernel_rfl) (fun _ _ _ h => h) (Or.inl ⟨by rfl, ?y2rm3⟩) (by assumption) ?r2rm3
          case y2rm3 => (intro x hx; (try dsimp only at hx); go_simp; try with_reducible rfl)
          try simp only [Act.put, List.setIfInBounds_toArray, List.set_cons_zero, List.set_cons_succ]
          refine wpAnyH_take (i := 3) (oi := { dst := some 38, op := Op.indexAddr 25 (Operand.tmp 36) (Operand.tmp 37), type := 0, pos := "ref.go:326", after := #[{ on := 1, ground := Ground.data }, { on := 2, ground := Ground.data }], guard := none }) (v := ?v3rm3) rfl (by kernel_rfl) (by kernel_rfl) (by kernel_rfl) (fun _ _ _ h => h) (Or.inl ⟨by rfl, ?y3rm3⟩) (by assumption) ?r3rm3
          case y3rm3 => (intro x hx; (try dsimp only at hx); go_simp; try with_reducible rfl)
          try simp only [Act.put, List.setIfInBounds_toArray, List.set_cons_zero, List.set_cons_succ]
          refine wpAnyH_take (i := 4) (oi := { dst := some 39, op := Op.load 4 (Operand.tmp 38), type := 4, pos := "ref.go:326", after := #[{ on := 3, ground := Ground.data }], guard := none }) (v := ?v4rm3) rfl (by kernel_rfl) (by kernel_rfl) (by kernel_rfl) (fun _ _ _ h => h) (Or.inl ⟨by rfl, ?y4rm3⟩) (by assumption) ?r4rm3
          case y4rm3 => (intro x hx; (try dsimp only at hx); go_simp; try with_reducible rfl)
          try simp only [Act.put, List.setIfInBounds_toArray, List.set_cons_zero, List.set_cons_succ]
          refine wpAnyH_take (i := 5) (oi := { dst := some 40, op := Op.fieldAddr 27 (Operand.tmp 3) 2, type := 0, pos := "ref.go:326", after := #[], guard := none }) (v := ?v5rm3) rfl (by kernel_rfl) (by kernel_rfl) (by kernel_rfl) (fun _ _ _ h => h) (Or.inl ⟨by rfl, ?y5rm3⟩) (by assumption) ?r5rm3
          case y5rm3 => (intro x hx; (try dsimp only at hx); go_simp; try with_reducible rfl)
          try simp only [Act.put, List.setIfInBounds_toArray, List.set_cons_zero, List.set_cons_succ]
          refine wpAnyH_take (i := 6) (oi := { dst := some 41, op := Op.load 25 (Operand.tmp 40), type := 25, pos := "ref.go:326", after := #[{ on := 5, ground := Ground.data }], guard := none }) (v := ?v6rm3) rfl (by kernel_rfl) (by kernel_rfl) (by kernel_rfl) (fun _ _ _ h => h) (Or.inl ⟨by rfl, ?y6rm3⟩) (by assumption) ?r6rm3
          case y6rm3 => (intro x hx; (try dsimp only at hx); go_simp; try with_reducible rfl)
          try simp only [Act.put, List.setIfInBounds_toArray, List.set_cons_zero, List.set_cons_succ]
          refine wpAnyH_take (i := 7) (oi := { dst := some 42, op := Op.move (Operand.tmp 8), type := 3, pos := "ref.go:326", after := #[], guard := none }) (v := ?v7rm3) rfl (by kernel_rfl) (by kernel_rfl) (by kernel_rfl) (fun _ _ _ h => h) (Or.inl ⟨by rfl, ?y7rm3⟩) (by assumption) ?r7rm3
          case y7rm3 => (intro x hx; (try dsimp only at hx); go_simp; try with_reducible rfl)
          try simp only [Act.put, List.setIfInBounds_toArray, List.set_cons_zero, List.set_cons_succ]
          refine wpAnyH_take (i := 8) (oi := { dst := some 43, op := Op.indexAddr 25 (Operand.tmp 41) (Operand.tmp 42), type := 0, pos := "ref.go:326", after := #[{ on := 6, ground := Ground.data }, { on := 7, ground := Ground.data }], guard := none }) (v := ?v8rm3) rfl (by kernel_rfl) (by kernel_rfl) (by kernel_rfl) (fun _ _ _ h => h) (Or.inl ⟨by rfl, ?y8rm3⟩) (by assumption) ?r8rm3
          case y8rm3 => (intro x hx; (try dsimp only at hx); go_simp; try with_reducible rfl)
          try simp only [Act.put, List.setIfInBounds_toArray, List.set_cons_zero, List.set_cons_succ]
          refine wpAnyH_take (i := 9) (oi := { dst := some 44, op := Op.load 4 (Operand.tmp 43), type := 4, pos := "ref.go:326", after := #[{ on := 8, ground := Ground.data }], guard := none }) (v := ?v9rm3) rfl (by kernel_rfl) (by kernel_rfl) (by kernel_rfl) (fun _ _ _ h => h) (Or.inl ⟨by rfl, ?y9rm3⟩) (by assumption) ?r9rm3
          case y9rm3 => (intro x hx; (try dsimp only at hx); go_simp; try with_reducible rfl)
          try simp only [Act.put, List.setIfInBounds_toArray, List.set_cons_zero, List.set_cons_succ]
          refine wpAnyH_take (i := 10) (oi := { dst := some 45, op := Op.binOp BinOp.neq 4 (Operand.tmp 39) (Operand.tmp 44) 4, type := 4, pos := "ref.go:326", after := #[{ on := 4, ground := Ground.data }, { on := 9, ground := Ground.data }], guard := none }) (v := ?v10rm3) rfl (by kernel_rfl) (by kernel_rfl) (by kernel_rfl) (fun _ _ _ h => h) (Or.inl ⟨by rfl, ?y10rm3⟩) (by assumption) ?r10rm3
          case y10rm3 => (intro x hx; (try dsimp only at hx); go_simp; try with_reducible rfl)
          try simp only [Act.put, List.setIfInBounds_toArray, List.set_cons_zero, List.set_cons_succ]
          refine wpAnyH_done (by kernel_rfl) ?_ _
          clear hm1 hm2
          obtain ⟨W5, hW5⟩ : ∃ W5, wr.drew = W5 := ⟨_, rfl⟩
          rw [hW5]
          have HRW : Hid (Rfd w W5 b p s bk off n c mb mo m c' bk2 off2 c2 mb2 mo2 c2' u7 (dfL xs ys ms ns L p (i * p))) := by unfold Hid; rw [← hW5]; exact HRD.out
          clear hW5
          go_upto_region 14 with (first
            | (at_builtin; refine wpList_append_own _ rfl _ _ 46 rfl w.heap.size 38 i0 (.agg #[.int .i64 0, .int .i64 0]) 2 16 Try.underlying46 hi0 hz0 hz1 hz2 rfl (by decide) _ _ _ rfl (HRW.out.row.alloc _) ⟨W5.heap.size, 0, none⟩ 1 1 [.int .i64 (i : Int), .int .i64 (-1)] rfl rfl (cell_two_new _ _ _ _) (by simp [Value.oneCell']) (by rw [show maxLen = 9223372036854775807 from rfl]; have := HDL.out; omega) (by have := HDL.out; omega) (by have := HRW.out.bel.size; simp; omega) ?_; intro v6 w6 hown' hgrow _
               have HA6 : Hid (Rfd w w6 b p s bk off n c mb mo m c' bk2 off2 c2 mb2 mo2 c2' v6 (dfL xs ys ms ns L p (i * p) ++ [(⟨(i : Int), (-1)⟩ : Pl)])) := Rfd.app HRW.out ⟨(i : Int), (-1)⟩ hown' hgrow
               clear hown' hgrow))
          go_wp2_with fail
          clear c0 c1 cz2 c3 c4 d0 d1 d2 d3 d4
          go_loopw [7, 9] (fun s7 s9 wr => ∃ j : Nat, j ≤ p ∧ s9 = .int .i64 (j : Int) ∧ Hid (Rfd w wr b p s bk off n c mb mo m c' bk2 off2 c2 mb2 mo2 c2' s7 (dfL xs ys ms ns L p (i * p) ++ (dgM ms ns i ++ dgJ xs ys L p i j)))) (fun _ j _ => p - (intOf j).toNat)
          case atStart =>
            refine ⟨0, by omega, rfl, ?_⟩
            have h9 := HA6.out
            unfold Hid
            rw [show dgJ xs ys L p i 0 = [] by simp [dgJ], List.append_nil, HDG.out]
            exact h9
          case round =>
            obtain ⟨j, hj, rfl, HRI⟩ := hrel
            obtain ⟨c0, c1, cz2, c3, c4⟩ := cells5 HRI.out.b1
            by_cases hcj : j < p
            · have dcj : (j : Int) < (p : Int) := by omega
              have wj : IntKind.i64.wrap ((j : Int) + 1) = (j : Int) + 1 := by rw [IntKind.wrap_i64]; omega
              obtain ⟨k, hk⟩ : ∃ k, i * p + j = k := ⟨_, rfl⟩
              have HKK : Hid (i * p + j = k) := hk
              obtain ⟨ip, hip⟩ : ∃ ip, i * p = ip := ⟨_, rfl⟩
              have hkN : k < N := by
                have h8 := Nat.mul_le_mul_right p (show i + 1 ≤ b by omega)
                rw [Nat.succ_mul, HN.out] at h8
                omega
              have wip : IntKind.i64.wrap ((i : Int) * (p : Int)) = (ip : Int) := by rw [← Int.natCast_mul, hip, IntKind.wrap_i64]; omega
              have wk : IntKind.i64.wrap ((ip : Int) + (j : Int)) = (k : Int) := by rw [IntKind.wrap_i64]; omega
              have HKL : Hid ((k + 1) * L ≤ n) := by unfold Hid; rw [Hn.out]; exact Nat.mul_le_mul_right L hkN
              obtain ⟨D9, hD9⟩ : ∃ D9, D9 = dfL xs ys ms ns L p (i * p) ++ (dgM ms ns i ++ dgJ xs ys L p i j) := ⟨_, rfl⟩
              have HD9 : Hid (D9 = dfL xs ys ms ns L p (i * p) ++ (dgM ms ns i ++ dgJ xs ys L p i j)) := hD9
              have HDL : Hid (D9.length ≤ 300000) := by
                unfold Hid
                have h6 := dfL_len xs ys ms ns L p (i * p)
                have h7 := dgM_len ms ns i
                have h8 := dgJ_len xs ys L p i j
                rw [hD9, List.length_append, List.length_append]
                omega
              have HSD : Hid (Rfd w wr.drew b p s bk off n c mb mo m c' bk2 off2 c2 mb2 mo2 c2' u7 (D9)) := by
                unfold Hid
                rw [hD9]
                exact HRI.out.below ⟨rfl, rfl, rfl, Nat.le_refl _, fun _ _ => rfl⟩
              clear hk hip hD9 HRI
              by_cases hpg : pgK xs L k = pgK ys L k
              · have HDE : Hid (decide (pgK xs L k = pgK ys L k) = true) := decide_eq_true hpg
                go_upto_region 17 with fail
                refine wp_region_held_drew (S := (fun y : World => (y.cell? ⟨w.heap.size, 0, none⟩ = some (.int .i64 (b : Int)) ∧ y.cell? ⟨w.heap.size, 1, none⟩ = some (.int .i64 (p : Int)) ∧ y.cell? ⟨w.heap.size, 2, none⟩ = some (.int .i64 (s : Int)) ∧ y.cell? ⟨w.heap.size, 3, none⟩ = some (.slice (some ⟨bk, off, none⟩) n c) ∧ y.cell? ⟨w.heap.size, 4, none⟩ = some (.slice (some ⟨mb, mo, none⟩) m c')) ∧ (y.cell? ⟨w.heap.size + 1, 0, none⟩ = some (.int .i64 (b : Int)) ∧ y.cell? ⟨w.heap.size + 1, 1, none⟩ = some (.int .i64 (p : Int)) ∧ y.cell? ⟨w.heap.size + 1, 2, none⟩ = some (.int .i64 (s : Int)) ∧ y.cell? ⟨w.heap.size + 1, 3, none⟩ = some (.slice (some ⟨bk2, off2, none⟩) n c2) ∧ y.cell? ⟨w.heap.size + 1, 4, none⟩ = some (.slice (some ⟨mb2, mo2, none⟩) m c2')))) (by kernel_rfl) (And.intro (cells5 HSD.out.b1) (cells5 HSD.out.b2)) (fun hHeld => ?_)
                refine wpAnyH_take (i := 0) (oi := { dst := some 58, op := Op.load 27 (Operand.tmp 2), type := 27, pos := "ref.go:330", after := #[], guard := none }) (v := ?v0rp6) rfl (by kernel_rfl) (by kernel_rfl) (by kernel_rfl) (fun _ _ _ h => h) (Or.inl ⟨by rfl, ?y0rp6⟩) (by assumption) ?r0rp6
                case y0rp6 => (intro x hx; (try dsimp only at hx); go_simp; try with_reducible rfl)
                try simp only [Act.put, List.setIfInBounds_toArray, List.set_cons_zero, List.set_cons_succ]
                refine wpAnyH_take (i := 1) (oi := { dst := some 59, op := Op.move (Operand.tmp 8), type := 3, pos := "ref.go:330", after := #[], guard := none }) (v := ?v1rp6) rfl (by kernel_rfl) (by kernel_rfl) (by kernel_rfl) (fun _ _ _ h => h) (Or.inl ⟨by rfl, ?y1rp6⟩) (by assumption) ?r1rp6
                case y1rp6 => (intro x hx; (try dsimp only at hx); go_simp; try with_reducible rfl)
                try simp only [Act.put, List.setIfInBounds_toArray, List.set_cons_zero, List.set_cons_succ]
                refine wpAnyH_take (i := 2) (oi := { dst := some 60, op := Op.fieldAddr 27 (Operand.tmp 2) 0, type := 0, pos := "ref.go:330", after := #[], guard := none }) (v := ?v2rp6) rfl (by kernel_rfl) (by kernel_rfl) (by kernel_rfl) (fun _ _ _ h => h) (Or.inl ⟨by rfl, ?y2rp6⟩) (by assumption) ?r2rp6
                case y2rp6 => (intro x hx; (try dsimp only at hx); go_simp; try with_reducible rfl)
                try simp only [Act.put, List.setIfInBounds_toArray, List.set_cons_zero, List.set_cons_succ]
                refine wpAnyH_take (i := 3) (oi := { dst := some 61, op := Op.fieldAddr 23 (Operand.tmp 60) 1, type := 0, pos := "ref.go:330", after := #[{ on := 2, ground := Ground.data }], guard := none }) (v := ?v3rp6) rfl (by kernel_rfl) (by kernel_rfl) (by kernel_rfl) (fun _ _ _ h => h) (Or.inl ⟨by rfl, ?y3rp6⟩) (by assumption) ?r3rp6
                case y3rp6 => (intro x hx; (try dsimp only at hx); go_simp; try with_reducible rfl)
                try simp only [Act.put, List.setIfInBounds_toArray, List.set_cons_zero, List.set_cons_succ]
                refine wpAnyH_take (i := 4) (oi := { dst := some 62, op := Op.load 3 (Operand.tmp 61), type := 3, pos := "ref.go:330", after := #[{ on := 3, ground := Ground.data }], guard := none }) (v := ?v4rp6) rfl (by kernel_rfl) (by kernel_rfl) (by kernel_rfl) (fun _ _ _ h => h) (Or.inl ⟨by rfl, ?y4rp6⟩) (by assumption) ?r4rp6
                case y4rp6 => (intro x hx; (try dsimp only at hx); go_simp; try with_reducible rfl)
                try simp only [Act.put, List.setIfInBounds_toArray, List.set_cons_zero, List.set_cons_succ]
                refine wpAnyH_take (i := 5) (oi := { dst := some 63, op := Op.binOp BinOp.mul 3 (Operand.tmp 59) (Operand.tmp 62) 3, type := 3, pos := "ref.go:330", after := #[{ on := 1, ground := Ground.data }, { on := 4, ground := Ground.data }], guard := none }) (v := ?v5rp6) rfl (by kernel_rfl) (by kernel_rfl) (by kernel_rfl) (fun _ _ _ h => h) (Or.inl ⟨by rfl, ?y5rp6⟩) (by assumption) ?r5rp6
                case y5rp6 => (intro x hx; (try dsimp only at hx); go_simp; try with_reducible rfl)
                try simp only [Act.put, List.setIfInBounds_toArray, List.set_cons_zero, List.set_cons_succ]
                refine wpAnyH_take (i := 6) (oi := { dst := some 64, op := Op.move (Operand.tmp 9), type := 3, pos := "ref.go:330", after := #[], guard := none }) (v := ?v6rp6) rfl (by kernel_rfl) (by kernel_rfl) (by kernel_rfl) (fun _ _ _ h => h) (Or.inl ⟨by rfl, ?y6rp6⟩) (by assumption) ?r6rp6
                case y6rp6 => (intro x hx; (try dsimp only at hx); go_simp; try with_reducible rfl)
                try simp only [Act.put, List.setIfInBounds_toArray, List.set_cons_zero, List.set_cons_succ]
                refine wpAnyH_take (i := 7) (oi := { dst := some 65, op := Op.binOp BinOp.add 3 (Operand.tmp 63) (Operand.tmp 64) 3, type := 3, pos := "ref.go:330", after := #[{ on := 5, ground := Ground.data }, { on := 6, ground := Ground.data }], guard := none }) (v := ?v7rp6) rfl (by kernel_rfl) (by kernel_rfl) (by kernel_rfl) (fun _ _ _ h => h) (Or.inl ⟨by rfl, ?y7rp6⟩) (by assumption) ?r7rp6
                case y7rp6 => (intro x hx; (try dsimp only at hx); go_simp; try with_reducible rfl)
                try simp only [Act.put, List.setIfInBounds_toArray, List.set_cons_zero, List.set_cons_succ]
                refine wpAnyH_take (i := 9) (oi := { dst := some 67, op := Op.load 27 (Operand.tmp 3), type := 27, pos := "ref.go:330", after := #[], guard := none }) (v := ?v9rp6) rfl (by kernel_rfl) (by kernel_rfl) (by kernel_rfl) (fun _ _ _ h => h) (Or.inl ⟨by rfl, ?y9rp6⟩) (by assumption) ?r9rp6
                case y9rp6 => (intro x hx; (try dsimp only at hx); go_simp; try with_reducible rfl)
                try simp only [Act.put, List.setIfInBounds_toArray, List.set_cons_zero, List.set_cons_succ]
                refine wpAnyH_take (i := 10) (oi := { dst := some 68, op := Op.move (Operand.tmp 8), type := 3, pos := "ref.go:330", after := #[], guard := none }) (v := ?v10rp6) rfl (by kernel_rfl) (by kernel_rfl) (by kernel_rfl) (fun _ _ _ h => h) (Or.inl ⟨by rfl, ?y10rp6⟩) (by assumption) ?r10rp6
                case y10rp6 => (intro x hx; (try dsimp only at hx); go_simp; try with_reducible rfl)
                try simp only [Act.put, List.setIfInBounds_toArray, List.set_cons_zero, List.set_cons_succ]
                refine wpAnyH_take (i := 11) (oi := { dst := some 69, op := Op.fieldAddr 27 (Operand.tmp 2) 0, type := 0, pos := "ref.go:330", after := #[], guard := none }) (v := ?v11rp6) rfl (by kernel_rfl) (by kernel_rfl) (by kernel_rfl) (fun _ _ _ h => h) (Or.inl ⟨by rfl, ?y11rp6⟩) (by assumption) ?r11rp6
                case y11rp6 => (intro x hx; (try dsimp only at hx); go_simp; try with_reducible rfl)
                try simp only [Act.put, List.setIfInBounds_toArray, List.set_cons_zero, List.set_cons_succ]
                refine wpAnyH_take (i := 12) (oi := { dst := some 70, op := Op.fieldAddr 23 (Operand.tmp 69) 1, type := 0, pos := "ref.go:330", after := #[{ on := 11, ground := Ground.data }], guard := none }) (v := ?v12rp6) rfl (by kernel_rfl) (by kernel_rfl) (by kernel_rfl) (fun _ _ _ h => h) (Or.inl ⟨by rfl, ?y12rp6⟩) (by assumption) ?r12rp6
                case y12rp6 => (intro x hx; (try dsimp only at hx); go_simp; try with_reducible rfl)
                try simp only [Act.put, List.setIfInBounds_toArray, List.set_cons_zero, List.set_cons_succ]
                refine wpAnyH_take (i := 13) (oi := { dst := some 71, op := Op.load 3 (Operand.tmp 70), type := 3, pos := "ref.go:330", after := #[{ on := 12, ground := Ground.data }], guard := none }) (v := ?v13rp6) rfl (by kernel_rfl) (by kernel_rfl) (by kernel_rfl) (fun _ _ _ h => h) (Or.inl ⟨by rfl, ?y13rp6⟩) (by assumption) ?r13rp6
                case y13rp6 => (intro x hx; (try dsimp only at hx); go_simp; try with_reducible rfl)
                try simp only [Act.put, List.setIfInBounds_toArray, List.set_cons_zero, List.set_cons_succ]
                refine wpAnyH_take (i := 14) (oi := { dst := some 72, op := Op.binOp BinOp.mul 3 (Operand.tmp 68) (Operand.tmp 71) 3, type := 3, pos := "ref.go:330", after := #[{ on := 10, ground := Ground.data }, { on := 13, ground := Ground.data }], guard := none }) (v := ?v14rp6) rfl (by kernel_rfl) (by kernel_rfl) (by kernel_rfl) (fun _ _ _ h => h) (Or.inl ⟨by rfl, ?y14rp6⟩) (by assumption) ?r14rp6
                case y14rp6 => (intro x hx; (try dsimp only at hx); go_simp; try with_reducible rfl)
                try simp only [Act.put, List.setIfInBounds_toArray, List.set_cons_zero, List.set_cons_succ]
                refine wpAnyH_take (i := 15) (oi := { dst := some 73, op := Op.move (Operand.tmp 9), type := 3, pos := "ref.go:330", after := #[], guard := none }) (v := ?v15rp6) rfl (by kernel_rfl) (by kernel_rfl) (by kernel_rfl) (fun _ _ _ h => h) (Or.inl ⟨by rfl, ?y15rp6⟩) (by assumption) ?r15rp6
                case y15rp6 => (intro x hx; (try dsimp only at hx); go_simp; try with_reducible rfl)
                try simp only [Act.put, List.setIfInBounds_toArray, List.set_cons_zero, List.set_cons_succ]
                refine wpAnyH_take (i := 16) (oi := { dst := some 74, op := Op.binOp BinOp.add 3 (Operand.tmp 72) (Operand.tmp 73) 3, type := 3, pos := "ref.go:330", after := #[{ on := 14, ground := Ground.data }, { on := 15, ground := Ground.data }], guard := none }) (v := ?v16rp6) rfl (by kernel_rfl) (by kernel_rfl) (by kernel_rfl) (fun _ _ _ h => h) (Or.inl ⟨by rfl, ?y16rp6⟩) (by assumption) ?r16rp6
                case y16rp6 => (intro x hx; (try dsimp only at hx); go_simp; try with_reducible rfl)
                try simp only [Act.put, List.setIfInBounds_toArray, List.set_cons_zero, List.set_cons_succ]
                refine wpAnyH_ready (rs := [8]) (by kernel_rfl) (by simp) ?_
                refine AllReadyH.cons (o := { dst := some 66, op := Op.call { callee := Callee.value (Operand.func 25), args := #[Operand.tmp 58, Operand.tmp 65], argTypes := #[27, 3] }, type := 24, pos := "ref.go:330", after := #[{ on := 0, ground := Ground.data }, { on := 7, ground := Ground.data }], guard := none }) rfl (fun K hK => ?_) AllReadyH.nil
                go_simp
                go_at_call 25
                refine (rpage_any b p s _ _ n _ m _ xs _ k L (k * L) ((k + 1) * L) (by omega) (by omega) (by omega) (HX.out.below HSD.out.bel) HLs.out rfl rfl HKL.out (by omega)).mono ?_
                rintro e u3 ⟨vp, rfl, own3, b3⟩
                obtain ⟨ap, cp, rfl, rp⟩ := own_reads own3 (HX.out.2.1)
                have HS3 : Hid (Rfd w u3 b p s bk off n c mb mo m c' bk2 off2 c2 mb2 mo2 c2' u7 (D9)) := HSD.out.below b3
                have HP3 : Hid (Reads u3 ap L (pgK xs L k)) := rp
                have hSnew := And.intro (cells5 HS3.out.b1) (cells5 HS3.out.b2)
                clear own3 b3 rp
                go_wp2_with fail
                refine hK.out _ _ hSnew (fun hHeld8 => ?_)
                clear hK K hSnew
                clear hHeld
                have hHeld := hHeld8
                clear hHeld8
                try simp only [Act.put, List.setIfInBounds_toArray, List.set_cons_zero, List.set_cons_succ]
                refine wpAnyH_ready (rs := [17]) (by kernel_rfl) (by simp) ?_
                refine AllReadyH.cons (o := { dst := some 75, op := Op.call { callee := Callee.value (Operand.func 25), args := #[Operand.tmp 67, Operand.tmp 74], argTypes := #[27, 3] }, type := 24, pos := "ref.go:330", after := #[{ on := 9, ground := Ground.data }, { on := 16, ground := Ground.data }, { on := 8, ground := Ground.chain }], guard := none }) rfl (fun K hK => ?_) AllReadyH.nil
                go_simp
                go_at_call 25
                refine (rpage_any b p s _ _ n _ m _ ys _ k L (k * L) ((k + 1) * L) (by omega) (by omega) (by omega) (HY.out.below HS3.out.bel) HLs.out rfl rfl HKL.out (by omega)).mono ?_
                rintro e u4 ⟨vq, rfl, own4, b4⟩
                obtain ⟨aq, cq, rfl, rq⟩ := own_reads own4 (HY.out.2.1)
                have HS4 : Hid (Rfd w u4 b p s bk off n c mb mo m c' bk2 off2 c2 mb2 mo2 c2' u7 (D9)) := HS3.out.below b4
                have HP4 : Hid (Reads u4 ap L (pgK xs L k)) := HP3.out.below b4
                have HP5 : Hid (Reads u4 aq L (pgK ys L k)) := rq
                have hSnew := And.intro (cells5 HS4.out.b1) (cells5 HS4.out.b2)
                clear own4 b4 rq
                go_wp2_with fail
                refine hK.out _ _ hSnew (fun hHeld17 => ?_)
                clear hK K hSnew
                clear hHeld
                have hHeld := hHeld17
                clear hHeld17
                try simp only [Act.put, List.setIfInBounds_toArray, List.set_cons_zero, List.set_cons_succ]
                refine wpAnyH_ready (rs := [18]) (by kernel_rfl) (by simp) ?_
                refine AllReadyH.cons (o := { dst := some 76, op := Op.call { callee := Callee.value (Operand.func 30), args := #[Operand.tmp 66, Operand.tmp 75], argTypes := #[24, 24] }, type := 4, pos := "ref.go:330", after := #[{ on := 8, ground := Ground.data }, { on := 17, ground := Ground.data }, { on := 17, ground := Ground.chain }], guard := none }) rfl (fun K hK => ?_) AllReadyH.nil
                go_simp
                go_at_call 30
                refine (rsame_any ap aq L _ _ (pgK xs L k) (pgK ys L k) _ (by omega) HP4.out HP5.out).mono ?_
                rintro e u5 ⟨rfl, q5, hu5⟩
                rw [HDE.out]
                have b5 : Below u4.heap.size u4 u5 := (by rw [hu5]; exact ⟨rfl, rfl, rfl, Nat.le_refl _, fun _ _ => rfl⟩)
                have HS5 : Hid (Rfd w u5 b p s bk off n c mb mo m c' bk2 off2 c2 mb2 mo2 c2' u7 (D9)) := HS4.out.below b5
                have hSnew := And.intro (cells5 HS5.out.b1) (cells5 HS5.out.b2)
                clear hu5 b5
                go_wp2_with fail
                refine hK.out _ _ hSnew (fun hHeld18 => ?_)
                clear hK K hSnew
                clear hHeld
                have hHeld := hHeld18
                clear hHeld18
                try simp only [Act.put, List.setIfInBounds_toArray, List.set_cons_zero, List.set_cons_succ]
                refine wpAnyH_take (i := 19) (oi := { dst := some 77, op := Op.unOp UnOp.not 4 (Operand.tmp 76), type := 4, pos := "ref.go:330", after := #[{ on := 18, ground := Ground.data }], guard := none }) (v := ?v19rp6) rfl (by kernel_rfl) (by kernel_rfl) (by kernel_rfl) (fun _ _ _ h => h) (Or.inl ⟨by rfl, ?y19rp6⟩) (by assumption) ?r19rp6
                case y19rp6 => (intro x hx; (try dsimp only at hx); go_simp; try with_reducible rfl)
                try simp only [Act.put, List.setIfInBounds_toArray, List.set_cons_zero, List.set_cons_succ]
                refine wpAnyH_done (by kernel_rfl) ?_ _
                go_wp2_with fail
                go_roundw
                all_goals first
                  | (refine ⟨j + 1, by omega, by simp, ?_⟩; have h9 := HS5.out; unfold Hid; rw [HD9.out] at h9; rw [dgJ_succ, if_pos (by rw [HKK.out]; exact hpg), List.append_nil]; exact h9)
                  | (simp [intOf]; omega)
              · have HDE : Hid (decide (pgK xs L k = pgK ys L k) = false) := decide_eq_false hpg
                go_upto_region 17 with fail
                refine wp_region_held_drew (S := (fun y : World => (y.cell? ⟨w.heap.size, 0, none⟩ = some (.int .i64 (b : Int)) ∧ y.cell? ⟨w.heap.size, 1, none⟩ = some (.int .i64 (p : Int)) ∧ y.cell? ⟨w.heap.size, 2, none⟩ = some (.int .i64 (s : Int)) ∧ y.cell? ⟨w.heap.size, 3, none⟩ = some (.slice (some ⟨bk, off, none⟩) n c) ∧ y.cell? ⟨w.heap.size, 4, none⟩ = some (.slice (some ⟨mb, mo, none⟩) m c')) ∧ (y.cell? ⟨w.heap.size + 1, 0, none⟩ = some (.int .i64 (b : Int)) ∧ y.cell? ⟨w.heap.size + 1, 1, none⟩ = some (.int .i64 (p : Int)) ∧ y.cell? ⟨w.heap.size + 1, 2, none⟩ = some (.int .i64 (s : Int)) ∧ y.cell? ⟨w.heap.size + 1, 3, none⟩ = some (.slice (some ⟨bk2, off2, none⟩) n c2) ∧ y.cell? ⟨w.heap.size + 1, 4, none⟩ = some (.slice (some ⟨mb2, mo2, none⟩) m c2')))) (by kernel_rfl) (And.intro (cells5 HSD.out.b1) (cells5 HSD.out.b2)) (fun hHeld => ?_)
                refine wpAnyH_take (i := 0) (oi := { dst := some 58, op := Op.load 27 (Operand.tmp 2), type := 27, pos := "ref.go:330", after := #[], guard := none }) (v := ?v0rp7) rfl (by kernel_rfl) (by kernel_rfl) (by kernel_rfl) (fun _ _ _ h => h) (Or.inl ⟨by rfl, ?y0rp7⟩) (by assumption) ?r0rp7
                case y0rp7 => (intro x hx; (try dsimp only at hx); go_simp; try with_reducible rfl)
                try simp only [Act.put, List.setIfInBounds_toArray, List.set_cons_zero, List.set_cons_succ]
                refine wpAnyH_take (i := 1) (oi := { dst := some 59, op := Op.move (Operand.tmp 8), type := 3, pos := "ref.go:330", after := #[], guard := none }) (v := ?v1rp7) rfl (by kernel_rfl) (by kernel_rfl) (by kernel_rfl) (fun _ _ _ h => h) (Or.inl ⟨by rfl, ?y1rp7⟩) (by assumption) ?r1rp7
                case y1rp7 => (intro x hx; (try dsimp only at hx); go_simp; try with_reducible rfl)
                try simp only [Act.put, List.setIfInBounds_toArray, List.set_cons_zero, List.set_cons_succ]
                refine wpAnyH_take (i := 2) (oi := { dst := some 60, op := Op.fieldAddr 27 (Operand.tmp 2) 0, type := 0, pos := "ref.go:330", after := #[], guard := none }) (v := ?v2rp7) rfl (by kernel_rfl) (by kernel_rfl) (by kernel_rfl) (fun _ _ _ h => h) (Or.inl ⟨by rfl, ?y2rp7⟩) (by assumption) ?r2rp7
                case y2rp7 => (intro x hx; (try dsimp only at hx); go_simp; try with_reducible rfl)
                try simp only [Act.put, List.setIfInBounds_toArray, List.set_cons_zero, List.set_cons_succ]
                refine wpAnyH_take (i := 3) (oi := { dst := some 61, op := Op.fieldAddr 23 (Operand.tmp 60) 1, type := 0, pos := "ref.go:330", after := #[{ on := 2, ground := Ground.data }], guard := none }) (v := ?v3rp7) rfl (by kernel_rfl) (by kernel_rfl) (by kernel_rfl) (fun _ _ _ h => h) (Or.inl ⟨by rfl, ?y3rp7⟩) (by assumption) ?r3rp7
                case y3rp7 => (intro x hx; (try dsimp only at hx); go_simp; try with_reducible rfl)
                try simp only [Act.put, List.setIfInBounds_toArray, List.set_cons_zero, List.set_cons_succ]
                refine wpAnyH_take (i := 4) (oi := { dst := some 62, op := Op.load 3 (Operand.tmp 61), type := 3, pos := "ref.go:330", after := #[{ on := 3, ground := Ground.data }], guard := none }) (v := ?v4rp7) rfl (by kernel_rfl) (by kernel_rfl) (by kernel_rfl) (fun _ _ _ h => h) (Or.inl ⟨by rfl, ?y4rp7⟩) (by assumption) ?r4rp7
                case y4rp7 => (intro x hx; (try dsimp only at hx); go_simp; try with_reducible rfl)
                try simp only [Act.put, List.setIfInBounds_toArray, List.set_cons_zero, List.set_cons_succ]
                refine wpAnyH_take (i := 5) (oi := { dst := some 63, op := Op.binOp BinOp.mul 3 (Operand.tmp 59) (Operand.tmp 62) 3, type := 3, pos := "ref.go:330", after := #[{ on := 1, ground := Ground.data }, { on := 4, ground := Ground.data }], guard := none }) (v := ?v5rp7) rfl (by kernel_rfl) (by kernel_rfl) (by kernel_rfl) (fun _ _ _ h => h) (Or.inl ⟨by rfl, ?y5rp7⟩) (by assumption) ?r5rp7
                case y5rp7 => (intro x hx; (try dsimp only at hx); go_simp; try with_reducible rfl)
                try simp only [Act.put, List.setIfInBounds_toArray, List.set_cons_zero, List.set_cons_succ]
                refine wpAnyH_take (i := 6) (oi := { dst := some 64, op := Op.move (Operand.tmp 9), type := 3, pos := "ref.go:330", after := #[], guard := none }) (v := ?v6rp7) rfl (by kernel_rfl) (by kernel_rfl) (by kernel_rfl) (fun _ _ _ h => h) (Or.inl ⟨by rfl, ?y6rp7⟩) (by assumption) ?r6rp7
                case y6rp7 => (intro x hx; (try dsimp only at hx); go_simp; try with_reducible rfl)
                try simp only [Act.put, List.setIfInBounds_toArray, List.set_cons_zero, List.set_cons_succ]
                refine wpAnyH_take (i := 7) (oi := { dst := some 65, op := Op.binOp BinOp.add 3 (Operand.tmp 63) (Operand.tmp 64) 3, type := 3, pos := "ref.go:330", after := #[{ on := 5, ground := Ground.data }, { on := 6, ground := Ground.data }], guard := none }) (v := ?v7rp7) rfl (by kernel_rfl) (by kernel_rfl) (by kernel_rfl) (fun _ _ _ h => h) (Or.inl ⟨by rfl, ?y7rp7⟩) (by assumption) ?r7rp7
                case y7rp7 => (intro x hx; (try dsimp only at hx); go_simp; try with_reducible rfl)
                try simp only [Act.put, List.setIfInBounds_toArray, List.set_cons_zero, List.set_cons_succ]
                refine wpAnyH_take (i := 9) (oi := { dst := some 67, op := Op.load 27 (Operand.tmp 3), type := 27, pos := "ref.go:330", after := #[], guard := none }) (v := ?v9rp7) rfl (by kernel_rfl) (by kernel_rfl) (by kernel_rfl) (fun _ _ _ h => h) (Or.inl ⟨by rfl, ?y9rp7⟩) (by assumption) ?r9rp7
                case y9rp7 => (intro x hx; (try dsimp only at hx); go_simp; try with_reducible rfl)
                try simp only [Act.put, List.setIfInBounds_toArray, List.set_cons_zero, List.set_cons_succ]
                refine wpAnyH_take (i := 10) (oi := { dst := some 68, op := Op.move (Operand.tmp 8), type := 3, pos := "ref.go:330", after := #[], guard := none }) (v := ?v10rp7) rfl (by kernel_rfl) (by kernel_rfl) (by kernel_rfl) (fun _ _ _ h => h) (Or.inl ⟨by rfl, ?y10rp7⟩) (by assumption) ?r10rp7
                case y10rp7 => (intro x hx; (try dsimp only at hx); go_simp; try with_reducible rfl)
                try simp only [Act.put, List.setIfInBounds_toArray, List.set_cons_zero, List.set_cons_succ]
                refine wpAnyH_take (i := 11) (oi := { dst := some 69, op := Op.fieldAddr 27 (Operand.tmp 2) 0, type := 0, pos := "ref.go:330", after := #[], guard := none }) (v := ?v11rp7) rfl (by kernel_rfl) (by kernel_rfl) (by kernel_rfl) (fun _ _ _ h => h) (Or.inl ⟨by rfl, ?y11rp7⟩) (by assumption) ?r11rp7
                case y11rp7 => (intro x hx; (try dsimp only at hx); go_simp; try with_reducible rfl)
                try simp only [Act.put, List.setIfInBounds_toArray, List.set_cons_zero, List.set_cons_succ]
                refine wpAnyH_take (i := 12) (oi := { dst := some 70, op := Op.fieldAddr 23 (Operand.tmp 69) 1, type := 0, pos := "ref.go:330", after := #[{ on := 11, ground := Ground.data }], guard := none }) (v := ?v12rp7) rfl (by kernel_rfl) (by kernel_rfl) (by kernel_rfl) (fun _ _ _ h => h) (Or.inl ⟨by rfl, ?y12rp7⟩) (by assumption) ?r12rp7
                case y12rp7 => (intro x hx; (try dsimp only at hx); go_simp; try with_reducible rfl)
                try simp only [Act.put, List.setIfInBounds_toArray, List.set_cons_zero, List.set_cons_succ]
                refine wpAnyH_take (i := 13) (oi := { dst := some 71, op := Op.load 3 (Operand.tmp 70), type := 3, pos := "ref.go:330", after := #[{ on := 12, ground := Ground.data }], guard := none }) (v := ?v13rp7) rfl (by kernel_rfl) (by kernel_rfl) (by kernel_rfl) (fun _ _ _ h => h) (Or.inl ⟨by rfl, ?y13rp7⟩) (by assumption) ?r13rp7
                case y13rp7 => (intro x hx; (try dsimp only at hx); go_simp; try with_reducible rfl)
                try simp only [Act.put, List.setIfInBounds_toArray, List.set_cons_zero, List.set_cons_succ]
                refine wpAnyH_take (i := 14) (oi := { dst := some 72, op := Op.binOp BinOp.mul 3 (Operand.tmp 68) (Operand.tmp 71) 3, type := 3, pos := "ref.go:330", after := #[{ on := 10, ground := Ground.data }, { on := 13, ground := Ground.data }], guard := none }) (v := ?v14rp7) rfl (by kernel_rfl) (by kernel_rfl) (by kernel_rfl) (fun _ _ _ h => h) (Or.inl ⟨by rfl, ?y14rp7⟩) (by assumption) ?r14rp7
                case y14rp7 => (intro x hx; (try dsimp only at hx); go_simp; try with_reducible rfl)
                try simp only [Act.put, List.setIfInBounds_toArray, List.set_cons_zero, List.set_cons_succ]
                refine wpAnyH_take (i := 15) (oi := { dst := some 73, op := Op.move (Operand.tmp 9), type := 3, pos := "ref.go:330", after := #[], guard := none }) (v := ?v15rp7) rfl (by kernel_rfl) (by kernel_rfl) (by kernel_rfl) (fun _ _ _ h => h) (Or.inl ⟨by rfl, ?y15rp7⟩) (by assumption) ?r15rp7
                case y15rp7 => (intro x hx; (try dsimp only at hx); go_simp; try with_reducible rfl)
                try simp only [Act.put, List.setIfInBounds_toArray, List.set_cons_zero, List.set_cons_succ]
                refine wpAnyH_take (i := 16) (oi := { dst := some 74, op := Op.binOp BinOp.add 3 (Operand.tmp 72) (Operand.tmp 73) 3, type := 3, pos := "ref.go:330", after := #[{ on := 14, ground := Ground.data }, { on := 15, ground := Ground.data }], guard := none }) (v := ?v16rp7) rfl (by kernel_rfl) (by kernel_rfl) (by kernel_rfl) (fun _ _ _ h => h) (Or.inl ⟨by rfl, ?y16rp7⟩) (by assumption) ?r16rp7
                case y16rp7 => (intro x hx; (try dsimp only at hx); go_simp; try with_reducible rfl)
                try simp only [Act.put, List.setIfInBounds_toArray, List.set_cons_zero, List.set_cons_succ]
                refine wpAnyH_ready (rs := [8]) (by kernel_rfl) (by simp) ?_
                refine AllReadyH.cons (o := { dst := some 66, op := Op.call { callee := Callee.value (Operand.func 25), args := #[Operand.tmp 58, Operand.tmp 65], argTypes := #[27, 3] }, type := 24, pos := "ref.go:330", after := #[{ on := 0, ground := Ground.data }, { on := 7, ground := Ground.data }], guard := none }) rfl (fun K hK => ?_) AllReadyH.nil
                go_simp
                go_at_call 25
                refine (rpage_any b p s _ _ n _ m _ xs _ k L (k * L) ((k + 1) * L) (by omega) (by omega) (by omega) (HX.out.below HSD.out.bel) HLs.out rfl rfl HKL.out (by omega)).mono ?_
                rintro e u3 ⟨vp, rfl, own3, b3⟩
                obtain ⟨ap, cp, rfl, rp⟩ := own_reads own3 (HX.out.2.1)
                have HS3 : Hid (Rfd w u3 b p s bk off n c mb mo m c' bk2 off2 c2 mb2 mo2 c2' u7 (D9)) := HSD.out.below b3
                have HP3 : Hid (Reads u3 ap L (pgK xs L k)) := rp
                have hSnew := And.intro (cells5 HS3.out.b1) (cells5 HS3.out.b2)
                clear own3 b3 rp
                go_wp2_with fail
                refine hK.out _ _ hSnew (fun hHeld8 => ?_)
                clear hK K hSnew
                clear hHeld
                have hHeld := hHeld8
                clear hHeld8
                try simp only [Act.put, List.setIfInBounds_toArray, List.set_cons_zero, List.set_cons_succ]
                refine wpAnyH_ready (rs := [17]) (by kernel_rfl) (by simp) ?_
                refine AllReadyH.cons (o := { dst := some 75, op := Op.call { callee := Callee.value (Operand.func 25), args := #[Operand.tmp 67, Operand.tmp 74], argTypes := #[27, 3] }, type := 24, pos := "ref.go:330", after := #[{ on := 9, ground := Ground.data }, { on := 16, ground := Ground.data }, { on := 8, ground := Ground.chain }], guard := none }) rfl (fun K hK => ?_) AllReadyH.nil
                go_simp
                go_at_call 25
                refine (rpage_any b p s _ _ n _ m _ ys _ k L (k * L) ((k + 1) * L) (by omega) (by omega) (by omega) (HY.out.below HS3.out.bel) HLs.out rfl rfl HKL.out (by omega)).mono ?_
                rintro e u4 ⟨vq, rfl, own4, b4⟩
                obtain ⟨aq, cq, rfl, rq⟩ := own_reads own4 (HY.out.2.1)
                have HS4 : Hid (Rfd w u4 b p s bk off n c mb mo m c' bk2 off2 c2 mb2 mo2 c2' u7 (D9)) := HS3.out.below b4
                have HP4 : Hid (Reads u4 ap L (pgK xs L k)) := HP3.out.below b4
                have HP5 : Hid (Reads u4 aq L (pgK ys L k)) := rq
                have hSnew := And.intro (cells5 HS4.out.b1) (cells5 HS4.out.b2)
                clear own4 b4 rq
                go_wp2_with fail
                refine hK.out _ _ hSnew (fun hHeld17 => ?_)
                clear hK K hSnew
                clear hHeld
                have hHeld := hHeld17
                clear hHeld17
                try simp only [Act.put, List.setIfInBounds_toArray, List.set_cons_zero, List.set_cons_succ]
                refine wpAnyH_ready (rs := [18]) (by kernel_rfl) (by simp) ?_
                refine AllReadyH.cons (o := { dst := some 76, op := Op.call { callee := Callee.value (Operand.func 30), args := #[Operand.tmp 66, Operand.tmp 75], argTypes := #[24, 24] }, type := 4, pos := "ref.go:330", after := #[{ on := 8, ground := Ground.data }, { on := 17, ground := Ground.data }, { on := 17, ground := Ground.chain }], guard := none }) rfl (fun K hK => ?_) AllReadyH.nil
                go_simp
                go_at_call 30
                refine (rsame_any ap aq L _ _ (pgK xs L k) (pgK ys L k) _ (by omega) HP4.out HP5.out).mono ?_
                rintro e u5 ⟨rfl, q5, hu5⟩
                rw [HDE.out]
                have b5 : Below u4.heap.size u4 u5 := (by rw [hu5]; exact ⟨rfl, rfl, rfl, Nat.le_refl _, fun _ _ => rfl⟩)
                have HS5 : Hid (Rfd w u5 b p s bk off n c mb mo m c' bk2 off2 c2 mb2 mo2 c2' u7 (D9)) := HS4.out.below b5
                have hSnew := And.intro (cells5 HS5.out.b1) (cells5 HS5.out.b2)
                clear hu5 b5
                go_wp2_with fail
                refine hK.out _ _ hSnew (fun hHeld18 => ?_)
                clear hK K hSnew
                clear hHeld
                have hHeld := hHeld18
                clear hHeld18
                try simp only [Act.put, List.setIfInBounds_toArray, List.set_cons_zero, List.set_cons_succ]
                refine wpAnyH_take (i := 19) (oi := { dst := some 77, op := Op.unOp UnOp.not 4 (Operand.tmp 76), type := 4, pos := "ref.go:330", after := #[{ on := 18, ground := Ground.data }], guard := none }) (v := ?v19rp7) rfl (by kernel_rfl) (by kernel_rfl) (by kernel_rfl) (fun _ _ _ h => h) (Or.inl ⟨by rfl, ?y19rp7⟩) (by assumption) ?r19rp7
                case y19rp7 => (intro x hx; (try dsimp only at hx); go_simp; try with_reducible rfl)
                try simp only [Act.put, List.setIfInBounds_toArray, List.set_cons_zero, List.set_cons_succ]
                refine wpAnyH_done (by kernel_rfl) ?_ _
                go_wp2_with (first
                  | (at_builtin; refine wpList_append_own _ rfl _ _ 46 rfl w.heap.size 38 i0 (.agg #[.int .i64 0, .int .i64 0]) 2 16 Try.underlying46 hi0 hz0 hz1 hz2 rfl (by decide) _ _ _ rfl (HS5.out.row.alloc _) ⟨u5.heap.size, 0, none⟩ 1 1 [.int .i64 (i : Int), .int .i64 (j : Int)] rfl rfl (cell_two_new _ _ _ _) (by simp [Value.oneCell']) (by rw [show maxLen = 9223372036854775807 from rfl]; have := HDL.out; omega) (by have := HDL.out; omega) (by have := HS5.out.bel.size; simp; omega) ?_; intro v7 w7 hown' hgrow _
                     have HA7 : Hid (Rfd w w7 b p s bk off n c mb mo m c' bk2 off2 c2 mb2 mo2 c2' v7 (D9 ++ [(⟨(i : Int), (j : Int)⟩ : Pl)])) := Rfd.app HS5.out ⟨(i : Int), (j : Int)⟩ hown' hgrow
                     clear hown' hgrow))
                go_roundw
                all_goals first
                  | (refine ⟨j + 1, by omega, by simp, ?_⟩; have h9 := HA7.out; unfold Hid; rw [HD9.out, List.append_assoc, List.append_assoc] at h9; rw [dgJ_succ, if_neg (by rw [HKK.out]; exact hpg)]; exact h9)
                  | (simp [intOf]; omega)
            · obtain rfl : j = p := by omega
              have dcj : ¬ (j : Int) < (j : Int) := by omega
              go_wp2_with fail
              go_roundw
              all_goals first
                | (refine ⟨i + 1, by omega, by simp, ?_⟩; unfold Hid; rw [df_block _ _ _ _ _ _ _ (by omega)]; exact HRI.out)
                | (simp [intOf]; omega)
        | true =>
          rw [hg2] at hm2
          have HDG : Hid (dgM ms ns i = []) := by unfold Hid dgM; rw [hg1, hg2]; rfl
          clear hg1 hg2
          go_upto_region 12 with fail
          refine wp_region_held_drew (S := (fun y : World => y.cell? ⟨w.heap.size, 4, none⟩ = some (.slice (some ⟨mb, mo, none⟩) m c') ∧ y.cell? ⟨w.heap.size + 1, 4, none⟩ = some (.slice (some ⟨mb2, mo2, none⟩) m c2') ∧ y.cell? ⟨mb, mo + i, none⟩ = some (.bool true) ∧ y.cell? ⟨mb2, mo2 + i, none⟩ = some (.bool true))) (by kernel_rfl) (⟨(cells5 HRD.out.b1).2.2.2.2, (cells5 HRD.out.b2).2.2.2.2, (HRD.out.bel.cell (p := ⟨mb, mo + i, none⟩) HML.out.1).trans hm1, (HRD.out.bel.cell (p := ⟨mb2, mo2 + i, none⟩) HML.out.2).trans hm2⟩) (fun hHeld => ?_)
          refine wpAnyH_take (i := 0) (oi := { dst := some 35, op := Op.fieldAddr 27 (Operand.tmp 2) 2, type := 0, pos := "ref.go:326", after := #[], guard := none }) (v := ?v0rm4) rfl (by kernel_rfl) (by kernel_rfl) (by kernel_rfl) (fun _ _ _ h => h) (Or.inl ⟨by rfl, ?y0rm4⟩) (by assumption) ?r0rm4
          case y0rm4 => (intro x hx; (try dsimp only at hx); go_simp; try with_reducible rfl)
          try simp only [Act.put, List.setIfInBounds_toArray, List.set_cons_zero, List.set_cons_succ]
          refine wpAnyH_take (i := 1) (oi := { dst := some 36, op := Op.load 25 (Operand.tmp 35), type := 25, pos := "ref.go:326", after := #[{ on := 0, ground := Ground.data }], guard := none }) (v := ?v1rm4) rfl (by kernel_rfl) (by kernel_rfl) (by kernel_rfl) (fun _ _ _ h => h) (Or.inl ⟨by rfl, ?y1rm4⟩) (by assumption) ?r1rm4
          case y1rm4 => (intro x hx; (try dsimp only at hx); go_simp; try with_reducible rfl)
          try simp only [Act.put, List.setIfInBounds_toArray, List.set_cons_zero, List.set_cons_succ]
          refine wpAnyH_take (i := 2) (oi := { dst := some 37, op := Op.move (Operand.tmp 8), type := 3, pos := "ref.go:326", after := #[], guard := none }) (v := ?v2rm4) rfl (by kernel_rfl) (by kernel_rfl) (by kernel_rfl) (fun _ _ _ h => h) (Or.inl ⟨by rfl, ?y2rm4⟩) (by assumption) ?r2rm4
          case y2rm4 => (intro x hx; (try dsimp only at hx); go_simp; try with_reducible rfl)
          try simp only [Act.put, List.setIfInBounds_toArray, List.set_cons_zero, List.set_cons_succ]
          refine wpAnyH_take (i := 3) (oi := { dst := some 38, op := Op.indexAddr 25 (Operand.tmp 36) (Operand.tmp 37), type := 0, pos := "ref.go:326", after := #[{ on := 1, ground := Ground.data }, { on := 2, ground := Ground.data }], guard := none }) (v := ?v3rm4) rfl (by kernel_rfl) (by kernel_rfl) (by kernel_rfl) (fun _ _ _ h => h) (Or.inl ⟨by rfl, ?y3rm4⟩) (by assumption) ?r3rm4
          case y3rm4 => (intro x hx; (try dsimp only at hx); go_simp; try with_reducible rfl)
          try simp only [Act.put, List.setIfInBounds_toArray, List.set_cons_zero, List.set_cons_succ]
          refine wpAnyH_take (i := 4) (oi := { dst := some 39, op := Op.load 4 (Operand.tmp 38), type := 4, pos := "ref.go:326", after := #[{ on := 3, ground := Ground.data }], guard := none }) (v := ?v4rm4) rfl (by kernel_rfl) (by kernel_rfl) (by kernel_rfl) (fun _ _ _ h => h) (Or.inl ⟨by rfl, ?y4rm4⟩) (by assumption) ?r4rm4
          case y4rm4 => (intro x hx; (try dsimp only at hx); go_simp; try with_reducible rfl)
          try simp only [Act.put, List.setIfInBounds_toArray, List.set_cons_zero, List.set_cons_succ]
          refine wpAnyH_take (i := 5) (oi := { dst := some 40, op := Op.fieldAddr 27 (Operand.tmp 3) 2, type := 0, pos := "ref.go:326", after := #[], guard := none }) (v := ?v5rm4) rfl (by kernel_rfl) (by kernel_rfl) (by kernel_rfl) (fun _ _ _ h => h) (Or.inl ⟨by rfl, ?y5rm4⟩) (by assumption) ?r5rm4
          case y5rm4 => (intro x hx; (try dsimp only at hx); go_simp; try with_reducible rfl)
          try simp only [Act.put, List.setIfInBounds_toArray, List.set_cons_zero, List.set_cons_succ]
          refine wpAnyH_take (i := 6) (oi := { dst := some 41, op := Op.load 25 (Operand.tmp 40), type := 25, pos := "ref.go:326", after := #[{ on := 5, ground := Ground.data }], guard := none }) (v := ?v6rm4) rfl (by kernel_rfl) (by kernel_rfl) (by kernel_rfl) (fun _ _ _ h => h) (Or.inl ⟨by rfl, ?y6rm4⟩) (by assumption) ?r6rm4
          case y6rm4 => (intro x hx; (try dsimp only at hx); go_simp; try with_reducible rfl)
          try simp only [Act.put, List.setIfInBounds_toArray, List.set_cons_zero, List.set_cons_succ]
          refine wpAnyH_take (i := 7) (oi := { dst := some 42, op := Op.move (Operand.tmp 8), type := 3, pos := "ref.go:326", after := #[], guard := none }) (v := ?v7rm4) rfl (by kernel_rfl) (by kernel_rfl) (by kernel_rfl) (fun _ _ _ h => h) (Or.inl ⟨by rfl, ?y7rm4⟩) (by assumption) ?r7rm4
          case y7rm4 => (intro x hx; (try dsimp only at hx); go_simp; try with_reducible rfl)
          try simp only [Act.put, List.setIfInBounds_toArray, List.set_cons_zero, List.set_cons_succ]
          refine wpAnyH_take (i := 8) (oi := { dst := some 43, op := Op.indexAddr 25 (Operand.tmp 41) (Operand.tmp 42), type := 0, pos := "ref.go:326", after := #[{ on := 6, ground := Ground.data }, { on := 7, ground := Ground.data }], guard := none }) (v := ?v8rm4) rfl (by kernel_rfl) (by kernel_rfl) (by kernel_rfl) (fun _ _ _ h => h) (Or.inl ⟨by rfl, ?y8rm4⟩) (by assumption) ?r8rm4
          case y8rm4 => (intro x hx; (try dsimp only at hx); go_simp; try with_reducible rfl)
          try simp only [Act.put, List.setIfInBounds_toArray, List.set_cons_zero, List.set_cons_succ]
          refine wpAnyH_take (i := 9) (oi := { dst := some 44, op := Op.load 4 (Operand.tmp 43), type := 4, pos := "ref.go:326", after := #[{ on := 8, ground := Ground.data }], guard := none }) (v := ?v9rm4) rfl (by kernel_rfl) (by kernel_rfl) (by kernel_rfl) (fun _ _ _ h => h) (Or.inl ⟨by rfl, ?y9rm4⟩) (by assumption) ?r9rm4
          case y9rm4 => (intro x hx; (try dsimp only at hx); go_simp; try with_reducible rfl)
          try simp only [Act.put, List.setIfInBounds_toArray, List.set_cons_zero, List.set_cons_succ]
          refine wpAnyH_take (i := 10) (oi := { dst := some 45, op := Op.binOp BinOp.neq 4 (Operand.tmp 39) (Operand.tmp 44) 4, type := 4, pos := "ref.go:326", after := #[{ on := 4, ground := Ground.data }, { on := 9, ground := Ground.data }], guard := none }) (v := ?v10rm4) rfl (by kernel_rfl) (by kernel_rfl) (by kernel_rfl) (fun _ _ _ h => h) (Or.inl ⟨by rfl, ?y10rm4⟩) (by assumption) ?r10rm4
          case y10rm4 => (intro x hx; (try dsimp only at hx); go_simp; try with_reducible rfl)
          try simp only [Act.put, List.setIfInBounds_toArray, List.set_cons_zero, List.set_cons_succ]
          refine wpAnyH_done (by kernel_rfl) ?_ _
          clear hm1 hm2
          go_wp2_with fail
          clear c0 c1 cz2 c3 c4 d0 d1 d2 d3 d4
          go_loopw [7, 9] (fun s7 s9 wr => ∃ j : Nat, j ≤ p ∧ s9 = .int .i64 (j : Int) ∧ Hid (Rfd w wr b p s bk off n c mb mo m c' bk2 off2 c2 mb2 mo2 c2' s7 (dfL xs ys ms ns L p (i * p) ++ (dgM ms ns i ++ dgJ xs ys L p i j)))) (fun _ j _ => p - (intOf j).toNat)
          case atStart =>
            refine ⟨0, by omega, rfl, ?_⟩
            have h9 := HRD.out
            unfold Hid
            rw [show dgJ xs ys L p i 0 = [] by simp [dgJ], List.append_nil, HDG.out]
            rw [List.append_nil]; exact h9
          case round =>
            obtain ⟨j, hj, rfl, HRI⟩ := hrel
            obtain ⟨c0, c1, cz2, c3, c4⟩ := cells5 HRI.out.b1
            by_cases hcj : j < p
            · have dcj : (j : Int) < (p : Int) := by omega
              have wj : IntKind.i64.wrap ((j : Int) + 1) = (j : Int) + 1 := by rw [IntKind.wrap_i64]; omega
              obtain ⟨k, hk⟩ : ∃ k, i * p + j = k := ⟨_, rfl⟩
              have HKK : Hid (i * p + j = k) := hk
              obtain ⟨ip, hip⟩ : ∃ ip, i * p = ip := ⟨_, rfl⟩
              have hkN : k < N := by
                have h8 := Nat.mul_le_mul_right p (show i + 1 ≤ b by omega)
                rw [Nat.succ_mul, HN.out] at h8
                omega
              have wip : IntKind.i64.wrap ((i : Int) * (p : Int)) = (ip : Int) := by rw [← Int.natCast_mul, hip, IntKind.wrap_i64]; omega
              have wk : IntKind.i64.wrap ((ip : Int) + (j : Int)) = (k : Int) := by rw [IntKind.wrap_i64]; omega
              have HKL : Hid ((k + 1) * L ≤ n) := by unfold Hid; rw [Hn.out]; exact Nat.mul_le_mul_right L hkN
              obtain ⟨D9, hD9⟩ : ∃ D9, D9 = dfL xs ys ms ns L p (i * p) ++ (dgM ms ns i ++ dgJ xs ys L p i j) := ⟨_, rfl⟩
              have HD9 : Hid (D9 = dfL xs ys ms ns L p (i * p) ++ (dgM ms ns i ++ dgJ xs ys L p i j)) := hD9
              have HDL : Hid (D9.length ≤ 300000) := by
                unfold Hid
                have h6 := dfL_len xs ys ms ns L p (i * p)
                have h7 := dgM_len ms ns i
                have h8 := dgJ_len xs ys L p i j
                rw [hD9, List.length_append, List.length_append]
                omega
              have HSD : Hid (Rfd w wr.drew b p s bk off n c mb mo m c' bk2 off2 c2 mb2 mo2 c2' u7 (D9)) := by
                unfold Hid
                rw [hD9]
                exact HRI.out.below ⟨rfl, rfl, rfl, Nat.le_refl _, fun _ _ => rfl⟩
              clear hk hip hD9 HRI
              by_cases hpg : pgK xs L k = pgK ys L k
              · have HDE : Hid (decide (pgK xs L k = pgK ys L k) = true) := decide_eq_true hpg
                go_upto_region 17 with fail
                refine wp_region_held_drew (S := (fun y : World => (y.cell? ⟨w.heap.size, 0, none⟩ = some (.int .i64 (b : Int)) ∧ y.cell? ⟨w.heap.size, 1, none⟩ = some (.int .i64 (p : Int)) ∧ y.cell? ⟨w.heap.size, 2, none⟩ = some (.int .i64 (s : Int)) ∧ y.cell? ⟨w.heap.size, 3, none⟩ = some (.slice (some ⟨bk, off, none⟩) n c) ∧ y.cell? ⟨w.heap.size, 4, none⟩ = some (.slice (some ⟨mb, mo, none⟩) m c')) ∧ (y.cell? ⟨w.heap.size + 1, 0, none⟩ = some (.int .i64 (b : Int)) ∧ y.cell? ⟨w.heap.size + 1, 1, none⟩ = some (.int .i64 (p : Int)) ∧ y.cell? ⟨w.heap.size + 1, 2, none⟩ = some (.int .i64 (s : Int)) ∧ y.cell? ⟨w.heap.size + 1, 3, none⟩ = some (.slice (some ⟨bk2, off2, none⟩) n c2) ∧ y.cell? ⟨w.heap.size + 1, 4, none⟩ = some (.slice (some ⟨mb2, mo2, none⟩) m c2')))) (by kernel_rfl) (And.intro (cells5 HSD.out.b1) (cells5 HSD.out.b2)) (fun hHeld => ?_)
                refine wpAnyH_take (i := 0) (oi := { dst := some 58, op := Op.load 27 (Operand.tmp 2), type := 27, pos := "ref.go:330", after := #[], guard := none }) (v := ?v0rp8) rfl (by kernel_rfl) (by kernel_rfl) (by kernel_rfl) (fun _ _ _ h => h) (Or.inl ⟨by rfl, ?y0rp8⟩) (by assumption) ?r0rp8
                case y0rp8 => (intro x hx; (try dsimp only at hx); go_simp; try with_reducible rfl)
                try simp only [Act.put, List.setIfInBounds_toArray, List.set_cons_zero, List.set_cons_succ]
                refine wpAnyH_take (i := 1) (oi := { dst := some 59, op := Op.move (Operand.tmp 8), type := 3, pos := "ref.go:330", after := #[], guard := none }) (v := ?v1rp8) rfl (by kernel_rfl) (by kernel_rfl) (by kernel_rfl) (fun _ _ _ h => h) (Or.inl ⟨by rfl, ?y1rp8⟩) (by assumption) ?r1rp8
                case y1rp8 => (intro x hx; (try dsimp only at hx); go_simp; try with_reducible rfl)
                try simp only [Act.put, List.setIfInBounds_toArray, List.set_cons_zero, List.set_cons_succ]
                refine wpAnyH_take (i := 2) (oi := { dst := some 60, op := Op.fieldAddr 27 (Operand.tmp 2) 0, type := 0, pos := "ref.go:330", after := #[], guard := none }) (v := ?v2rp8) rfl (by kernel_rfl) (by kernel_rfl) (by kernel_rfl) (fun _ _ _ h => h) (Or.inl ⟨by rfl, ?y2rp8⟩) (by assumption) ?r2rp8
                case y2rp8 => (intro x hx; (try dsimp only at hx); go_simp; try with_reducible rfl)
                try simp only [Act.put, List.setIfInBounds_toArray, List.set_cons_zero, List.set_cons_succ]
                refine wpAnyH_take (i := 3) (oi := { dst := some 61, op := Op.fieldAddr 23 (Operand.tmp 60) 1, type := 0, pos := "ref.go:330", after := #[{ on := 2, ground := Ground.data }], guard := none }) (v := ?v3rp8) rfl (by kernel_rfl) (by kernel_rfl) (by kernel_rfl) (fun _ _ _ h => h) (Or.inl ⟨by rfl, ?y3rp8⟩) (by assumption) ?r3rp8
                case y3rp8 => (intro x hx; (try dsimp only at hx); go_simp; try with_reducible rfl)
                try simp only [Act.put, List.setIfInBounds_toArray, List.set_cons_zero, List.set_cons_succ]
                refine wpAnyH_take (i := 4) (oi := { dst := some 62, op := Op.load 3 (Operand.tmp 61), type := 3, pos := "ref.go:330", after := #[{ on := 3, ground := Ground.data }], guard := none }) (v := ?v4rp8) rfl (by kernel_rfl) (by kernel_rfl) (by kernel_rfl) (fun _ _ _ h => h) (Or.inl ⟨by rfl, ?y4rp8⟩) (by assumption) ?r4rp8
                case y4rp8 => (intro x hx; (try dsimp only at hx); go_simp; try with_reducible rfl)
                try simp only [Act.put, List.setIfInBounds_toArray, List.set_cons_zero, List.set_cons_succ]
                refine wpAnyH_take (i := 5) (oi := { dst := some 63, op := Op.binOp BinOp.mul 3 (Operand.tmp 59) (Operand.tmp 62) 3, type := 3, pos := "ref.go:330", after := #[{ on := 1, ground := Ground.data }, { on := 4, ground := Ground.data }], guard := none }) (v := ?v5rp8) rfl (by kernel_rfl) (by kernel_rfl) (by kernel_rfl) (fun _ _ _ h => h) (Or.inl ⟨by rfl, ?y5rp8⟩) (by assumption) ?r5rp8
                case y5rp8 => (intro x hx; (try dsimp only at hx); go_simp; try with_reducible rfl)
                try simp only [Act.put, List.setIfInBounds_toArray, List.set_cons_zero, List.set_cons_succ]
                refine wpAnyH_take (i := 6) (oi := { dst := some 64, op := Op.move (Operand.tmp 9), type := 3, pos := "ref.go:330", after := #[], guard := none }) (v := ?v6rp8) rfl (by kernel_rfl) (by kernel_rfl) (by kernel_rfl) (fun _ _ _ h => h) (Or.inl ⟨by rfl, ?y6rp8⟩) (by assumption) ?r6rp8
                case y6rp8 => (intro x hx; (try dsimp only at hx); go_simp; try with_reducible rfl)
                try simp only [Act.put, List.setIfInBounds_toArray, List.set_cons_zero, List.set_cons_succ]
                refine wpAnyH_take (i := 7) (oi := { dst := some 65, op := Op.binOp BinOp.add 3 (Operand.tmp 63) (Operand.tmp 64) 3, type := 3, pos := "ref.go:330", after := #[{ on := 5, ground := Ground.data }, { on := 6, ground := Ground.data }], guard := none }) (v := ?v7rp8) rfl (by kernel_rfl) (by kernel_rfl) (by kernel_rfl) (fun _ _ _ h => h) (Or.inl ⟨by rfl, ?y7rp8⟩) (by assumption) ?r7rp8
                case y7rp8 => (intro x hx; (try dsimp only at hx); go_simp; try with_reducible rfl)
                try simp only [Act.put, List.setIfInBounds_toArray, List.set_cons_zero, List.set_cons_succ]
                refine wpAnyH_take (i := 9) (oi := { dst := some 67, op := Op.load 27 (Operand.tmp 3), type := 27, pos := "ref.go:330", after := #[], guard := none }) (v := ?v9rp8) rfl (by kernel_rfl) (by kernel_rfl) (by kernel_rfl) (fun _ _ _ h => h) (Or.inl ⟨by rfl, ?y9rp8⟩) (by assumption) ?r9rp8
                case y9rp8 => (intro x hx; (try dsimp only at hx); go_simp; try with_reducible rfl)
                try simp only [Act.put, List.setIfInBounds_toArray, List.set_cons_zero, List.set_cons_succ]
                refine wpAnyH_take (i := 10) (oi := { dst := some 68, op := Op.move (Operand.tmp 8), type := 3, pos := "ref.go:330", after := #[], guard := none }) (v := ?v10rp8) rfl (by kernel_rfl) (by kernel_rfl) (by kernel_rfl) (fun _ _ _ h => h) (Or.inl ⟨by rfl, ?y10rp8⟩) (by assumption) ?r10rp8
                case y10rp8 => (intro x hx; (try dsimp only at hx); go_simp; try with_reducible rfl)
                try simp only [Act.put, List.setIfInBounds_toArray, List.set_cons_zero, List.set_cons_succ]
                refine wpAnyH_take (i := 11) (oi := { dst := some 69, op := Op.fieldAddr 27 (Operand.tmp 2) 0, type := 0, pos := "ref.go:330", after := #[], guard := none }) (v := ?v11rp8) rfl (by kernel_rfl) (by kernel_rfl) (by kernel_rfl) (fun _ _ _ h => h) (Or.inl ⟨by rfl, ?y11rp8⟩) (by assumption) ?r11rp8
                case y11rp8 => (intro x hx; (try dsimp only at hx); go_simp; try with_reducible rfl)
                try simp only [Act.put, List.setIfInBounds_toArray, List.set_cons_zero, List.set_cons_succ]
                refine wpAnyH_take (i := 12) (oi := { dst := some 70, op := Op.fieldAddr 23 (Operand.tmp 69) 1, type := 0, pos := "ref.go:330", after := #[{ on := 11, ground := Ground.data }], guard := none }) (v := ?v12rp8) rfl (by kernel_rfl) (by kernel_rfl) (by kernel_rfl) (fun _ _ _ h => h) (Or.inl ⟨by rfl, ?y12rp8⟩) (by assumption) ?r12rp8
                case y12rp8 => (intro x hx; (try dsimp only at hx); go_simp; try with_reducible rfl)
                try simp only [Act.put, List.setIfInBounds_toArray, List.set_cons_zero, List.set_cons_succ]
                refine wpAnyH_take (i := 13) (oi := { dst := some 71, op := Op.load 3 (Operand.tmp 70), type := 3, pos := "ref.go:330", after := #[{ on := 12, ground := Ground.data }], guard := none }) (v := ?v13rp8) rfl (by kernel_rfl) (by kernel_rfl) (by kernel_rfl) (fun _ _ _ h => h) (Or.inl ⟨by rfl, ?y13rp8⟩) (by assumption) ?r13rp8
                case y13rp8 => (intro x hx; (try dsimp only at hx); go_simp; try with_reducible rfl)
                try simp only [Act.put, List.setIfInBounds_toArray, List.set_cons_zero, List.set_cons_succ]
                refine wpAnyH_take (i := 14) (oi := { dst := some 72, op := Op.binOp BinOp.mul 3 (Operand.tmp 68) (Operand.tmp 71) 3, type := 3, pos := "ref.go:330", after := #[{ on := 10, ground := Ground.data }, { on := 13, ground := Ground.data }], guard := none }) (v := ?v14rp8) rfl (by kernel_rfl) (by kernel_rfl) (by kernel_rfl) (fun _ _ _ h => h) (Or.inl ⟨by rfl, ?y14rp8⟩) (by assumption) ?r14rp8
                case y14rp8 => (intro x hx; (try dsimp only at hx); go_simp; try with_reducible rfl)
                try simp only [Act.put, List.setIfInBounds_toArray, List.set_cons_zero, List.set_cons_succ]
                refine wpAnyH_take (i := 15) (oi := { dst := some 73, op := Op.move (Operand.tmp 9), type := 3, pos := "ref.go:330", after := #[], guard := none }) (v := ?v15rp8) rfl (by kernel_rfl) (by kernel_rfl) (by kernel_rfl) (fun _ _ _ h => h) (Or.inl ⟨by rfl, ?y15rp8⟩) (by assumption) ?r15rp8
                case y15rp8 => (intro x hx; (try dsimp only at hx); go_simp; try with_reducible rfl)
                try simp only [Act.put, List.setIfInBounds_toArray, List.set_cons_zero, List.set_cons_succ]
                refine wpAnyH_take (i := 16) (oi := { dst := some 74, op := Op.binOp BinOp.add 3 (Operand.tmp 72) (Operand.tmp 73) 3, type := 3, pos := "ref.go:330", after := #[{ on := 14, ground := Ground.data }, { on := 15, ground := Ground.data }], guard := none }) (v := ?v16rp8) rfl (by kernel_rfl) (by kernel_rfl) (by kernel_rfl) (fun _ _ _ h => h) (Or.inl ⟨by rfl, ?y16rp8⟩) (by assumption) ?r16rp8
                case y16rp8 => (intro x hx; (try dsimp only at hx); go_simp; try with_reducible rfl)
                try simp only [Act.put, List.setIfInBounds_toArray, List.set_cons_zero, List.set_cons_succ]
                refine wpAnyH_ready (rs := [8]) (by kernel_rfl) (by simp) ?_
                refine AllReadyH.cons (o := { dst := some 66, op := Op.call { callee := Callee.value (Operand.func 25), args := #[Operand.tmp 58, Operand.tmp 65], argTypes := #[27, 3] }, type := 24, pos := "ref.go:330", after := #[{ on := 0, ground := Ground.data }, { on := 7, ground := Ground.data }], guard := none }) rfl (fun K hK => ?_) AllReadyH.nil
                go_simp
                go_at_call 25
                refine (rpage_any b p s _ _ n _ m _ xs _ k L (k * L) ((k + 1) * L) (by omega) (by omega) (by omega) (HX.out.below HSD.out.bel) HLs.out rfl rfl HKL.out (by omega)).mono ?_
                rintro e u3 ⟨vp, rfl, own3, b3⟩
                obtain ⟨ap, cp, rfl, rp⟩ := own_reads own3 (HX.out.2.1)
                have HS3 : Hid (Rfd w u3 b p s bk off n c mb mo m c' bk2 off2 c2 mb2 mo2 c2' u7 (D9)) := HSD.out.below b3
                have HP3 : Hid (Reads u3 ap L (pgK xs L k)) := rp
                have hSnew := And.intro (cells5 HS3.out.b1) (cells5 HS3.out.b2)
                clear own3 b3 rp
                go_wp2_with fail
                refine hK.out _ _ hSnew (fun hHeld8 => ?_)
                clear hK K hSnew
                clear hHeld
                have hHeld := hHeld8
                clear hHeld8
                try simp only [Act.put, List.setIfInBounds_toArray, List.set_cons_zero, List.set_cons_succ]
                refine wpAnyH_ready (rs := [17]) (by kernel_rfl) (by simp) ?_
                refine AllReadyH.cons (o := { dst := some 75, op := Op.call { callee := Callee.value (Operand.func 25), args := #[Operand.tmp 67, Operand.tmp 74], argTypes := #[27, 3] }, type := 24, pos := "ref.go:330", after := #[{ on := 9, ground := Ground.data }, { on := 16, ground := Ground.data }, { on := 8, ground := Ground.chain }], guard := none }) rfl (fun K hK => ?_) AllReadyH.nil
                go_simp
                go_at_call 25
                refine (rpage_any b p s _ _ n _ m _ ys _ k L (k * L) ((k + 1) * L) (by omega) (by omega) (by omega) (HY.out.below HS3.out.bel) HLs.out rfl rfl HKL.out (by omega)).mono ?_
                rintro e u4 ⟨vq, rfl, own4, b4⟩
                obtain ⟨aq, cq, rfl, rq⟩ := own_reads own4 (HY.out.2.1)
                have HS4 : Hid (Rfd w u4 b p s bk off n c mb mo m c' bk2 off2 c2 mb2 mo2 c2' u7 (D9)) := HS3.out.below b4
                have HP4 : Hid (Reads u4 ap L (pgK xs L k)) := HP3.out.below b4
                have HP5 : Hid (Reads u4 aq L (pgK ys L k)) := rq
                have hSnew := And.intro (cells5 HS4.out.b1) (cells5 HS4.out.b2)
                clear own4 b4 rq
                go_wp2_with fail
                refine hK.out _ _ hSnew (fun hHeld17 => ?_)
                clear hK K hSnew
                clear hHeld
                have hHeld := hHeld17
                clear hHeld17
                try simp only [Act.put, List.setIfInBounds_toArray, List.set_cons_zero, List.set_cons_succ]
                refine wpAnyH_ready (rs := [18]) (by kernel_rfl) (by simp) ?_
                refine AllReadyH.cons (o := { dst := some 76, op := Op.call { callee := Callee.value (Operand.func 30), args := #[Operand.tmp 66, Operand.tmp 75], argTypes := #[24, 24] }, type := 4, pos := "ref.go:330", after := #[{ on := 8, ground := Ground.data }, { on := 17, ground := Ground.data }, { on := 17, ground := Ground.chain }], guard := none }) rfl (fun K hK => ?_) AllReadyH.nil
                go_simp
                go_at_call 30
                refine (rsame_any ap aq L _ _ (pgK xs L k) (pgK ys L k) _ (by omega) HP4.out HP5.out).mono ?_
                rintro e u5 ⟨rfl, q5, hu5⟩
                rw [HDE.out]
                have b5 : Below u4.heap.size u4 u5 := (by rw [hu5]; exact ⟨rfl, rfl, rfl, Nat.le_refl _, fun _ _ => rfl⟩)
                have HS5 : Hid (Rfd w u5 b p s bk off n c mb mo m c' bk2 off2 c2 mb2 mo2 c2' u7 (D9)) := HS4.out.below b5
                have hSnew := And.intro (cells5 HS5.out.b1) (cells5 HS5.out.b2)
                clear hu5 b5
                go_wp2_with fail
                refine hK.out _ _ hSnew (fun hHeld18 => ?_)
                clear hK K hSnew
                clear hHeld
                have hHeld := hHeld18
                clear hHeld18
                try simp only [Act.put, List.setIfInBounds_toArray, List.set_cons_zero, List.set_cons_succ]
                refine wpAnyH_take (i := 19) (oi := { dst := some 77, op := Op.unOp UnOp.not 4 (Operand.tmp 76), type := 4, pos := "ref.go:330", after := #[{ on := 18, ground := Ground.data }], guard := none }) (v := ?v19rp8) rfl (by kernel_rfl) (by kernel_rfl) (by kernel_rfl) (fun _ _ _ h => h) (Or.inl ⟨by rfl, ?y19rp8⟩) (by assumption) ?r19rp8
                case y19rp8 => (intro x hx; (try dsimp only at hx); go_simp; try with_reducible rfl)
                try simp only [Act.put, List.setIfInBounds_toArray, List.set_cons_zero, List.set_cons_succ]
                refine wpAnyH_done (by kernel_rfl) ?_ _
                go_wp2_with fail
                go_roundw
                all_goals first
                  | (refine ⟨j + 1, by omega, by simp, ?_⟩; have h9 := HS5.out; unfold Hid; rw [HD9.out] at h9; rw [dgJ_succ, if_pos (by rw [HKK.out]; exact hpg), List.append_nil]; exact h9)
                  | (simp [intOf]; omega)
              · have HDE : Hid (decide (pgK xs L k = pgK ys L k) = false) := decide_eq_false hpg
                go_upto_region 17 with fail
                refine wp_region_held_drew (S := (fun y : World => (y.cell? ⟨w.heap.size, 0, none⟩ = some (.int .i64 (b : Int)) ∧ y.cell? ⟨w.heap.size, 1, none⟩ = some (.int .i64 (p : Int)) ∧ y.cell? ⟨w.heap.size, 2, none⟩ = some (.int .i64 (s : Int)) ∧ y.cell? ⟨w.heap.size, 3, none⟩ = some (.slice (some ⟨bk, off, none⟩) n c) ∧ y.cell? ⟨w.heap.size, 4, none⟩ = some (.slice (some ⟨mb, mo, none⟩) m c')) ∧ (y.cell? ⟨w.heap.size + 1, 0, none⟩ = some (.int .i64 (b : Int)) ∧ y.cell? ⟨w.heap.size + 1, 1, none⟩ = some (.int .i64 (p : Int)) ∧ y.cell? ⟨w.heap.size + 1, 2, none⟩ = some (.int .i64 (s : Int)) ∧ y.cell? ⟨w.heap.size + 1, 3, none⟩ = some (.slice (some ⟨bk2, off2, none⟩) n c2) ∧ y.cell? ⟨w.heap.size + 1, 4, none⟩ = some (.slice (some ⟨mb2, mo2, none⟩) m c2')))) (by kernel_rfl) (And.intro (cells5 HSD.out.b1) (cells5 HSD.out.b2)) (fun hHeld => ?_)
                refine wpAnyH_take (i := 0) (oi := { dst := some 58, op := Op.load 27 (Operand.tmp 2), type := 27, pos := "ref.go:330", after := #[], guard := none }) (v := ?v0rp9) rfl (by kernel_rfl) (by kernel_rfl) (by kernel_rfl) (fun _ _ _ h => h) (Or.inl ⟨by rfl, ?y0rp9⟩) (by assumption) ?r0rp9
                case y0rp9 => (intro x hx; (try dsimp only at hx); go_simp; try with_reducible rfl)
                try simp only [Act.put, List.setIfInBounds_toArray, List.set_cons_zero, List.set_cons_succ]
                refine wpAnyH_take (i := 1) (oi := { dst := some 59, op := Op.move (Operand.tmp 8), type := 3, pos := "ref.go:330", after := #[], guard := none }) (v := ?v1rp9) rfl (by kernel_rfl) (by kernel_rfl) (by kernel_rfl) (fun _ _ _ h => h) (Or.inl ⟨by rfl, ?y1rp9⟩) (by assumption) ?r1rp9
                case y1rp9 => (intro x hx; (try dsimp only at hx); go_simp; try with_reducible rfl)
                try simp only [Act.put, List.setIfInBounds_toArray, List.set_cons_zero, List.set_cons_succ]
                refine wpAnyH_take (i := 2) (oi := { dst := some 60, op := Op.fieldAddr 27 (Operand.tmp 2) 0, type := 0, pos := "ref.go:330", after := #[], guard := none }) (v := ?v2rp9) rfl (by kernel_rfl) (by kernel_rfl) (by kernel_rfl) (fun _ _ _ h => h) (Or.inl ⟨by rfl, ?y2rp9⟩) (by assumption) ?r2rp9
                case y2rp9 => (intro x hx; (try dsimp only at hx); go_simp; try with_reducible rfl)
                try simp only [Act.put, List.setIfInBounds_toArray, List.set_cons_zero, List.set_cons_succ]
                refine wpAnyH_take (i := 3) (oi := { dst := some 61, op := Op.fieldAddr 23 (Operand.tmp 60) 1, type := 0, pos := "ref.go:330", after := #[{ on := 2, ground := Ground.data }], guard := none }) (v := ?v3rp9) rfl (by kernel_rfl) (by kernel_rfl) (by kernel_rfl) (fun _ _ _ h => h) (Or.inl ⟨by rfl, ?y3rp9⟩) (by assumption) ?r3rp9
                case y3rp9 => (intro x hx; (try dsimp only at hx); go_simp; try with_reducible rfl)
                try simp only [Act.put, List.setIfInBounds_toArray, List.set_cons_zero, List.set_cons_succ]
                refine wpAnyH_take (i := 4) (oi := { dst := some 62, op := Op.load 3 (Operand.tmp 61), type := 3, pos := "ref.go:330", after := #[{ on := 3, ground := Ground.data }], guard := none }) (v := ?v4rp9) rfl (by kernel_rfl) (by kernel_rfl) (by kernel_rfl) (fun _ _ _ h => h) (Or.inl ⟨by rfl, ?y4rp9⟩) (by assumption) ?r4rp9
                case y4rp9 => (intro x hx; (try dsimp only at hx); go_simp; try with_reducible rfl)
                try simp only [Act.put, List.setIfInBounds_toArray, List.set_cons_zero, List.set_cons_succ]
                refine wpAnyH_take (i := 5) (oi := { dst := some 63, op := Op.binOp BinOp.mul 3 (Operand.tmp 59) (Operand.tmp 62) 3, type := 3, pos := "ref.go:330", after := #[{ on := 1, ground := Ground.data }, { on := 4, ground := Ground.data }], guard := none }) (v := ?v5rp9) rfl (by kernel_rfl) (by kernel_rfl) (by kernel_rfl) (fun _ _ _ h => h) (Or.inl ⟨by rfl, ?y5rp9⟩) (by assumption) ?r5rp9
                case y5rp9 => (intro x hx; (try dsimp only at hx); go_simp; try with_reducible rfl)
                try simp only [Act.put, List.setIfInBounds_toArray, List.set_cons_zero, List.set_cons_succ]
                refine wpAnyH_take (i := 6) (oi := { dst := some 64, op := Op.move (Operand.tmp 9), type := 3, pos := "ref.go:330", after := #[], guard := none }) (v := ?v6rp9) rfl (by kernel_rfl) (by kernel_rfl) (by kernel_rfl) (fun _ _ _ h => h) (Or.inl ⟨by rfl, ?y6rp9⟩) (by assumption) ?r6rp9
                case y6rp9 => (intro x hx; (try dsimp only at hx); go_simp; try with_reducible rfl)
                try simp only [Act.put, List.setIfInBounds_toArray, List.set_cons_zero, List.set_cons_succ]
                refine wpAnyH_take (i := 7) (oi := { dst := some 65, op := Op.binOp BinOp.add 3 (Operand.tmp 63) (Operand.tmp 64) 3, type := 3, pos := "ref.go:330", after := #[{ on := 5, ground := Ground.data }, { on := 6, ground := Ground.data }], guard := none }) (v := ?v7rp9) rfl (by kernel_rfl) (by kernel_rfl) (by kernel_rfl) (fun _ _ _ h => h) (Or.inl ⟨by rfl, ?y7rp9⟩) (by assumption) ?r7rp9
                case y7rp9 => (intro x hx; (try dsimp only at hx); go_simp; try with_reducible rfl)
                try simp only [Act.put, List.setIfInBounds_toArray, List.set_cons_zero, List.set_cons_succ]
                refine wpAnyH_take (i := 9) (oi := { dst := some 67, op := Op.load 27 (Operand.tmp 3), type := 27, pos := "ref.go:330", after := #[], guard := none }) (v := ?v9rp9) rfl (by kernel_rfl) (by kernel_rfl) (by kernel_rfl) (fun _ _ _ h => h) (Or.inl ⟨by rfl, ?y9rp9⟩) (by assumption) ?r9rp9
                case y9rp9 => (intro x hx; (try dsimp only at hx); go_simp; try with_reducible rfl)
                try simp only [Act.put, List.setIfInBounds_toArray, List.set_cons_zero, List.set_cons_succ]
                refine wpAnyH_take (i := 10) (oi := { dst := some 68, op := Op.move (Operand.tmp 8), type := 3, pos := "ref.go:330", after := #[], guard := none }) (v := ?v10rp9) rfl (by kernel_rfl) (by kernel_rfl) (by kernel_rfl) (fun _ _ _ h => h) (Or.inl ⟨by rfl, ?y10rp9⟩) (by assumption) ?r10rp9
                case y10rp9 => (intro x hx; (try dsimp only at hx); go_simp; try with_reducible rfl)
                try simp only [Act.put, List.setIfInBounds_toArray, List.set_cons_zero, List.set_cons_succ]
                refine wpAnyH_take (i := 11) (oi := { dst := some 69, op := Op.fieldAddr 27 (Operand.tmp 2) 0, type := 0, pos := "ref.go:330", after := #[], guard := none }) (v := ?v11rp9) rfl (by kernel_rfl) (by kernel_rfl) (by kernel_rfl) (fun _ _ _ h => h) (Or.inl ⟨by rfl, ?y11rp9⟩) (by assumption) ?r11rp9
                case y11rp9 => (intro x hx; (try dsimp only at hx); go_simp; try with_reducible rfl)
                try simp only [Act.put, List.setIfInBounds_toArray, List.set_cons_zero, List.set_cons_succ]
                refine wpAnyH_take (i := 12) (oi := { dst := some 70, op := Op.fieldAddr 23 (Operand.tmp 69) 1, type := 0, pos := "ref.go:330", after := #[{ on := 11, ground := Ground.data }], guard := none }) (v := ?v12rp9) rfl (by kernel_rfl) (by kernel_rfl) (by kernel_rfl) (fun _ _ _ h => h) (Or.inl ⟨by rfl, ?y12rp9⟩) (by assumption) ?r12rp9
                case y12rp9 => (intro x hx; (try dsimp only at hx); go_simp; try with_reducible rfl)
                try simp only [Act.put, List.setIfInBounds_toArray, List.set_cons_zero, List.set_cons_succ]
                refine wpAnyH_take (i := 13) (oi := { dst := some 71, op := Op.load 3 (Operand.tmp 70), type := 3, pos := "ref.go:330", after := #[{ on := 12, ground := Ground.data }], guard := none }) (v := ?v13rp9) rfl (by kernel_rfl) (by kernel_rfl) (by kernel_rfl) (fun _ _ _ h => h) (Or.inl ⟨by rfl, ?y13rp9⟩) (by assumption) ?r13rp9
                case y13rp9 => (intro x hx; (try dsimp only at hx); go_simp; try with_reducible rfl)
                try simp only [Act.put, List.setIfInBounds_toArray, List.set_cons_zero, List.set_cons_succ]
                refine wpAnyH_take (i := 14) (oi := { dst := some 72, op := Op.binOp BinOp.mul 3 (Operand.tmp 68) (Operand.tmp 71) 3, type := 3, pos := "ref.go:330", after := #[{ on := 10, ground := Ground.data }, { on := 13, ground := Ground.data }], guard := none }) (v := ?v14rp9) rfl (by kernel_rfl) (by kernel_rfl) (by kernel_rfl) (fun _ _ _ h => h) (Or.inl ⟨by rfl, ?y14rp9⟩) (by assumption) ?r14rp9
                case y14rp9 => (intro x hx; (try dsimp only at hx); go_simp; try with_reducible rfl)
                try simp only [Act.put, List.setIfInBounds_toArray, List.set_cons_zero, List.set_cons_succ]
                refine wpAnyH_take (i := 15) (oi := { dst := some 73, op := Op.move (Operand.tmp 9), type := 3, pos := "ref.go:330", after := #[], guard := none }) (v := ?v15rp9) rfl (by kernel_rfl) (by kernel_rfl) (by kernel_rfl) (fun _ _ _ h => h) (Or.inl ⟨by rfl, ?y15rp9⟩) (by assumption) ?r15rp9
                case y15rp9 => (intro x hx; (try dsimp only at hx); go_simp; try with_reducible rfl)
                try simp only [Act.put, List.setIfInBounds_toArray, List.set_cons_zero, List.set_cons_succ]
                refine wpAnyH_take (i := 16) (oi := { dst := some 74, op := Op.binOp BinOp.add 3 (Operand.tmp 72) (Operand.tmp 73) 3, type := 3, pos := "ref.go:330", after := #[{ on := 14, ground := Ground.data }, { on := 15, ground := Ground.data }], guard := none }) (v := ?v16rp9) rfl (by kernel_rfl) (by kernel_rfl) (by kernel_rfl) (fun _ _ _ h => h) (Or.inl ⟨by rfl, ?y16rp9⟩) (by assumption) ?r16rp9
                case y16rp9 => (intro x hx; (try dsimp only at hx); go_simp; try with_reducible rfl)
                try simp only [Act.put, List.setIfInBounds_toArray, List.set_cons_zero, List.set_cons_succ]
                refine wpAnyH_ready (rs := [8]) (by kernel_rfl) (by simp) ?_
                refine AllReadyH.cons (o := { dst := some 66, op := Op.call { callee := Callee.value (Operand.func 25), args := #[Operand.tmp 58, Operand.tmp 65], argTypes := #[27, 3] }, type := 24, pos := "ref.go:330", after := #[{ on := 0, ground := Ground.data }, { on := 7, ground := Ground.data }], guard := none }) rfl (fun K hK => ?_) AllReadyH.nil
                go_simp
                go_at_call 25
                refine (rpage_any b p s _ _ n _ m _ xs _ k L (k * L) ((k + 1) * L) (by omega) (by omega) (by omega) (HX.out.below HSD.out.bel) HLs.out rfl rfl HKL.out (by omega)).mono ?_
                rintro e u3 ⟨vp, rfl, own3, b3⟩
                obtain ⟨ap, cp, rfl, rp⟩ := own_reads own3 (HX.out.2.1)
                have HS3 : Hid (Rfd w u3 b p s bk off n c mb mo m c' bk2 off2 c2 mb2 mo2 c2' u7 (D9)) := HSD.out.below b3
                have HP3 : Hid (Reads u3 ap L (pgK xs L k)) := rp
                have hSnew := And.intro (cells5 HS3.out.b1) (cells5 HS3.out.b2)
                clear own3 b3 rp
                go_wp2_with fail
                refine hK.out _ _ hSnew (fun hHeld8 => ?_)
                clear hK K hSnew
                clear hHeld
                have hHeld := hHeld8
                clear hHeld8
                try simp only [Act.put, List.setIfInBounds_toArray, List.set_cons_zero, List.set_cons_succ]
                refine wpAnyH_ready (rs := [17]) (by kernel_rfl) (by simp) ?_
                refine AllReadyH.cons (o := { dst := some 75, op := Op.call { callee := Callee.value (Operand.func 25), args := #[Operand.tmp 67, Operand.tmp 74], argTypes := #[27, 3] }, type := 24, pos := "ref.go:330", after := #[{ on := 9, ground := Ground.data }, { on := 16, ground := Ground.data }, { on := 8, ground := Ground.chain }], guard := none }) rfl (fun K hK => ?_) AllReadyH.nil
                go_simp
                go_at_call 25
                refine (rpage_any b p s _ _ n _ m _ ys _ k L (k * L) ((k + 1) * L) (by omega) (by omega) (by omega) (HY.out.below HS3.out.bel) HLs.out rfl rfl HKL.out (by omega)).mono ?_
                rintro e u4 ⟨vq, rfl, own4, b4⟩
                obtain ⟨aq, cq, rfl, rq⟩ := own_reads own4 (HY.out.2.1)
                have HS4 : Hid (Rfd w u4 b p s bk off n c mb mo m c' bk2 off2 c2 mb2 mo2 c2' u7 (D9)) := HS3.out.below b4
                have HP4 : Hid (Reads u4 ap L (pgK xs L k)) := HP3.out.below b4
                have HP5 : Hid (Reads u4 aq L (pgK ys L k)) := rq
                have hSnew := And.intro (cells5 HS4.out.b1) (cells5 HS4.out.b2)
                clear own4 b4 rq
                go_wp2_with fail
                refine hK.out _ _ hSnew (fun hHeld17 => ?_)
                clear hK K hSnew
                clear hHeld
                have hHeld := hHeld17
                clear hHeld17
                try simp only [Act.put, List.setIfInBounds_toArray, List.set_cons_zero, List.set_cons_succ]
                refine wpAnyH_ready (rs := [18]) (by kernel_rfl) (by simp) ?_
                refine AllReadyH.cons (o := { dst := some 76, op := Op.call { callee := Callee.value (Operand.func 30), args := #[Operand.tmp 66, Operand.tmp 75], argTypes := #[24, 24] }, type := 4, pos := "ref.go:330", after := #[{ on := 8, ground := Ground.data }, { on := 17, ground := Ground.data }, { on := 17, ground := Ground.chain }], guard := none }) rfl (fun K hK => ?_) AllReadyH.nil
                go_simp
                go_at_call 30
                refine (rsame_any ap aq L _ _ (pgK xs L k) (pgK ys L k) _ (by omega) HP4.out HP5.out).mono ?_
                rintro e u5 ⟨rfl, q5, hu5⟩
                rw [HDE.out]
                have b5 : Below u4.heap.size u4 u5 := (by rw [hu5]; exact ⟨rfl, rfl, rfl, Nat.le_refl _, fun _ _ => rfl⟩)
                have HS5 : Hid (Rfd w u5 b p s bk off n c mb mo m c' bk2 off2 c2 mb2 mo2 c2' u7 (D9)) := HS4.out.below b5
                have hSnew := And.intro (cells5 HS5.out.b1) (cells5 HS5.out.b2)
                clear hu5 b5
                go_wp2_with fail
                refine hK.out _ _ hSnew (fun hHeld18 => ?_)
                clear hK K hSnew
                clear hHeld
                have hHeld := hHeld18
                clear hHeld18
                try simp only [Act.put, List.setIfInBounds_toArray, List.set_cons_zero, List.set_cons_succ]
                refine wpAnyH_take (i := 19) (oi := { dst := some 77, op := Op.unOp UnOp.not 4 (Operand.tmp 76), type := 4, pos := "ref.go:330", after := #[{ on := 18, ground := Ground.data }], guard := none }) (v := ?v19rp9) rfl (by kernel_rfl) (by kernel_rfl) (by kernel_rfl) (fun _ _ _ h => h) (Or.inl ⟨by rfl, ?y19rp9⟩) (by assumption) ?r19rp9
                case y19rp9 => (intro x hx; (try dsimp only at hx); go_simp; try with_reducible rfl)
                try simp only [Act.put, List.setIfInBounds_toArray, List.set_cons_zero, List.set_cons_succ]
                refine wpAnyH_done (by kernel_rfl) ?_ _
                go_wp2_with (first
                  | (at_builtin; refine wpList_append_own _ rfl _ _ 46 rfl w.heap.size 38 i0 (.agg #[.int .i64 0, .int .i64 0]) 2 16 Try.underlying46 hi0 hz0 hz1 hz2 rfl (by decide) _ _ _ rfl (HS5.out.row.alloc _) ⟨u5.heap.size, 0, none⟩ 1 1 [.int .i64 (i : Int), .int .i64 (j : Int)] rfl rfl (cell_two_new _ _ _ _) (by simp [Value.oneCell']) (by rw [show maxLen = 9223372036854775807 from rfl]; have := HDL.out; omega) (by have := HDL.out; omega) (by have := HS5.out.bel.size; simp; omega) ?_; intro v7 w7 hown' hgrow _
                     have HA7 : Hid (Rfd w w7 b p s bk off n c mb mo m c' bk2 off2 c2 mb2 mo2 c2' v7 (D9 ++ [(⟨(i : Int), (j : Int)⟩ : Pl)])) := Rfd.app HS5.out ⟨(i : Int), (j : Int)⟩ hown' hgrow
                     clear hown' hgrow))
                go_roundw
                all_goals first
                  | (refine ⟨j + 1, by omega, by simp, ?_⟩; have h9 := HA7.out; unfold Hid; rw [HD9.out, List.append_assoc, List.append_assoc] at h9; rw [dgJ_succ, if_neg (by rw [HKK.out]; exact hpg)]; exact h9)
                  | (simp [intOf]; omega)
            · obtain rfl : j = p := by omega
              have dcj : ¬ (j : Int) < (j : Int) := by omega
              go_wp2_with fail
              go_roundw
              all_goals first
                | (refine ⟨i + 1, by omega, by simp, ?_⟩; unfold Hid; rw [df_block _ _ _ _ _ _ _ (by omega)]; exact HRI.out)
                | (simp [intOf]; omega)
    · obtain rfl : i = b := by omega
      have dc : ¬ (i : Int) < (i : Int) := by omega
      go_wp2_with fail
      go_ret2
      refine ⟨u7, rfl, ?_, HRO.out.bel⟩
      have h9 := HRO.out.row
      rw [HN.out] at h9
      exact h9


end Go.Proofs.Ytnopljjngbgpdaa
