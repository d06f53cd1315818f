/-
  SEAT Ytgijbpkfheillaa: Clean, Near, Logged, List.
-/
import Derived.Test.YtgijbpkfheillaaFiB
import Derived.Test.YtgijbpkfheillaaFiC
namespace Go.Proofs.Ytgijbpkfheillaa
open Go.RowKit
set_option linter.unusedVariables false

theorem three_cells (w u : World) (hb : Below (w.heap.size + 1) (w.alloc (.cells #[.int .i64 0, .int .i64 5, .int .i64 3] 3)) u) : ∀ j, j < 3 → u.cell? ⟨w.heap.size, j, none⟩ = some (.int .i64 (([0, 5, 3] : List Int).getD j 0)) := by
  intro j hj
  rw [hb.cell (by simp)]
  match j, hj with
  | 0, _ => simp
  | 1, _ => simp
  | 2, _ => simp
set_option maxHeartbeats 1000000 in
theorem near_any (gb gk : Nat) (P : Int) (es : List Ent) (cur last vic : Int) (w : World) (h : BookAt w gb gk P es cur last vic) (hn : es.length ≤ 5000) :
    Calls Try.prog 20 #[.pointer (some ⟨gb, 0, none⟩)] w fun e w' => e = .returned (.int .i64 (cnt [0, 5, 3] es es.length : Nat)) ∧ Below w.heap.size w w' := by
  have a1 : Below w.heap.size w (w.alloc (.cells #[.int .i64 0, .int .i64 5, .int .i64 3] 3)) := ba (Below.refl _ _)
  have r1 := count_any gb gk P es cur last vic w.heap.size 3 3 [0, 5, 3] (w.alloc (.cells #[.int .i64 0, .int .i64 5, .int .i64 3] 3)) (h.below a1) hn rfl (by omega) (by simp) (three_cells w _ (Below.refl _ _))
  have R1 : Hid _ := fun (_ : Unit) => r1
  have A1 : Hid _ := a1
  clear h r1 a1
  go_enter Try.func20, Try.ntmps20
  go_wp2_with (first | (go_at_call 35; refine Calls.mono (R1.out ()) ?_; rintro e u1 ⟨rfl, q1⟩; have B1 : Hid (Below w.heap.size w u1) := A1.out.trans (q1.mono A1.out.size); clear q1))
  go_ret
  exact ⟨rfl, B1.out⟩

/-- How many of the first k entries are so. -/
def cntP (p : Ent → Bool) (es : List Ent) : Nat → Nat
  | 0 => 0
  | k + 1 => cntP p es k + (if p (es.getD k Ent.zero) then 1 else 0)
theorem cntP_le (p : Ent → Bool) (es : List Ent) : ∀ k, cntP p es k ≤ k
  | 0 => Nat.le_refl _
  | k + 1 => by
    have := cntP_le p es k
    rw [cntP]
    split <;> omega
set_option maxHeartbeats 1000000 in
theorem logged_count (gb gk : Nat) (P : Int) (es : List Ent) (cur last vic : Int) (w : World) (h : BookAt w gb gk P es cur last vic) (hn : es.length ≤ 5000) :
    Calls Try.prog 13 #[.pointer (some ⟨gb, 0, none⟩)] w fun e w' => e = .returned (.int .i64 (cntP logE es es.length : Nat)) ∧ Below w.heap.size w w' := by
  obtain ⟨c0, c1, c2, c3, c4⟩ := h.cells
  have HB : Hid (BookAt w gb gk P es cur last vic) := h
  clear h
  go_enter Try.func13, Try.ntmps13
  go_wp2
  go_loopw [3, 5, 11] (fun s3 s5 s11 wr => ∃ k : Nat, k ≤ es.length ∧ s11 = .int .i64 k ∧ s3 = .int .i64 (cntP logE es k : Nat) ∧ Below w.heap.size w wr)
    (fun _ _ i _ => es.length - (intOf i).toNat)
  case atStart => exact ⟨0, Nat.zero_le _, rfl, rfl, Below.refl _ _⟩
  case round =>
    obtain ⟨k, hk, rfl, rfl, hb⟩ := hrel
    have hcl := cntP_le logE es k
    by_cases hlt : k < es.length
    · obtain ⟨e0, e1, e2, e3, e4⟩ := (HB.out.below hb).entry k hlt
      obtain ⟨X, hX⟩ : ∃ X, es.getD k Ent.zero = X := ⟨_, rfl⟩
      have HX : Hid _ := hX
      rw [hX] at e0 e1 e2 e3 e4
      obtain ⟨s, h, r, l, lf⟩ := X
      simp only at e0 e1 e2 e3 e4
      have d1 : (k : Int) < es.length := by omega
      have HB2 : Hid (∀ u, Below (wr.alloc (.cells #[.int .i64 s, .int .u64 h, .bool r, .int .i64 l, .bool lf] 71)).heap.size (wr.alloc (.cells #[.int .i64 s, .int .u64 h, .bool r, .int .i64 l, .bool lf] 71)) u → Below w.heap.size w u) := fun u hu => hb.trans ((below1 hu).mono hb.size)
      clear hX
      cases lv : loggedB s lf with
      | false =>
        have HL : Hid (cntP logE es (k + 1) = cntP logE es k) := by unfold Hid; rw [cntP, HX.out]; unfold logE; simp only; rw [lv]; rfl
        go_wp2_with (first | (go_at_call 39; refine (logged_any _ _ _ _ _ _).mono ?_; rintro e u1 ⟨rfl, q1⟩; rw [lv]; have Q1 : Hid (Below w.heap.size w u1) := HB2.out _ q1; clear q1))
        go_roundw
        case rel => exact ⟨k + 1, by omega, by go_num, by rw [HL.out], Q1.out⟩
        case measure => simp [intOf]; omega
      | true =>
        have HL : Hid (cntP logE es (k + 1) = cntP logE es k + 1) := by unfold Hid; rw [cntP, HX.out]; unfold logE; simp only; rw [lv]; rfl
        go_wp2_with (first | (go_at_call 39; refine (logged_any _ _ _ _ _ _).mono ?_; rintro e u1 ⟨rfl, q1⟩; rw [lv]; have Q1 : Hid (Below w.heap.size w u1) := HB2.out _ q1; clear q1))
        go_roundw
        case rel => exact ⟨k + 1, by omega, by go_num, by rw [HL.out]; simp, Q1.out⟩
        case measure => simp [intOf]; omega
    · have hkn : k = es.length := by omega
      subst hkn
      go_wp2
      go_ret
      exact ⟨rfl, hb⟩

def Ent.bk (e : Ent) : Bk := ⟨e.s, e.h, e.r, e.l⟩
theorem flatK_set4 : ∀ (bs : List Bk) (i : Nat) (x : Bk), i < bs.length → ((((flatK bs).set (i * 4) (.int .i64 x.s)).set (i * 4 + 1) (.int .u64 x.h)).set (i * 4 + 2) (.bool x.r)).set (i * 4 + 3) (.int .i64 x.l) = flatK (bs.set i x)
  | [], i, x, h => absurd h (Nat.not_lt_zero _)
  | e :: es, 0, x, _ => by simp [flatK, Bk.cells]
  | e :: es, i + 1, x, h => by
    have := flatK_set4 es i x (by simpa using h)
    have e1 : ∀ k, (i + 1) * 4 + k = i * 4 + k + 4 := fun k => by omega
    have e0 : (i + 1) * 4 = i * 4 + 4 := by omega
    rw [e1, e1, e1, e0]
    have e2 : flatK (e :: es) = .int .i64 e.s :: .int .u64 e.h :: .bool e.r :: .int .i64 e.l :: flatK es := by simp [flatK, Bk.cells]
    have e3 : flatK ((e :: es).set (i + 1) x) = .int .i64 e.s :: .int .u64 e.h :: .bool e.r :: .int .i64 e.l :: flatK (es.set i x) := by simp [flatK, Bk.cells]
    rw [e2, e3]
    simp only [List.set_cons_succ]
    rw [this]
/-- A row of blocks that is new. -/
def RowAt (w : World) (g : Nat) (bs : List Bk) : Prop := w.heap[g]? = some (.cells (flatK bs).toArray 34 (0, 0))
theorem RowAt.cell {w : World} {g : Nat} {bs : List Bk} (h : RowAt w g bs) (i j : Nat) (hi : i < bs.length) (hj : j < 4) : w.cell? ⟨g, i * 4 + j, none⟩ = some ((bs.getD i Bk.zero).cell j) := by
  unfold RowAt at h
  simp only [World.cell?, h, List.getElem?_toArray]
  exact flatK_cell bs i j hi hj
theorem RowAt.free {w : World} {g : Nat} {bs : List Bk} (h : RowAt w g bs) (j : Nat) : w.frozen? ⟨g, j, none⟩ = false := by
  unfold RowAt at h
  simp [World.frozen?, h]
theorem RowAt.put {w : World} {g : Nat} {bs : List Bk} (h : RowAt w g bs) (i : Nat) (hi : i < bs.length) (x : Bk) : RowAt ((((w.setCell ⟨g, i * 4, none⟩ (.int .i64 x.s)).setCell ⟨g, i * 4 + 1, none⟩ (.int .u64 x.h)).setCell ⟨g, i * 4 + 2, none⟩ (.bool x.r)).setCell ⟨g, i * 4 + 3, none⟩ (.int .i64 x.l)) g (bs.set i x) := by
  have g0 := heap_setCell_same w g (i * 4) _ 34 (.int .i64 x.s) h
  have g1 := heap_setCell_same _ g (i * 4 + 1) _ 34 (.int .u64 x.h) g0
  have g2 := heap_setCell_same _ g (i * 4 + 2) _ 34 (.bool x.r) g1
  have g3 := heap_setCell_same _ g (i * 4 + 3) _ 34 (.int .i64 x.l) g2
  unfold RowAt
  rw [g3, ← flatK_set4 bs i x hi]
  simp
theorem RowAt.below {w w' : World} {g : Nat} {bs : List Bk} (h : RowAt w g bs) (hb : Below w.heap.size w w') : RowAt w' g bs := (hb.block g (lt_of_block h)).trans h
theorem RowAt.readsK {w : World} {g : Nat} {bs : List Bk} (h : RowAt w g bs) (hok : ∀ c ∈ bs, c.Ok) : ReadsK w (some ⟨g, 0, none⟩) bs.length bs := by
  refine ⟨rfl, hok, (fun h => by cases h), fun x hx i hi j hj => ?_⟩
  cases hx
  rw [plain_add, Nat.zero_add]
  exact h.cell i j hi hj
/-- The list while its first k blocks are laid. -/
def laidB (es : List Ent) (n k : Nat) : List Bk := (es.take k).map Ent.bk ++ List.replicate (n - k) Bk.zero
theorem laidB_length (es : List Ent) (n k : Nat) (hb : es.length = n) (hk : k ≤ n) : (laidB es n k).length = n := by simp [laidB]; omega
theorem laidB_step (es : List Ent) (n k : Nat) (hb : es.length = n) (hk : k < n) : (laidB es n k).set k (es.getD k Ent.zero).bk = laidB es n (k + 1) := by
  have hl : ((es.take k).map Ent.bk).length = k := by simp; omega
  unfold laidB
  rw [List.set_append_right _ _ (by omega), hl, Nat.sub_self, show n - k = n - (k + 1) + 1 by omega, List.replicate_succ, List.set_cons_zero, List.take_succ_eq_append_getElem (by omega), List.map_append, List.append_assoc, List.getD_eq_getElem?_getD, List.getElem?_eq_getElem (by omega)]
  rfl
theorem laidB_all (es : List Ent) (n : Nat) (hb : es.length = n) : laidB es n n = es.map Ent.bk := by
  unfold laidB
  rw [Nat.sub_self, List.take_of_length_le (by omega)]
  simp
theorem flatK_made (n : Nat) : (madeCells #[.int .i64 0, .int .u64 0, .bool false, .int .i64 0] (n * 4)).toList = flatK (List.replicate n Bk.zero) := by
  apply List.ext_getElem?
  intro j
  by_cases hj : j < n * 4
  · have hq : j / 4 * 4 + j % 4 = j := by omega
    have h9 := flatK_cell (List.replicate n Bk.zero) (j / 4) (j % 4) (by simp; omega) (by omega)
    rw [hq] at h9
    rw [h9]
    have hz : (List.replicate n Bk.zero).getD (j / 4) Bk.zero = Bk.zero := by
      rw [List.getD_eq_getElem?_getD, List.getElem?_replicate]
      split <;> rfl
    rw [hz]
    have hl : (madeCells #[.int .i64 0, .int .u64 0, .bool false, .int .i64 0] (n * 4)).toList[j]? = some ((#[.int .i64 0, .int .u64 0, .bool false, .int .i64 0] : Array Value)[j % 4]!) := by
      simp [madeCells, hj]
    rw [hl]
    have hr : j % 4 < 4 := by omega
    generalize j % 4 = r at hr
    match r, hr with
    | 0, _ => rfl
    | 1, _ => rfl
    | 2, _ => rfl
    | 3, _ => rfl
  · rw [List.getElem?_eq_none (by simp [madeCells]; omega), List.getElem?_eq_none (by rw [flatK_length]; simp; omega)]
theorem make_list (n : Nat) (hn : n ≤ 5000) (u : World) : (Instr.makeSlice 24 (.int .i64 (n : Int)) (.int .i64 (n : Int))).run Try.prog u = .ok (.slice (some ⟨u.heap.size, 0, none⟩) n n) (u.alloc (.cells (flatK (List.replicate n Bk.zero)).toArray 34)) := by
  obtain ⟨i0, hi, hz0, hz1, hz2⟩ := info_parts info34
  have h := run_makeSlice u 24 34 i0 _ Try.underlying24 hi hz0 .i64 .i64 (n : Int) (n : Int) (by omega) (by omega) (by rw [hz1]; omega) (by rw [hz2]; omega) (by omega)
  rw [h, hz1, ← flatK_made]
  simp [Value.cells]
end Go.Proofs.Ytgijbpkfheillaa
