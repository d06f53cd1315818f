/-
  SEAT Ytgijbpkfheillaa: New, taken.
-/
import Derived.Test.YtgijbpkfheillaaBlK
namespace Go.Proofs.Ytgijbpkfheillaa
open Go.RowKit
set_option linter.unusedVariables false

theorem flatE_set4 : ∀ (es : List Ent) (i : Nat) (x : Ent), i < es.length → x.left = (es.getD i Ent.zero).left → ((((flatE es).set (i * 5) (.int .i64 x.s)).set (i * 5 + 1) (.int .u64 x.h)).set (i * 5 + 2) (.bool x.r)).set (i * 5 + 3) (.int .i64 x.l) = flatE (es.set i x)
  | [], i, x, h, _ => absurd h (Nat.not_lt_zero _)
  | e :: es, 0, x, _, hx => by
    have : x.left = e.left := by simpa using hx
    simp [flatE, this]
  | e :: es, i + 1, x, h, hx => by
    have := flatE_set4 es i x (by simpa using h) (by simpa using hx)
    have e1 : ∀ k, (i + 1) * 5 + k = i * 5 + k + 5 := fun k => by omega
    have e0 : (i + 1) * 5 = i * 5 + 5 := by omega
    rw [e1, e1, e1, e0]
    simp only [flatE, List.set_cons_succ]
    rw [this]
theorem BookAt.put4 {w : World} {gb gk : Nat} {P : Int} {es : List Ent} {cur last vic : Int} (h : BookAt w gb gk P es cur last vic) (i : Nat) (hi : i < es.length) (x : Ent) (hx : x.left = (es.getD i Ent.zero).left) :
    BookAt ((((w.setCell ⟨gk, i * 5, none⟩ (.int .i64 x.s)).setCell ⟨gk, i * 5 + 1, none⟩ (.int .u64 x.h)).setCell ⟨gk, i * 5 + 2, none⟩ (.bool x.r)).setCell ⟨gk, i * 5 + 3, none⟩ (.int .i64 x.l)) gb gk P (es.set i x) cur last vic := by
  have hne := h.ne
  have g0 := heap_setCell_same w gk (i * 5) _ 71 (.int .i64 x.s) h.row
  have g1 := heap_setCell_same _ gk (i * 5 + 1) _ 71 (.int .u64 x.h) g0
  have g2 := heap_setCell_same _ gk (i * 5 + 2) _ 71 (.bool x.r) g1
  have g3 := heap_setCell_same _ gk (i * 5 + 3) _ 71 (.int .i64 x.l) g2
  refine ⟨?_, ?_⟩
  · rw [heap_setCell_other _ _ _ _ (fun e => hne e), heap_setCell_other _ _ _ _ (fun e => hne e), heap_setCell_other _ _ _ _ (fun e => hne e), heap_setCell_other _ _ _ _ (fun e => hne e), List.length_set]
    exact h.box
  · rw [g3, ← flatE_set4 es i x hi hx]
    simp

theorem ba {w x : World} {o : Obj} (h : Below w.heap.size w x) : Below w.heap.size w (x.alloc o) := h.alloc h.size _
def Bk.ent (b : Bk) : Ent := ⟨b.s, b.h, b.r, b.l, false⟩
/-- The book while its first k entries are laid. -/
def laidE (bs : List Bk) (n k : Nat) : List Ent := (bs.take k).map Bk.ent ++ List.replicate (n - k) Ent.zero
theorem laidE_length (bs : List Bk) (n k : Nat) (hb : bs.length = n) (hk : k ≤ n) : (laidE bs n k).length = n := by simp [laidE]; omega
theorem laidE_step (bs : List Bk) (n k : Nat) (hb : bs.length = n) (hk : k < n) : (laidE bs n k).set k (bs.getD k Bk.zero).ent = laidE bs n (k + 1) := by
  have hl : ((bs.take k).map Bk.ent).length = k := by simp; omega
  unfold laidE
  rw [List.set_append_right _ _ (by omega), hl, Nat.sub_self, show n - k = n - (k + 1) + 1 by omega, List.replicate_succ, List.set_cons_zero, List.take_succ_eq_append_getElem (by omega), List.map_append, List.append_assoc, List.getD_eq_getElem?_getD, List.getElem?_eq_getElem (by omega)]
  rfl
theorem laidE_left (bs : List Bk) (n k : Nat) (hb : bs.length = n) (hk : k < n) : ((laidE bs n k).getD k Ent.zero).left = false := by
  have hl : ((bs.take k).map Bk.ent).length = k := by simp; omega
  unfold laidE
  rw [List.getD_eq_getElem?_getD, List.getElem?_append_right (by omega), hl, Nat.sub_self, show n - k = n - (k + 1) + 1 by omega, List.replicate_succ]
  rfl
theorem laidE_all (bs : List Bk) (n : Nat) (hb : bs.length = n) : laidE bs n n = bs.map Bk.ent := by
  unfold laidE
  rw [Nat.sub_self, List.take_of_length_le (by omega)]
  simp
theorem flat_made (n : Nat) : (madeCells #[.int .i64 0, .int .u64 0, .bool false, .int .i64 0, .bool false] (n * 5)).toList = flatE (List.replicate n Ent.zero) := by
  apply List.ext_getElem?
  intro j
  by_cases hj : j < n * 5
  · obtain ⟨q, r, hr, rfl⟩ : ∃ q r, r < 5 ∧ j = q * 5 + r := ⟨j / 5, j % 5, by omega, by omega⟩
    obtain ⟨a, b, c, d, e⟩ := flatE_cell (List.replicate n Ent.zero) q (by simp; omega)
    have hz : (List.replicate n Ent.zero).getD q Ent.zero = Ent.zero := by
      rw [List.getD_eq_getElem?_getD, List.getElem?_replicate]
      split <;> rfl
    rw [hz] at a b c d e
    have hl : (madeCells #[.int .i64 0, .int .u64 0, .bool false, .int .i64 0, .bool false] (n * 5)).toList[q * 5 + r]? = some ((#[.int .i64 0, .int .u64 0, .bool false, .int .i64 0, .bool false] : Array Value)[(q * 5 + r) % 5]!) := by
      simp [madeCells, hj]
    rw [hl, show (q * 5 + r) % 5 = r by omega]
    match r, hr with
    | 0, _ => exact a.symm
    | 1, _ => exact b.symm
    | 2, _ => exact c.symm
    | 3, _ => exact d.symm
    | 4, _ => exact e.symm
  · rw [List.getElem?_eq_none (by simp [madeCells]; omega), List.getElem?_eq_none (by rw [flatE_length]; simp; omega)]
theorem info71 : (Try.prog.info? 71).map (fun i => (i.zero, i.size, i.bytes)) = some (some (.agg #[.int .i64 0, .int .u64 0, .bool false, .int .i64 0, .bool false]), 5, 40) := by kernel_rfl
theorem make_row (n : Nat) (hn : n ≤ 5000) (u : World) : (Instr.makeSlice 67 (.int .i64 (n : Int)) (.int .i64 (n : Int))).run Try.prog u = .ok (.slice (some ⟨u.heap.size, 0, none⟩) n n) (u.alloc (.cells (flatE (List.replicate n Ent.zero)).toArray 71)) := by
  obtain ⟨i0, hi, hz0, hz1, hz2⟩ := info_parts info71
  have h := run_makeSlice u 67 71 i0 _ Try.underlying67 hi hz0 .i64 .i64 (n : Int) (n : Int) (by omega) (by omega) (by rw [hz1]; omega) (by rw [hz2]; omega) (by omega)
  rw [h, hz1, ← flat_made]
  simp [Value.cells]

set_option maxHeartbeats 2000000 in
theorem new_ok (b P s3 : Int) (a : Option Addr) (len cap : Nat) (cur last : Int) (bs : List Bk) (w : World) (hr : ReadsK w a len bs) (h : newE b P s3 len cur last bs = 0) :
    Calls Try.prog 26 #[.agg #[.int .i64 b, .int .i64 P, .int .i64 s3], .slice a len cap, .int .i64 cur, .int .i64 last] w fun e w' => ∃ gb gk, e = .returned (.tuple #[.pointer (some ⟨gb, 0, none⟩), .int .i64 0]) ∧ BookAt w' gb gk P (bs.map Bk.ent) cur last (-1) ∧ Below w.heap.size w w' ∧ w.heap.size ≤ gb ∧ w.heap.size ≤ gk := by
  have hall : Fits b P s3 = true ∧ (len : Int) = b ∧ numOk b cur = true ∧ numOk b last = true ∧ mayOk P last bs = true := by
    unfold newE at h
    split at h
    · rename_i f1
      split at h
      · rename_i f2
        split at h
        · rename_i f3
          exact ⟨f1, f2.1, decide_eq_true ⟨f2.2.1, f2.2.2.1⟩, decide_eq_true ⟨f2.2.2.2.1, f2.2.2.2.2⟩, f3⟩
        · simp at h
      · simp at h
    · simp at h
  obtain ⟨f1, f2, f3, f4, f5⟩ := hall
  subst f2
  have hp : 4 ≤ P ∧ P ≤ 256 := by have := fits_b f1; omega
  have hb9 := fits_b f1
  have hbl := hr.1
  clear h
  go_enter Try.func26, Try.ntmps26
  go_wp2_with (first | (go_at_call 47; refine (shape_any _ _ _ _).mono ?_; rintro e u1 ⟨rfl, q1⟩; rw [f1]; obtain ⟨c0, c1, c2⟩ := box3 q1; have Q1 : Hid (Below (w.alloc (.cells #[.int .i64 (len : Int), .int .i64 P, .int .i64 s3] 23)).heap.size (w.alloc (.cells #[.int .i64 (len : Int), .int .i64 P, .int .i64 s3] 23)) u1) := q1; clear q1) | (go_at_call 48; have h9 := Q1; clear h9; refine (num_any _ _ _ _ _).mono ?_; rintro e u2 ⟨rfl, q2⟩; rw [f3]; have Q2 : Hid (Below (w.alloc (.cells #[.int .i64 (len : Int), .int .i64 P, .int .i64 s3] 23)).heap.size (w.alloc (.cells #[.int .i64 (len : Int), .int .i64 P, .int .i64 s3] 23)) u2) := Q1.out.trans (q2.mono Q1.out.size); clear c0 c1 c2 Q1 q2; obtain ⟨c0, c1, c2⟩ := box3 Q2.out) | (go_at_call 48; have h9 := Q2; clear h9; refine (num_any _ _ _ _ _).mono ?_; rintro e u3 ⟨rfl, q3⟩; rw [f4]; have Q3 : Hid (Below (w.alloc (.cells #[.int .i64 (len : Int), .int .i64 P, .int .i64 s3] 23)).heap.size (w.alloc (.cells #[.int .i64 (len : Int), .int .i64 P, .int .i64 s3] 23)) u3) := Q2.out.trans (q3.mono Q2.out.size); clear c0 c1 c2 Q2 q3; obtain ⟨c0, c1, c2⟩ := box3 Q3.out) | (go_at_call 49; refine (may_any _ _ _ _ a len cap bs _ (hr.below (below1 Q3.out)) ?_ hp).mono ?_; omega; rintro e u4 ⟨rfl, q4⟩; rw [f5]; have Q4 : Hid (Below (w.alloc (.cells #[.int .i64 (len : Int), .int .i64 P, .int .i64 s3] 23)).heap.size (w.alloc (.cells #[.int .i64 (len : Int), .int .i64 P, .int .i64 s3] 23)) u4) := Q3.out.trans (q4.mono Q3.out.size); clear c0 c1 c2 Q3 q4; obtain ⟨c0, c1, c2⟩ := box3 Q4.out))
  have hmk := make_row len (by omega)
  have HC : Hid (∀ x, Below u4.heap.size u4 x → (fun x : World => x.cell? ⟨w.heap.size, 1, none⟩ = some (.int .i64 P)) x) := fun x hx => (box3 (Q4.out.trans (hx.mono Q4.out.size))).2.1
  go_region_held3 (fun x => x.cell? ⟨w.heap.size, 1, none⟩ = some (.int .i64 P))
    ((first | exact HC.out _ (Below.refl _ _) | exact HC.out _ (Below.refl _ _).drew | exact HC.out _ ((Below.refl _ _).drew.alloc (Nat.le_refl _) _) | exact HC.out _ ((Below.refl _ _).alloc (Nat.le_refl _) _).drew | exact HC.out _ (ba (ba (Below.refl _ _)).drew) | exact HC.out _ (ba (ba (Below.refl _ _).drew)) | exact HC.out _ (ba (ba (Below.refl _ _))) | exact HC.out _ (ba (ba (Below.refl _ _))).drew))
    (fail)
  have hbk0 : BookAt (((u4.alloc (.cells (flatE (List.replicate len Ent.zero)).toArray 71)).alloc (.cells #[.int .i64 P, .slice (some ⟨u4.heap.size, 0, none⟩) len len, .int .i64 cur, .int .i64 last, .int .i64 (-1)] 69)).drew) (u4.heap.size + 1) u4.heap.size P (laidE bs len 0) cur last (-1) := by
    have el : laidE bs len 0 = List.replicate len Ent.zero := by simp [laidE]
    rw [el]
    refine ⟨?_, ?_⟩
    · have h9 := heap_alloc_new (u4.alloc (.cells (flatE (List.replicate len Ent.zero)).toArray 71)) (.cells #[.int .i64 P, .slice (some ⟨u4.heap.size, 0, none⟩) len len, .int .i64 cur, .int .i64 last, .int .i64 (-1)] 69)
      rw [show (u4.alloc (.cells (flatE (List.replicate len Ent.zero)).toArray 71)).heap.size = u4.heap.size + 1 by simp] at h9
      rw [List.length_replicate]
      exact h9
    · have h9 := ((Below.refl (u4.heap.size + 1) (u4.alloc (.cells (flatE (List.replicate len Ent.zero)).toArray 71))).alloc (by simp) (.cells #[.int .i64 P, .slice (some ⟨u4.heap.size, 0, none⟩) len len, .int .i64 cur, .int .i64 last, .int .i64 (-1)] 69)).block u4.heap.size (by omega)
      exact h9.trans (heap_alloc_new u4 _)
  have HK0 : Hid _ := hbk0
  have HU : Hid (Below u4.heap.size u4 (((u4.alloc (.cells (flatE (List.replicate len Ent.zero)).toArray 71)).alloc (.cells #[.int .i64 P, .slice (some ⟨u4.heap.size, 0, none⟩) len len, .int .i64 cur, .int .i64 last, .int .i64 (-1)] 69)).drew)) := (ba (ba (Below.refl _ _))).drew
  have HW4 : Hid (Below w.heap.size w u4) := below1 Q4.out
  have HR : Hid (ReadsK w a len bs) := hr
  clear hbk0 hr hmk c0 c1 c2 HC Q4
  go_wp2
  go_loopw [11, 12, 49] (fun s11 s12 s49 wr => ∃ k : Nat, k ≤ len ∧ s49 = .int .i64 k ∧ Hid (BookAt wr (u4.heap.size + 1) u4.heap.size P (laidE bs len k) cur last (-1)) ∧ Below u4.heap.size u4 wr)
    (fun _ _ i _ => len - (intOf i).toNat)
  case atStart => exact ⟨0, Nat.zero_le _, rfl, HK0.out, HU.out⟩
  case round =>
    obtain ⟨k, hk, rfl, HK, hb⟩ := hrel
    by_cases hlt : k < len
    · have hbw : Below w.heap.size w wr := HW4.out.trans (hb.mono HW4.out.size)
      obtain ⟨g, off, rfl, hg, hcell⟩ := HR.out.pos (by omega)
      obtain ⟨B, hB⟩ : ∃ B, bs.getD k Bk.zero = B := ⟨_, rfl⟩
      have hc9 := hcell k hlt
      rw [hB] at hc9
      obtain ⟨s, h, r, l⟩ := B
      obtain ⟨c0, c1, c2, c3⟩ := hc9
      rw [← hbw.cell hg] at c0 c1 c2 c3
      simp only at c0 c1 c2 c3
      have HB : Hid (bs.getD k Bk.zero = ⟨s, h, r, l⟩) := hB
      have hll := laidE_length bs len k hbl hk
      obtain ⟨n0, n1, n2, n3, _⟩ := HK.out.entry k (by omega)
      have m0 := HK.out.free (k * 5)
      have m1 := HK.out.free (k * 5 + 1)
      have m2 := HK.out.free (k * 5 + 2)
      have m3 := HK.out.free (k * 5 + 3)
      have hgk : u4.heap.size < wr.heap.size := lt_of_block HK.out.row
      have hne1 : ¬ (u4.heap.size = wr.heap.size) := by omega
      have hne2 : ¬ (wr.heap.size = u4.heap.size) := by omega
      have d1 : (k : Int) < len := by omega
      have hp4 : BookAt ((((wr.setCell ⟨u4.heap.size, k * 5, none⟩ (.int .i64 s)).setCell ⟨u4.heap.size, k * 5 + 1, none⟩ (.int .u64 h)).setCell ⟨u4.heap.size, k * 5 + 2, none⟩ (.bool r)).setCell ⟨u4.heap.size, k * 5 + 3, none⟩ (.int .i64 l)) (u4.heap.size + 1) u4.heap.size P ((laidE bs len k).set k ⟨s, h, r, l, false⟩) cur last (-1) := HK.out.put4 k (by omega) ⟨s, h, r, l, false⟩ (by rw [laidE_left bs len k hbl hlt])
      have hp5 : BookAt ((((((wr.setCell ⟨u4.heap.size, k * 5, none⟩ (.int .i64 s)).setCell ⟨u4.heap.size, k * 5 + 1, none⟩ (.int .u64 h)).setCell ⟨u4.heap.size, k * 5 + 2, none⟩ (.bool r)).setCell ⟨u4.heap.size, k * 5 + 3, none⟩ (.int .i64 l)).alloc (.cells #[.int .i64 s, .int .u64 h, .bool r, .int .i64 l] 34)).drew) (u4.heap.size + 1) u4.heap.size P ((laidE bs len k).set k ⟨s, h, r, l, false⟩) cur last (-1) := hp4.below (ba (Below.refl _ _)).drew
      have HP5 : Hid (BookAt ((((((wr.setCell ⟨u4.heap.size, k * 5, none⟩ (.int .i64 s)).setCell ⟨u4.heap.size, k * 5 + 1, none⟩ (.int .u64 h)).setCell ⟨u4.heap.size, k * 5 + 2, none⟩ (.bool r)).setCell ⟨u4.heap.size, k * 5 + 3, none⟩ (.int .i64 l)).alloc (.cells #[.int .i64 s, .int .u64 h, .bool r, .int .i64 l] 34)).drew) (u4.heap.size + 1) u4.heap.size P ((laidE bs len k).set k ⟨s, h, r, l, false⟩) cur last (-1)) := hp5
      have HS1 : Hid ((fun x : World => x.cell? ⟨u4.heap.size + 1, 1, none⟩ = some (.slice (some ⟨u4.heap.size, 0, none⟩) len len) ∧ x.cell? ⟨wr.heap.size, 0, none⟩ = some (.int .i64 s) ∧ x.cell? ⟨wr.heap.size, 1, none⟩ = some (.int .u64 h) ∧ x.cell? ⟨wr.heap.size, 2, none⟩ = some (.bool r) ∧ x.cell? ⟨wr.heap.size, 3, none⟩ = some (.int .i64 l)) ((wr.alloc (.cells #[.int .i64 s, .int .u64 h, .bool r, .int .i64 l] 34)).drew)) := by
        have h9 := (HK.out.below (ba (o := (.cells #[.int .i64 s, .int .u64 h, .bool r, .int .i64 l] 34)) (Below.refl _ _)).drew).cells.2.1
        rw [hll] at h9
        refine ⟨h9, ?_, ?_, ?_, ?_⟩ <;> simp
      have HS2 : Hid ((fun x : World => x.cell? ⟨u4.heap.size + 1, 1, none⟩ = some (.slice (some ⟨u4.heap.size, 0, none⟩) len len) ∧ x.cell? ⟨wr.heap.size, 0, none⟩ = some (.int .i64 s) ∧ x.cell? ⟨wr.heap.size, 1, none⟩ = some (.int .u64 h) ∧ x.cell? ⟨wr.heap.size, 2, none⟩ = some (.bool r) ∧ x.cell? ⟨wr.heap.size, 3, none⟩ = some (.int .i64 l)) ((((((wr.setCell ⟨u4.heap.size, k * 5, none⟩ (.int .i64 s)).setCell ⟨u4.heap.size, k * 5 + 1, none⟩ (.int .u64 h)).setCell ⟨u4.heap.size, k * 5 + 2, none⟩ (.bool r)).setCell ⟨u4.heap.size, k * 5 + 3, none⟩ (.int .i64 l)).alloc (.cells #[.int .i64 s, .int .u64 h, .bool r, .int .i64 l] 34)).drew)) := by
        have h9 := hp5.cells.2.1
        rw [List.length_set, hll] at h9
        have e9 : ((((wr.setCell ⟨u4.heap.size, k * 5, none⟩ (.int .i64 s)).setCell ⟨u4.heap.size, k * 5 + 1, none⟩ (.int .u64 h)).setCell ⟨u4.heap.size, k * 5 + 2, none⟩ (.bool r)).setCell ⟨u4.heap.size, k * 5 + 3, none⟩ (.int .i64 l)).heap.size = wr.heap.size := by simp
        have h8 := heap_alloc_new ((((wr.setCell ⟨u4.heap.size, k * 5, none⟩ (.int .i64 s)).setCell ⟨u4.heap.size, k * 5 + 1, none⟩ (.int .u64 h)).setCell ⟨u4.heap.size, k * 5 + 2, none⟩ (.bool r)).setCell ⟨u4.heap.size, k * 5 + 3, none⟩ (.int .i64 l)) (.cells #[.int .i64 s, .int .u64 h, .bool r, .int .i64 l] 34)
        rw [e9] at h8
        refine ⟨h9, ?_, ?_, ?_, ?_⟩ <;> (show World.cell? (((((wr.setCell ⟨u4.heap.size, k * 5, none⟩ (.int .i64 s)).setCell ⟨u4.heap.size, k * 5 + 1, none⟩ (.int .u64 h)).setCell ⟨u4.heap.size, k * 5 + 2, none⟩ (.bool r)).setCell ⟨u4.heap.size, k * 5 + 3, none⟩ (.int .i64 l)).alloc (.cells #[.int .i64 s, .int .u64 h, .bool r, .int .i64 l] 34)) _ = _; simp only [World.cell?, h8]; rfl)
      have HBS : Hid (Below u4.heap.size u4 ((((((wr.setCell ⟨u4.heap.size, k * 5, none⟩ (.int .i64 s)).setCell ⟨u4.heap.size, k * 5 + 1, none⟩ (.int .u64 h)).setCell ⟨u4.heap.size, k * 5 + 2, none⟩ (.bool r)).setCell ⟨u4.heap.size, k * 5 + 3, none⟩ (.int .i64 l)).alloc (.cells #[.int .i64 s, .int .u64 h, .bool r, .int .i64 l] 34)).drew)) := (ba ((((hb.setCell (p := ⟨u4.heap.size, k * 5, none⟩) (Nat.le_refl _) _).setCell (p := ⟨u4.heap.size, k * 5 + 1, none⟩) (Nat.le_refl _) _).setCell (p := ⟨u4.heap.size, k * 5 + 2, none⟩) (Nat.le_refl _) _).setCell (p := ⟨u4.heap.size, k * 5 + 3, none⟩) (Nat.le_refl _) _)).drew
      clear hcell hB hp4 hp5
      go_wp2
      go_region_held3 (fun x => x.cell? ⟨u4.heap.size + 1, 1, none⟩ = some (.slice (some ⟨u4.heap.size, 0, none⟩) len len) ∧ x.cell? ⟨wr.heap.size, 0, none⟩ = some (.int .i64 s) ∧ x.cell? ⟨wr.heap.size, 1, none⟩ = some (.int .u64 h) ∧ x.cell? ⟨wr.heap.size, 2, none⟩ = some (.bool r) ∧ x.cell? ⟨wr.heap.size, 3, none⟩ = some (.int .i64 l)) ((first | exact HS1.out | exact HS2.out)) (fail)
      all_goals go_wp2
      all_goals go_roundw
      case rel => exact ⟨k + 1, by omega, by go_num, by have h9 := HP5.out; have h8 := laidE_step bs len k hbl hlt; rw [HB.out] at h8; unfold Hid; rw [← h8]; exact h9, HBS.out⟩
      case measure => simp [intOf]; omega
    · have hkn : k = len := by omega
      subst hkn
      go_wp2
      go_ret2
      exact ⟨_, _, rfl, by rw [← laidE_all bs k hbl]; exact HK.out, HW4.out.trans (hb.mono HW4.out.size), by have := HW4.out.size; omega, HW4.out.size⟩
end Go.Proofs.Ytgijbpkfheillaa
