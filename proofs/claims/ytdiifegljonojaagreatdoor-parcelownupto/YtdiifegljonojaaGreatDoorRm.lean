/-
  SEAT YtdiifegljonojaaGreatDoor: a leaf with its data.
-/
import Derived.Test.YtdiifegljonojaaGreatDoorRl
import Derived.Laws.CopyRow
namespace Go.Proofs.YtdiifegljonojaaGreatDoor
open Go.RowKit
set_option linter.unusedVariables false

/-- A stretch laid over data. -/
def place (d : List Int) (s : Sg) : List Int := d.take s.pos ++ s.bs ++ d.drop (s.pos + s.bs.length)
/-- The data of so many bytes with these stretches. -/
def layD (n : Nat) (l : List Sg) : List Int := l.foldl place (List.replicate n 0)
theorem place_len {d : List Int} {s : Sg} (h : s.pos + s.bs.length ≤ d.length) : (place d s).length = d.length := by
  unfold place
  simp
  omega
theorem layD_len (n : Nat) : ∀ l : List Sg, (∀ s ∈ l, s.pos + s.bs.length ≤ n) → (layD n l).length = n := by
  intro l
  unfold layD
  suffices h : ∀ (l : List Sg) (d : List Int), d.length = n → (∀ s ∈ l, s.pos + s.bs.length ≤ n) → (l.foldl place d).length = n from fun hl => h l _ (by simp) hl
  intro l
  induction l with
  | nil => intro d hd _; exact hd
  | cons s r ih =>
    intro d hd hl
    rw [List.foldl_cons]
    exact ih _ (by rw [place_len (by rw [hd]; exact hl s (by simp))]; exact hd) (fun t ht => hl t (by simp [ht]))
theorem layD_snoc (n : Nat) (l : List Sg) (s : Sg) : layD n (l ++ [s]) = place (layD n l) s := by simp [layD]
theorem layD_byt (n : Nat) : ∀ l : List Sg, (∀ s ∈ l, Byt s.bs) → Byt (layD n l) := by
  intro l
  unfold layD
  suffices h : ∀ (l : List Sg) (d : List Int), Byt d → (∀ s ∈ l, Byt s.bs) → Byt (l.foldl place d) from fun hl => h l _ (fun x hx => by have := (List.mem_replicate.1 hx).2; omega) hl
  intro l
  induction l with
  | nil => intro d hd _; exact hd
  | cons s r ih =>
    intro d hd hl
    rw [List.foldl_cons]
    refine ih _ ?_ (fun t ht => hl t (by simp [ht]))
    intro x hx
    unfold place at hx
    rcases List.mem_append.1 hx with hx | hx
    · rcases List.mem_append.1 hx with hx | hx
      · exact hd x (List.mem_of_mem_take hx)
      · exact hl s (by simp) x hx
    · exact hd x (List.mem_of_mem_drop hx)

/-- A leaf's box. -/
abbrev LB (w : World) (p : Nat) (x0 x1 x2 x3 x4 x5 : Value) : Prop := w.heap[p]? = some (.cells #[x0, x1, x2, x3, x4, x5] 38 (0, 0))
section
variable {w : World} {p : Nat} {x0 x1 x2 x3 x4 x5 : Value}
theorem lb_cell0 (h : LB w p x0 x1 x2 x3 x4 x5) : w.cell? ⟨p, 0, none⟩ = some x0 := by simp [World.cell?, h]
theorem lb_frozen0 (h : LB w p x0 x1 x2 x3 x4 x5) : w.frozen? ⟨p, 0, none⟩ = false := by simp [World.frozen?, h]
theorem lb_cell1 (h : LB w p x0 x1 x2 x3 x4 x5) : w.cell? ⟨p, 1, none⟩ = some x1 := by simp [World.cell?, h]
theorem lb_frozen1 (h : LB w p x0 x1 x2 x3 x4 x5) : w.frozen? ⟨p, 1, none⟩ = false := by simp [World.frozen?, h]
theorem lb_cell2 (h : LB w p x0 x1 x2 x3 x4 x5) : w.cell? ⟨p, 2, none⟩ = some x2 := by simp [World.cell?, h]
theorem lb_frozen2 (h : LB w p x0 x1 x2 x3 x4 x5) : w.frozen? ⟨p, 2, none⟩ = false := by simp [World.frozen?, h]
theorem lb_cell3 (h : LB w p x0 x1 x2 x3 x4 x5) : w.cell? ⟨p, 3, none⟩ = some x3 := by simp [World.cell?, h]
theorem lb_frozen3 (h : LB w p x0 x1 x2 x3 x4 x5) : w.frozen? ⟨p, 3, none⟩ = false := by simp [World.frozen?, h]
theorem lb_cell4 (h : LB w p x0 x1 x2 x3 x4 x5) : w.cell? ⟨p, 4, none⟩ = some x4 := by simp [World.cell?, h]
theorem lb_frozen4 (h : LB w p x0 x1 x2 x3 x4 x5) : w.frozen? ⟨p, 4, none⟩ = false := by simp [World.frozen?, h]
theorem lb_cell5 (h : LB w p x0 x1 x2 x3 x4 x5) : w.cell? ⟨p, 5, none⟩ = some x5 := by simp [World.cell?, h]
theorem lb_frozen5 (h : LB w p x0 x1 x2 x3 x4 x5) : w.frozen? ⟨p, 5, none⟩ = false := by simp [World.frozen?, h]
theorem lb_set0 (h : LB w p x0 x1 x2 x3 x4 x5) (x : Value) : LB (w.setCell ⟨p, 0, none⟩ x) p x x1 x2 x3 x4 x5 := blk_set h x
theorem lb_set1 (h : LB w p x0 x1 x2 x3 x4 x5) (x : Value) : LB (w.setCell ⟨p, 1, none⟩ x) p x0 x x2 x3 x4 x5 := blk_set h x
theorem lb_set2 (h : LB w p x0 x1 x2 x3 x4 x5) (x : Value) : LB (w.setCell ⟨p, 2, none⟩ x) p x0 x1 x x3 x4 x5 := blk_set h x
theorem lb_set3 (h : LB w p x0 x1 x2 x3 x4 x5) (x : Value) : LB (w.setCell ⟨p, 3, none⟩ x) p x0 x1 x2 x x4 x5 := blk_set h x
theorem lb_set4 (h : LB w p x0 x1 x2 x3 x4 x5) (x : Value) : LB (w.setCell ⟨p, 4, none⟩ x) p x0 x1 x2 x3 x x5 := blk_set h x
theorem lb_set5 (h : LB w p x0 x1 x2 x3 x4 x5) (x : Value) : LB (w.setCell ⟨p, 5, none⟩ x) p x0 x1 x2 x3 x4 x := blk_set h x
end
theorem LB.other {w w' : World} {p : Nat} {x0 x1 x2 x3 x4 x5 : Value} {r : Option Nat} (h : LB w p x0 x1 x2 x3 x4 x5) (hg : w.grownBy w' r) (hr : r ≠ some p) : LB w' p x0 x1 x2 x3 x4 x5 := (hg.block p (Array.getElem?_eq_some_iff.1 h).1 (fun e => hr e.symm)).trans h

theorem info5s : (Tryz.prog.info? 5).map (·.size) = some 1 := by kernel_rfl
/-- copy into a row of one's own. -/
theorem run_copy_at {w : World} (ty : TypeId) (B g n cap k m c dc : Nat) (xs zs : List Int) (ad : Addr) (hown : Own w B g n cap xs) (hrd : Reads w (some ad) m zs) (hk : k + m ≤ n) :
    ∃ w', (Builtin.copy_ #[25, 25] ty #[.slice (some ⟨g, k, none⟩) (n - k) dc, .slice (some ad) m c]).run Tryz.prog w = .ok (goInt m) w' ∧ Own w' B g n cap (xs.take k ++ zs ++ xs.drop (k + m)) ∧ w.grownBy w' (some g) := by
  have hzl := hrd.1
  have hxl := hown.len
  rcases hown.2 with ⟨h0, _⟩ | ⟨g', cap', cur, hv, hB, hg, hnc, hcm, hcs, htk⟩
  · cases h0
  · cases hv
    have key := run_copy_row (P := Tryz.prog) w 25 25 ty 5 g k (n - k) dc ad m c cur 5 (zs.map (Value.int .u8)) Tryz.underlying25 info5s hg (by simp only [List.length_map, hzl]; exact (Nat.min_eq_left (by omega)).symm) hrd.news (by simp only [List.length_map, hzl]; omega) (ints_oneCell _ _)
    simp only [List.length_map, hzl] at key
    refine ⟨_, key, ⟨by simp [hzl, hxl]; omega, Or.inr ⟨g, cap, _, rfl, hB, setRow_heap w g cur _ 5 (0, 0) hg, hnc, hcm, ?_, ?_⟩⟩, ⟨rfl, rfl, rfl, by simp, fun j hj hne => setRow_other w g j _ (fun e => hne (by rw [e]))⟩⟩
    · simp [hzl, hcs]; omega
    · have hcur : cur.toList.length = cap := by rw [Array.length_toList, hcs]; omega
      rw [Nat.mul_one] at htk ⊢
      show List.take n (cur.toList.take k ++ zs.map (Value.int .u8) ++ cur.toList.drop (k + m)) = _
      have h1 : cur.toList.take k = (xs.take k).map (Value.int .u8) := by rw [List.map_take, ← htk, List.take_take, Nat.min_eq_left (by omega)]
      have h2 : (cur.toList.drop (k + m)).take (n - (k + m)) = (xs.drop (k + m)).map (Value.int .u8) := by rw [List.map_drop, ← htk, List.drop_take]
      rw [List.append_assoc, List.take_append, List.take_append, List.map_append, List.map_append, List.length_map, hzl, List.length_take, hcur, Nat.min_eq_left (show k ≤ cap by omega), h1, List.append_assoc]
      rw [List.take_of_length_le (l := (xs.take k).map _) (by simp; omega), List.take_of_length_le (l := zs.map _) (by simp [hzl]; omega), show n - k - m = n - (k + m) by omega, h2]

theorem flatS_len (es : List Se) : (flatS es).length = es.length * 3 := by
  induction es with
  | nil => rfl
  | cons x r ih =>
    rw [show flatS (x :: r) = x.cells ++ flatS r from rfl, List.length_append, ih]
    simp [Se.cells]
    omega
theorem flatS_cell (es : List Se) (i j : Nat) (hi : i < es.length) (hj : j < 3) : (flatS es)[i * 3 + j]? = es[i].cells[j]? := by
  induction es generalizing i with
  | nil => simp at hi
  | cons x r ih =>
    rw [show flatS (x :: r) = x.cells ++ flatS r from rfl]
    have hl : x.cells.length = 3 := rfl
    cases i with
    | zero => rw [List.getElem?_append_left (by omega)]; simp
    | succ i =>
      rw [List.getElem?_append_right (by omega), hl, show (i + 1) * 3 + j - 3 = i * 3 + j by omega, ih i (by simpa using hi)]
      simp

/-- Data in memory. -/
def DtOn (w : World) (B0 : Nat) (v : Value) (xs : List Int) : Prop := w.ownsRow B0 5 1 v xs.length (xs.map (Value.int .u8))

/-- May the stretches be those of so many bytes? -/
def Fit (n : Nat) (l : List Sg) : Prop := ∀ s ∈ l, s.pos + s.bs.length ≤ n ∧ 0 < s.bs.length

/-- What stands in the rounds. -/
structure WhS (w wr : World) (B : Nat) (p : Pc) (g9 c9 : Nat) (es : List Se) (k : Nat) : Prop where
  own : Own wr (w.heap.size + 3) (w.heap.size + 3) p.size p.size (layD p.size (p.segs.take k))
  lb : LB wr (w.heap.size + 2) (.string (Pt.tg p.names)) (.int .i64 p.ty) (.int .i64 p.mode) (.int .u64 p.stamp) (.slice (some ⟨w.heap.size + 3, 0, none⟩) p.size p.size) (.string p.target)
  rb : LB wr (w.heap.size + 1) (.string ⟨#[]⟩) (.int .i64 0) (.int .i64 0) (.int .u64 0) (.slice none 0 0) (.string ⟨#[]⟩)
  bel : Below w.heap.size w wr
end Go.Proofs.YtdiifegljonojaaGreatDoor
