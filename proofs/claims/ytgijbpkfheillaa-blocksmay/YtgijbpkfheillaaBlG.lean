/-
  SEAT Ytgijbpkfheillaa: the book, its small calls.
-/
import Derived.Test.YtgijbpkfheillaaBlC
import Derived.Deep.QuietTactic
namespace Go.Proofs.Ytgijbpkfheillaa
open Go.RowKit
set_option linter.unusedVariables false

/-- An entry of the book. -/
structure Ent where
  s : Int
  h : Int
  r : Bool
  l : Int
  left : Bool
def Ent.zero : Ent := ⟨0, 0, false, 0, false⟩
def Ent.cells (e : Ent) : List Value := [.int .i64 e.s, .int .u64 e.h, .bool e.r, .int .i64 e.l, .bool e.left]
def flatE : List Ent → List Value
  | [] => []
  | e :: es => .int .i64 e.s :: .int .u64 e.h :: .bool e.r :: .int .i64 e.l :: .bool e.left :: flatE es
theorem flatE_length : ∀ es, (flatE es).length = es.length * 5
  | [] => rfl
  | e :: es => by simp [flatE, flatE_length es]; omega
theorem flatE_cell : ∀ (es : List Ent) (i : Nat), i < es.length → (flatE es)[i * 5]? = some (.int .i64 (es.getD i Ent.zero).s) ∧ (flatE es)[i * 5 + 1]? = some (.int .u64 (es.getD i Ent.zero).h) ∧ (flatE es)[i * 5 + 2]? = some (.bool (es.getD i Ent.zero).r) ∧ (flatE es)[i * 5 + 3]? = some (.int .i64 (es.getD i Ent.zero).l) ∧ (flatE es)[i * 5 + 4]? = some (.bool (es.getD i Ent.zero).left)
  | [], i, h => absurd h (Nat.not_lt_zero _)
  | e :: es, 0, _ => by simp [flatE]
  | e :: es, i + 1, h => by
    have := flatE_cell es i (by simpa using h)
    have e1 : ∀ k, (i + 1) * 5 + k = i * 5 + k + 5 := fun k => by omega
    have e0 : (i + 1) * 5 = i * 5 + 5 := by omega
    rw [e1, e1, e1, e1, e0]
    simpa [flatE] using this
theorem flatE_set : ∀ (es : List Ent) (i : Nat) (x : Ent), i < es.length → (((((flatE es).set (i * 5) (.int .i64 x.s)).set (i * 5 + 1) (.int .u64 x.h)).set (i * 5 + 2) (.bool x.r)).set (i * 5 + 3) (.int .i64 x.l)).set (i * 5 + 4) (.bool x.left) = flatE (es.set i x)
  | [], i, x, h => absurd h (Nat.not_lt_zero _)
  | e :: es, 0, x, _ => by simp [flatE]
  | e :: es, i + 1, x, h => by
    have := flatE_set es i x (by simpa using h)
    have e1 : ∀ k, (i + 1) * 5 + k = i * 5 + k + 5 := fun k => by omega
    have e0 : (i + 1) * 5 = i * 5 + 5 := by omega
    rw [e1, e1, e1, e1, e0]
    simp only [flatE, List.set_cons_succ]
    rw [this]

/-- The program's book. -/
structure BookAt (w : World) (gb gk : Nat) (P : Int) (es : List Ent) (cur last vic : Int) : Prop where
  box : w.heap[gb]? = some (.cells #[.int .i64 P, .slice (some ⟨gk, 0, none⟩) es.length es.length, .int .i64 cur, .int .i64 last, .int .i64 vic] 69 (0, 0))
  row : w.heap[gk]? = some (.cells (flatE es).toArray 71 (0, 0))

section
variable {w w' : World} {gb gk : Nat} {P : Int} {es : List Ent} {cur last vic : Int}
theorem BookAt.cells (h : BookAt w gb gk P es cur last vic) : w.cell? ⟨gb, 0, none⟩ = some (.int .i64 P) ∧ w.cell? ⟨gb, 1, none⟩ = some (.slice (some ⟨gk, 0, none⟩) es.length es.length) ∧ w.cell? ⟨gb, 2, none⟩ = some (.int .i64 cur) ∧ w.cell? ⟨gb, 3, none⟩ = some (.int .i64 last) ∧ w.cell? ⟨gb, 4, none⟩ = some (.int .i64 vic) := by
  have := h.box
  simp [World.cell?, this]
theorem BookAt.entry (h : BookAt w gb gk P es cur last vic) (i : Nat) (hi : i < es.length) : w.cell? ⟨gk, i * 5, none⟩ = some (.int .i64 (es.getD i Ent.zero).s) ∧ w.cell? ⟨gk, i * 5 + 1, none⟩ = some (.int .u64 (es.getD i Ent.zero).h) ∧ w.cell? ⟨gk, i * 5 + 2, none⟩ = some (.bool (es.getD i Ent.zero).r) ∧ w.cell? ⟨gk, i * 5 + 3, none⟩ = some (.int .i64 (es.getD i Ent.zero).l) ∧ w.cell? ⟨gk, i * 5 + 4, none⟩ = some (.bool (es.getD i Ent.zero).left) := by
  have h1 := h.row
  obtain ⟨a, b, c, d, e⟩ := flatE_cell es i hi
  simp only [World.cell?, h1, List.getElem?_toArray]
  exact ⟨a, b, c, d, e⟩
theorem BookAt.ne (h : BookAt w gb gk P es cur last vic) : gb ≠ gk := by
  rintro rfl
  have h1 := h.row
  rw [h.box] at h1
  simp at h1
theorem BookAt.below (h : BookAt w gb gk P es cur last vic) (hb : Below w.heap.size w w') : BookAt w' gb gk P es cur last vic :=
  ⟨(hb.block gb (lt_of_block h.box)).trans h.box, (hb.block gk (lt_of_block h.row)).trans h.row⟩
theorem BookAt.drewN (h : BookAt w gb gk P es cur last vic) (k : Nat) : BookAt (w.drewN k) gb gk P es cur last vic := ⟨h.box, h.row⟩
end

theorem cursor_any (gb gk : Nat) (P : Int) (es : List Ent) (cur last vic : Int) (w : World) (h : BookAt w gb gk P es cur last vic) : Calls Try.prog 9 #[.pointer (some ⟨gb, 0, none⟩)] w fun e w' => e = .returned (.int .i64 cur) ∧ w = w' := by
  obtain ⟨c0, c1, c2, c3, c4⟩ := h.cells
  clear h
  go_enter Try.func9, Try.ntmps9
  go_wp2
  go_ret
  exact ⟨rfl, rfl⟩

def hasOk (n : Nat) (i : Int) : Bool := decide (0 ≤ i ∧ i < n)
theorem has_any (gb gk : Nat) (P : Int) (es : List Ent) (cur last vic i : Int) (w : World) (h : BookAt w gb gk P es cur last vic) (hn : es.length ≤ 5000) : Calls Try.prog 36 #[.pointer (some ⟨gb, 0, none⟩), .int .i64 i] w fun e w' => e = .returned (.bool (hasOk es.length i)) ∧ w = w' := by
  obtain ⟨c0, c1, c2, c3, c4⟩ := h.cells
  clear h
  by_cases h0 : 0 ≤ i
  · by_cases h1 : i < es.length
    · go_enter Try.func36, Try.ntmps36
      go_wp2
      go_ret
      exact ⟨ret_bool (by simp [hasOk]; omega), rfl⟩
    · go_enter Try.func36, Try.ntmps36
      go_wp2
      go_ret
      exact ⟨ret_bool (by simp [hasOk]; omega), rfl⟩
  · go_enter Try.func36, Try.ntmps36
    go_wp2
    go_ret
    exact ⟨ret_bool (by simp [hasOk]; omega), rfl⟩

def hollowB (r : Bool) (l : Int) : Bool := !r && (l == 0)
theorem hollow_any (s h : Int) (r : Bool) (l : Int) (lf : Bool) (w : World) : Calls Try.prog 68 #[.agg #[.int .i64 s, .int .u64 h, .bool r, .int .i64 l, .bool lf]] w fun e w' => e = .returned (.bool (hollowB r l)) ∧ Below w.heap.size w w' := by
  cases r with
  | true =>
    go_enter Try.func68, Try.ntmps68
    go_wp2
    go_ret
    exact ⟨rfl, (Below.refl _ _).alloc (Nat.le_refl _) _⟩
  | false =>
    go_enter Try.func68, Try.ntmps68
    go_wp2
    go_ret
    exact ⟨rfl, (Below.refl _ _).alloc (Nat.le_refl _) _⟩
end Go.Proofs.Ytgijbpkfheillaa
