/-
  SEAT YtdiifegljonojaaGreatDoor: a leaf without data; a tree in memory.
-/
import Derived.Test.YtdiifegljonojaaGreatDoorRn
namespace Go.Proofs.YtdiifegljonojaaGreatDoor
open Go.RowKit
set_option linter.unusedVariables false

set_option maxHeartbeats 2000000 in
set_option maxRecDepth 100000 in
theorem whole_none (B B0 : Nat) (p : Pc) (v0 v9 : Value) (w : World) (hok : Pe.Ok w B0 B ⟨p, v0, v9⟩) (hs : p.size = 0) (hg0 : p.segs = []) :
    Calls Tryz.prog 24 #[.agg #[v0, .bool (p.ty == 2), .string (Pt.tg p.names), .int .i64 p.ty, .int .i64 p.mode, .int .u64 p.stamp, .slice none 0 0, .string p.target, .int .i64 (p.size : Int), v9]] w fun e w' => LfV w p e w' ∧ Below w.heap.size w w' := by
  obtain ⟨a0, c0, hv0, _⟩ := Pt.Ow.rd hok.ow
  obtain ⟨a9, c9, hv9⟩ := hok.sg.shape
  simp only at hv0 hv9
  subst hv0
  subst hv9
  have HS := hide hs
  have HG0 := hide hg0
  rw [hs, hg0]
  have hrb : LB (((w.alloc (.cells #[.slice a0 p.names.length c0, .bool (p.ty == 2), .string (Pt.tg p.names), .int .i64 p.ty, .int .i64 p.mode, .int .u64 p.stamp, .slice none 0 0, .string p.target, .int .i64 0, .slice a9 0 c9] 63)).alloc (.cells #[.string ⟨#[]⟩, .int .i64 0, .int .i64 0, .int .u64 0, .slice none 0 0, .string ⟨#[]⟩] 38)).alloc (.cells #[.string (Pt.tg p.names), .int .i64 p.ty, .int .i64 p.mode, .int .u64 p.stamp, .slice none 0 0, .string p.target] 38)) (w.heap.size + 1) (.string ⟨#[]⟩) (.int .i64 0) (.int .i64 0) (.int .u64 0) (.slice none 0 0) (.string ⟨#[]⟩) := by
    unfold LB; rw [Below.heap_alloc _ _ _ (by simp)]
    have h9 := heap_alloc_new (w.alloc (.cells #[.slice a0 p.names.length c0, .bool (p.ty == 2), .string (Pt.tg p.names), .int .i64 p.ty, .int .i64 p.mode, .int .u64 p.stamp, .slice none 0 0, .string p.target, .int .i64 0, .slice a9 0 c9] 63)) (.cells #[.string ⟨#[]⟩, .int .i64 0, .int .i64 0, .int .u64 0, .slice none 0 0, .string ⟨#[]⟩] 38); rw [World.size_alloc] at h9; exact h9
  have hbl : Below w.heap.size w (((w.alloc (.cells #[.slice a0 p.names.length c0, .bool (p.ty == 2), .string (Pt.tg p.names), .int .i64 p.ty, .int .i64 p.mode, .int .u64 p.stamp, .slice none 0 0, .string p.target, .int .i64 0, .slice a9 0 c9] 63)).alloc (.cells #[.string ⟨#[]⟩, .int .i64 0, .int .i64 0, .int .u64 0, .slice none 0 0, .string ⟨#[]⟩] 38)).alloc (.cells #[.string (Pt.tg p.names), .int .i64 p.ty, .int .i64 p.mode, .int .u64 p.stamp, .slice none 0 0, .string p.target] 38)) := (((Below.refl _ _).alloc (Nat.le_refl _) _).alloc (by simp) _).alloc (by simp; omega) _
  have HRB := hide hrb
  have HBL := hide hbl
  clear hok hs hg0 hrb hbl
  go_enter Tryz.func24, Tryz.ntmps24
  go_wp2
  go_loopw [18] (fun i wr => i = .int .i64 0 ∧ wr = (((w.alloc (.cells #[.slice a0 p.names.length c0, .bool (p.ty == 2), .string (Pt.tg p.names), .int .i64 p.ty, .int .i64 p.mode, .int .u64 p.stamp, .slice none 0 0, .string p.target, .int .i64 0, .slice a9 0 c9] 63)).alloc (.cells #[.string ⟨#[]⟩, .int .i64 0, .int .i64 0, .int .u64 0, .slice none 0 0, .string ⟨#[]⟩] 38)).alloc (.cells #[.string (Pt.tg p.names), .int .i64 p.ty, .int .i64 p.mode, .int .u64 p.stamp, .slice none 0 0, .string p.target] 38))) (fun i _ => 0)
  case atStart => exact ⟨rfl, rfl⟩
  case round =>
    obtain ⟨rfl, rfl⟩ := hrel
    go_wp2
    have hrb2 : LB (((w.alloc (.cells #[.slice a0 p.names.length c0, .bool (p.ty == 2), .string (Pt.tg p.names), .int .i64 p.ty, .int .i64 p.mode, .int .u64 p.stamp, .slice none 0 0, .string p.target, .int .i64 0, .slice a9 0 c9] 63)).alloc (.cells #[.string (Pt.tg p.names), .int .i64 p.ty, .int .i64 p.mode, .int .u64 p.stamp, .slice none 0 0, .string p.target] 38)).alloc (.cells #[.string (Pt.tg p.names), .int .i64 p.ty, .int .i64 p.mode, .int .u64 p.stamp, .slice none 0 0, .string p.target] 38)) (w.heap.size + 1) (.string (Pt.tg p.names)) (.int .i64 p.ty) (.int .i64 p.mode) (.int .u64 p.stamp) (.slice none 0 0) (.string p.target) := by
      unfold LB; rw [Below.heap_alloc _ _ _ (by simp)]
      have h9 := heap_alloc_new (w.alloc (.cells #[.slice a0 p.names.length c0, .bool (p.ty == 2), .string (Pt.tg p.names), .int .i64 p.ty, .int .i64 p.mode, .int .u64 p.stamp, .slice none 0 0, .string p.target, .int .i64 0, .slice a9 0 c9] 63)) (.cells #[.string (Pt.tg p.names), .int .i64 p.ty, .int .i64 p.mode, .int .u64 p.stamp, .slice none 0 0, .string p.target] 38); rw [World.size_alloc] at h9; exact h9
    refine bodyPost_ret (res23 _ _ (w.heap.size + 1) _ _ _ _ _ _ ?_ hrb2) rfl ?_
    · rfl
    refine ⟨⟨_, rfl, ?_⟩, (((Below.refl _ _).alloc (Nat.le_refl _) _).alloc (by simp) _).alloc (by simp; omega) _⟩
    rw [HS.out, HG0.out]
    exact World.ownsRow_nil _ _ _ _

theorem leaf_any (B B0 : Nat) (x : Pe) (w : World) (hok : x.Ok w B0 B) (hfit : Fit x.p.size x.p.segs) (hB : B ≤ w.heap.size) :
    Calls Tryz.prog 24 #[.agg x.cells.toArray] w fun e w' => LfV w x.p e w' ∧ Below w.heap.size w w' := by
  obtain ⟨p, v0, v9⟩ := x
  by_cases hs : p.size = 0
  · refine whole_none B B0 p v0 v9 w hok hs ?_
    cases hg : p.segs with
    | nil => rfl
    | cons s r =>
      have h9 := hfit s (by show s ∈ p.segs; rw [hg]; simp)
      have h8 : s.pos + s.bs.length ≤ p.size := h9.1
      omega
  · exact whole_some B B0 p v0 v9 w hok hfit hB (by omega)

/-- A leaf. -/
structure Lf where
  path : ByteArray
  ty : Int
  mode : Int
  stamp : Int
  data : List Int
  target : ByteArray
/-- A leaf in memory. -/
structure Le where
  l : Lf
  d : Value
def Le.cells (x : Le) : List Value := [.string x.l.path, .int .i64 x.l.ty, .int .i64 x.l.mode, .int .u64 x.l.stamp, x.d, .string x.l.target]
def flatL (es : List Le) : List Value := es.flatMap Le.cells
theorem flatL_append (es fs : List Le) : flatL (es ++ fs) = flatL es ++ flatL fs := by simp [flatL]
theorem flatP_len (es : List Pe) : (flatP es).length = es.length * 10 := by
  induction es with
  | nil => rfl
  | cons x r ih =>
    rw [show flatP (x :: r) = x.cells ++ flatP r from rfl, List.length_append, ih]
    simp [Pe.cells]
    omega
theorem flatP_cell (es : List Pe) (i j : Nat) (hi : i < es.length) (hj : j < 10) : (flatP es)[i * 10 + j]? = es[i].cells[j]? := by
  induction es generalizing i with
  | nil => simp at hi
  | cons x r ih =>
    rw [show flatP (x :: r) = x.cells ++ flatP r from rfl]
    have hl : x.cells.length = 10 := rfl
    cases i with
    | zero => rw [List.getElem?_append_left (by omega)]; simp
    | succ i =>
      rw [List.getElem?_append_right (by omega), hl, show (i + 1) * 10 + j - 10 = i * 10 + j by omega, ih i (by simpa using hi)]
      simp
/-- The leaf of a piece. -/
def leafOf (p : Pc) : Lf := ⟨Pt.tg p.names, p.ty, p.mode, p.stamp, layD p.size p.segs, p.target⟩
/-- A tree in memory, of the call's own. -/
structure LsOn (w : World) (B0 : Nat) (v : Value) (es : List Le) : Prop where
  own : w.ownsRow B0 38 6 v es.length (flatL es)
  oks : ∀ x ∈ es, DtOn w B0 x.d x.l.data
theorem DtOn.two {w u : World} {B0 i : Nat} {v : Value} {xs : List Int} {cs : Array Value} {t : TypeId} (h : DtOn w B0 v xs) (hg : w.grownBy u (some i)) (hi : w.heap[i]? = some (.cells cs t (0, 0))) (ht : t ≠ 5) : DtOn u B0 v xs := by
  refine World.ownsRow.kept h hg ?_
  rcases h.2 with ⟨hv, _⟩ | ⟨g, cap, cur, hv, _, hg2, _⟩
  · left; rw [hv]; rfl
  · right
    rw [hv]
    intro e
    have e' : g = i := Option.some.inj e
    rw [← e', hg2] at hi
    cases hi
    exact ht rfl
theorem DtOn.below {w u : World} {B0 : Nat} {v : Value} {xs : List Int} (h : DtOn w B0 v xs) (hb : Below w.heap.size w u) : DtOn u B0 v xs := by
  refine World.ownsRow.kept h (grown_of hb none) ?_
  cases v.ownBlock with
  | none => exact Or.inl rfl
  | some k => exact Or.inr (fun e => by cases e)
theorem LsOn.below {w u : World} {B0 : Nat} {v : Value} {es : List Le} (h : LsOn w B0 v es) (hb : Below w.heap.size w u) : LsOn u B0 v es := by
  refine ⟨World.ownsRow.kept h.own (grown_of hb none) ?_, fun x hx => (h.oks x hx).below hb⟩
  cases v.ownBlock with
  | none => exact Or.inl rfl
  | some k => exact Or.inr (fun e => by cases e)
theorem LsOn.push {w u : World} {B0 : Nat} {v v' : Value} {es : List Le} {x : Le} (h : LsOn w B0 v es) (hg : w.grownBy u v.ownBlock) (ho : u.ownsRow B0 38 6 v' (es.length + 1) (flatL es ++ x.cells)) (hx : DtOn w B0 x.d x.l.data) : LsOn u B0 v' (es ++ [x]) := by
  have key : ∀ y : Le, DtOn w B0 y.d y.l.data → DtOn u B0 y.d y.l.data := by
    intro y hy
    cases hv : v.ownBlock with
    | none => rw [hv] at hg; exact hy.below (below_of hg)
    | some k =>
      rcases h.own.2 with ⟨e, _⟩ | ⟨g, cap, cur, e, h1, h2, _⟩
      · rw [e] at hv; cases hv
      · rw [e] at hg
        have hg' : w.grownBy u (some g) := hg
        exact hy.two hg' h2 (by decide)
  refine ⟨?_, ?_⟩
  · rw [List.length_append, List.length_singleton, flatL_append]
    have e : flatL [x] = x.cells := by simp [flatL]
    rw [e]; exact ho
  · intro y hy
    rcases List.mem_append.1 hy with hy | hy
    · exact key y (h.oks y hy)
    · rw [List.mem_singleton.1 hy]; exact key x hx
end Go.Proofs.YtdiifegljonojaaGreatDoor
