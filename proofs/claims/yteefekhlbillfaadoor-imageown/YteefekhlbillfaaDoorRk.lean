/-
  SEAT YteefekhlbillfaaDoor: what stands through the rounds of the pieces.
-/
import Derived.Test.YteefekhlbillfaaDoorRi
namespace Go.Proofs.YteefekhlbillfaaDoor
open Go.RowKit
set_option linter.unusedVariables false

/-- A piece and its page in memory. -/
structure En where
  p : Pc
  a : Option Addr
  l : Nat
  c : Nat

def En.cells (x : En) : List Value := [.int .i64 (x.p.k : Int), .int .i64 (x.p.n : Int), .slice x.a x.l x.c]
def flatE (es : List En) : List Value := es.flatMap En.cells
theorem flatE_append (es fs : List En) : flatE (es ++ fs) = flatE es ++ flatE fs := by simp [flatE]
theorem flatE_len (es : List En) : (flatE es).length = es.length * 3 := by
  induction es with
  | nil => rfl
  | cons x r ih =>
    rw [show flatE (x :: r) = x.cells ++ flatE r from rfl, List.length_append, ih]
    simp [En.cells]
    omega

def En.Ok (w : World) (B : Nat) (x : En) : Prop := PgAt w B x.a x.l x.p.g ∧ x.l ≤ 4000 ∧ x.p.k ≤ 2 ∧ x.p.n ≤ 65535

theorem En.Ok.kept {w w' : World} {B : Nat} {x : En} {r : Option Nat} (h : x.Ok w B) (hg : w.grownBy w' r) (hr : ∀ j, r = some j → ¬ Ty5 w j) : x.Ok w' B := ⟨h.1.kept hg hr, h.2⟩

structure Cx (b0 gb L : Nat) (bx : Obj) (v : Value) (es : List En) (a : En) (w : World) : Prop where
  box : w.heap[b0]? = some bx
  ah : w.heap[b0 + 1]? = some (.cells #[.int .i64 (a.p.k : Int), .int .i64 (a.p.n : Int), .slice a.a a.l a.c] 102 (0, 0))
  aok : a.Ok w b0
  own : w.ownsRow (b0 + 2) 102 3 v es.length (flatE es)
  oks : ∀ x ∈ es, x.Ok w b0
  blank : PgAt w b0 (some ⟨gb, 0, none⟩) L (List.replicate L 255)

theorem Cx.kept {b0 gb L : Nat} {bx : Obj} {v : Value} {es : List En} {a : En} {w w' : World} {r : Option Nat} (h : Cx b0 gb L bx v es a w) (hg : w.grownBy w' r)
    (hr : ∀ j, r = some j → j ≠ b0 ∧ j ≠ b0 + 1 ∧ ¬ Ty5 w j ∧ v.ownBlock ≠ some j) : Cx b0 gb L bx v es a w' := by
  have ht : ∀ j, r = some j → ¬ Ty5 w j := fun j e => (hr j e).2.2.1
  refine ⟨?_, ?_, h.aok.kept hg ht, ?_, fun x hx => (h.oks x hx).kept hg ht, h.blank.kept hg ht⟩
  · exact (hg.block b0 (Array.getElem?_eq_some_iff.1 h.box).1 (fun e => (hr b0 e.symm).1 rfl)).trans h.box
  · exact (hg.block (b0 + 1) (Array.getElem?_eq_some_iff.1 h.ah).1 (fun e => (hr (b0 + 1) e.symm).2.1 rfl)).trans h.ah
  · refine h.own.kept hg ?_
    cases hv : v.ownBlock with
    | none => exact Or.inl rfl
    | some k => exact Or.inr (fun e => (hr k e.symm).2.2.2 hv)

theorem Cx.below {b0 gb L : Nat} {bx : Obj} {v : Value} {es : List En} {a : En} {w w' : World} (h : Cx b0 gb L bx v es a w) (hg : Below w.heap.size w w') : Cx b0 gb L bx v es a w' :=
  h.kept (grown_of hg none) (fun j e => by cases e)

/-- A new piece ahead. -/
theorem Cx.ahead {b0 gb L : Nat} {bx : Obj} {v : Value} {es : List En} {a : En} {w : World} (h : Cx b0 gb L bx v es a w) (x : En) (hx : x.Ok w b0) :
    Cx b0 gb L bx v es x (((w.setCell ⟨b0 + 1, 0, none⟩ (.int .i64 (x.p.k : Int))).setCell ⟨b0 + 1, 1, none⟩ (.int .i64 (x.p.n : Int))).setCell ⟨b0 + 1, 2, none⟩ (.slice x.a x.l x.c)) := by
  have hg := grown3 w (b0 + 1) (.int .i64 (x.p.k : Int)) (.int .i64 (x.p.n : Int)) (.slice x.a x.l x.c)
  have ht : ∀ j, some (b0 + 1) = some j → ¬ Ty5 w j := fun j e => by cases e; exact not_ty5 h.ah (by decide)
  refine ⟨?_, blk3_set h.ah _ _ _, hx.kept hg ht, ?_, fun y hy => (h.oks y hy).kept hg ht, h.blank.kept hg ht⟩
  · exact (hg.block b0 (Array.getElem?_eq_some_iff.1 h.box).1 (fun e => by have e' := Option.some.inj e; omega)).trans h.box
  · refine h.own.kept hg (Or.inr fun e => ?_)
    have := (h.own.lt _ e).1
    omega

/-- One more in the list. -/
theorem Cx.push {b0 gb L : Nat} {bx : Obj} {v v' : Value} {es : List En} {a : En} {w w' : World} (h : Cx b0 gb L bx v es a w) (hg : w.grownBy w' v.ownBlock) (ho : w'.ownsRow (b0 + 2) 102 3 v' (es.length + 1) (flatE es ++ a.cells)) :
    Cx b0 gb L bx v' (es ++ [a]) a w' := by
  have ht : ∀ j, v.ownBlock = some j → ¬ Ty5 w j := fun j e => by
    rcases h.own.2 with ⟨hv, _⟩ | ⟨g, cap, cur, hv, _, hg, _⟩
    · rw [hv] at e; simp [Value.ownBlock] at e
    · rw [hv] at e
      simp [Value.ownBlock] at e
      subst e
      exact not_ty5 hg (by decide)
  have hlow : ∀ i, i < b0 + 2 → some i ≠ v.ownBlock := fun i hi e => by have := (h.own.lt i e.symm).1; omega
  refine ⟨?_, ?_, h.aok.kept hg ht, ?_, ?_, h.blank.kept hg ht⟩
  · exact (hg.block b0 (Array.getElem?_eq_some_iff.1 h.box).1 (hlow _ (by omega))).trans h.box
  · exact (hg.block (b0 + 1) (Array.getElem?_eq_some_iff.1 h.ah).1 (hlow _ (by omega))).trans h.ah
  · rw [List.length_append, List.length_singleton, flatE_append]
    have e : flatE [a] = a.cells := by simp [flatE]
    rw [e]
    exact ho
  · intro x hx
    rcases List.mem_append.1 hx with hx | hx
    · exact (h.oks x hx).kept hg ht
    · rw [List.mem_singleton.1 hx]; exact h.aok.kept hg ht

def ext (ps : List Pc) : Except Int (List Pc × List Int) → Except Int (List Pc × List Int)
  | .error e => .error e
  | .ok (qs, t) => .ok (ps ++ qs, t)

theorem ext_step {C S f left : Nat} {ps : List Pc} {a p : Pc} {bs r : List Int} (hl : left ≠ 0) (h : rdPiece C S left bs = .ok (p, r)) (hs : stands p a = true) :
    ext ps (rdPs C S (f + 1) left a bs) = ext (ps ++ [fillP (C + S) a p]) (rdPs C S f (left - p.n) (fillP (C + S) a p) r) := by
  rw [rdPs, if_neg hl, h]
  simp only [hs, if_true]
  cases rdPs C S f (left - p.n) (fillP (C + S) a p) r with
  | error e => rfl
  | ok x => simp [ext]

theorem ext_bad {C S f left : Nat} {ps : List Pc} {a p : Pc} {bs r : List Int} (hl : left ≠ 0) (h : rdPiece C S left bs = .ok (p, r)) (hs : stands p a = false) :
    ext ps (rdPs C S (f + 1) left a bs) = .error 47 := by
  rw [rdPs, if_neg hl, h]
  simp [hs, ext]

theorem ext_err {C S f left : Nat} {ps : List Pc} {a : Pc} {bs : List Int} {x : Int} (hl : left ≠ 0) (h : rdPiece C S left bs = .error x) : ext ps (rdPs C S (f + 1) left a bs) = .error x := by
  rw [rdPs, if_neg hl, h]
  rfl

theorem ext_zero {C S f : Nat} {ps : List Pc} {a : Pc} {bs : List Int} : ext ps (rdPs C S f 0 a bs) = .ok (ps, bs) := by
  cases f with
  | zero => simp [rdPs, ext]
  | succ f => simp [rdPs, ext]

theorem rdPiece_left {C S left : Nat} {bs r : List Int} {p : Pc} (h : rdPiece C S left bs = .ok (p, r)) (h0 : 0 < left) : p.n ≤ left ∧ r.length ≤ bs.length ∧ p.k ≤ 2 ∧ 1 ≤ p.n := by
  unfold rdPiece at h
  split at h
  · cases h
  · split at h
    · cases h
    · split at h
      · split at h
        · split at h
          · cases h
          · split at h
            · cases h
            · split at h
              · cases h
              · cases h
                simp
                omega
        · split at h
          · cases h
          · cases h
            simp
            omega
      · cases h

theorem info102 : (Tryd.prog.info? 102).map (fun i => (i.zero, i.size, i.bytes)) = some (some (.agg #[.int .i64 0, .int .i64 0, .slice none 0 0]), 3, 40) := by kernel_rfl

/-- What pieces answers. -/
def PsRes (w w' : World) (B q : Nat) (e : Ending) : Except Int (List Pc × List Int) → Prop
  | .error x => e = .returned (.tuple #[.slice none 0 0, .int .i64 x]) ∧ x ≠ 0
  | .ok (ps, t) => ∃ v es, e = .returned (.tuple #[v, .int .i64 0]) ∧ es.map En.p = ps ∧ w'.ownsRow w.heap.size 102 3 v es.length (flatE es) ∧ (∀ x ∈ es, x.Ok w' w.heap.size) ∧ RdAt w' B q t ∧ t.length ≤ 200000000000000

end Go.Proofs.YteefekhlbillfaaDoor
