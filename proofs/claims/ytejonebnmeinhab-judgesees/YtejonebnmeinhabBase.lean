/-
  SEAT Ytejonebnmeinhab: commands, marks, what a judge knows.
-/
import Derived.Test.YtejonebnmeinhabRows
import Derived.WalkKit
import Derived.WalkSpells
import Derived.WalkSmall
import Derived.Below
import Derived.BigQuiet
import Derived.Maps.OwnSet
import Derived.Maps.Views
import Derived.Deep.RegionHeld3
import Derived.Deep.AppendLies
import Derived.Lib.SmallJoins
namespace Go.Proofs.Ytejonebnmeinhab
open Go.RowKit
set_option linter.unusedVariables false

theorem ret_bool {a b : Bool} (h : a = b) : Ending.returned (.bool a) = .returned (.bool b) := by rw [h]
theorem ret_int {k : IntKind} {a b : Int} (h : a = b) : Ending.returned (.int k a) = .returned (.int k b) := by rw [h]

theorem grown_of {w w' : World} (h : Below w.heap.size w w') (row : Option Nat) : w.grownBy w' row := ⟨h.os, h.tape, h.output, h.size, fun k hk _ => h.block k hk⟩
theorem below_of {w w' : World} (h : w.grownBy w' none) : Below w.heap.size w w' := ⟨h.os, h.tape, h.output, h.size, fun k hk => h.block k hk (by simp)⟩
theorem grownBy_trans {a b c : World} {r : Option Nat} (h : a.grownBy b r) (k : b.grownBy c r) : a.grownBy c r :=
  ⟨k.os.trans h.os, k.tape.trans h.tape, k.output.trans h.output, Nat.le_trans h.size k.size, fun i hi hr => (k.block i (Nat.lt_of_lt_of_le hi h.size) hr).trans (h.block i hi hr)⟩
theorem below_trans {a b c : World} (h : Below a.heap.size a b) (k : Below b.heap.size b c) : Below a.heap.size a c := h.trans (k.mono h.size)
theorem drew_grown (w : World) (r : Option Nat) : w.grownBy w.drew r := ⟨rfl, rfl, rfl, Nat.le_refl _, fun _ _ _ => rfl⟩

/-- A command; its cells. -/
structure Cmd where
  k : Int
  b : Int
  p : Int
  s : Int
def Cmd.val (c : Cmd) : Value := .agg #[.int .i64 c.k, .int .i64 c.b, .int .i64 c.p, .int .i64 c.s]

def Wf (n : Int) : Prop := -9223372036854775808 ≤ n ∧ n ≤ 9223372036854775807
theorem Wf.wf {n : Int} (h : Wf n) : (Lit.int .i64 n).wf = true := WalkArith.wf_i64 (by unfold Wf at h; omega)
structure Cmd.Ok (c : Cmd) : Prop where
  k : Wf c.k
  b : Wf c.b
  p : Wf c.p
  s : Wf c.s

/-- What is known of a block. -/
structure Blk where
  m : Bool
  n : Int
  e : Int
def Blk.val (b : Blk) : Value := .agg #[.bool b.m, .int .i64 b.n, .int .i64 b.e]
def Blk.dat (b : Blk) : DataW Unit := .agg [.lit (.bool b.m), .lit (.int .i64 b.n), .lit (.int .i64 b.e)]
def Blk.zero : Blk := ⟨false, 0, 0⟩

def blkElem : Value → Option (DataW Unit × List MemPlace)
  | .agg cs => match cs.toList with
    | [.bool m, .int .i64 n, .int .i64 e] => some ((Blk.mk m n e).dat, [])
    | _ => none
  | _ => none

theorem blkElem_mk (b : Blk) : blkElem b.val = some (b.dat, []) := rfl
theorem dat_inj {a b : Blk} (h : a.dat = b.dat) : a = b := by
  obtain ⟨m, n, e⟩ := a
  obtain ⟨m', n', e'⟩ := b
  simp [Blk.dat] at h
  simp [h]
theorem blkElem_inv {v : Value} {d : DataW Unit} {ps : List MemPlace} (h : blkElem v = some (d, ps)) : ∃ b : Blk, v = b.val ∧ d = b.dat := by
  unfold blkElem at h
  split at h
  · rename_i cs
    split at h
    · rename_i m n e hl
      simp at h
      refine ⟨⟨m, n, e⟩, ?_, h.1.symm⟩
      have : cs = #[.bool m, .int .i64 n, .int .i64 e] := by
        apply Array.ext'
        simpa using hl
      rw [this]
      rfl
    · cases h
  · cases h

theorem law : Maps.Keyed Try.prog 3 := Maps.int_keyed Try.underlying3
theorem zero148 (w : World) : (zeroValue 148).run Try.prog w = .ok Blk.zero.val w := by kernel_rfl

/-- Block bm is a map whose keys are just the numbers below the list's length, each with what is known of that block. -/
def Knows (w : World) (bm : Nat) (st : List Blk) : Prop :=
  ∃ D, w.ownsMap Try.prog 3 blkElem bm st.length D ∧ ∀ x : Int, Maps.has D (.int .i64 x) = decide (0 ≤ x ∧ x < st.length) ∧ (0 ≤ x → x < st.length → D.atKey (.int .i64 x) Blk.zero.dat = (st.getD x.toNat Blk.zero).dat)

theorem Knows.grown {w w' : World} {bm : Nat} {st : List Blk} {row : Option Nat} (h : Knows w bm st) (hg : w.grownBy w' row) (hne : some bm ≠ row) : Knows w' bm st := by
  obtain ⟨D, h1, h2⟩ := h
  exact ⟨D, h1.kept hg hne, h2⟩

theorem Knows.lt {w : World} {bm : Nat} {st : List Blk} (h : Knows w bm st) : bm < w.heap.size := by
  obtain ⟨D, h1, _⟩ := h
  exact h1.lt

theorem Knows.look {w : World} {bm : Nat} {st : List Blk} (h : Knows w bm st) (x : Int) (hx : Wf x) (h0 : 0 ≤ x) (h1 : x < st.length) :
    (Instr.lookup 146 (.map (some bm)) (.int .i64 x) true).run Try.prog w = .ok (.tuple #[(st.getD x.toNat Blk.zero).val, .bool true]) w := by
  obtain ⟨D, ho, hd⟩ := h
  obtain ⟨v, ps, hrun, hv⟩ := ho.look_ok law Try.underlying146 (zero148 w) (blkElem_mk Blk.zero) (Maps.keyOf_int_mk Try.underlying3 hx.wf)
  obtain ⟨e1, e2⟩ := hd x
  rw [e2 h0 h1] at hv
  obtain ⟨b, rfl, hb⟩ := blkElem_inv hv
  rw [hrun, e1, ← dat_inj hb]
  simp [h0, h1]

theorem Knows.miss {w : World} {bm : Nat} {st : List Blk} (h : Knows w bm st) (x : Int) (hx : Wf x) (h0 : ¬ (0 ≤ x ∧ x < st.length)) :
    (Instr.lookup 146 (.map (some bm)) (.int .i64 x) true).run Try.prog w = .ok (.tuple #[Blk.zero.val, .bool false]) w := by
  obtain ⟨D, ho, hd⟩ := h
  obtain ⟨v, ps, hrun, hv⟩ := ho.look_ok law Try.underlying146 (zero148 w) (blkElem_mk Blk.zero) (Maps.keyOf_int_mk Try.underlying3 hx.wf)
  obtain ⟨e1, _⟩ := hd x
  have e1' : Maps.has D (.int .i64 x) = false := by rw [e1]; exact decide_eq_false h0
  rw [Maps.atKey_of_not_has e1'] at hv
  obtain ⟨b, rfl, hb⟩ := blkElem_inv hv
  rw [hrun, e1', ← dat_inj hb]

theorem Knows.look1 {w : World} {bm : Nat} {st : List Blk} (h : Knows w bm st) (x : Int) (hx : Wf x) (h0 : 0 ≤ x) (h1 : x < st.length) :
    (Instr.lookup 146 (.map (some bm)) (.int .i64 x) false).run Try.prog w = .ok (st.getD x.toNat Blk.zero).val w := by
  obtain ⟨D, ho, hd⟩ := h
  obtain ⟨v, ps, hrun, hv⟩ := ho.lookup law Try.underlying146 (zero148 w) (blkElem_mk Blk.zero) (Maps.keyOf_int_mk Try.underlying3 hx.wf)
  obtain ⟨e1, e2⟩ := hd x
  rw [e2 h0 h1] at hv
  obtain ⟨b, rfl, hb⟩ := blkElem_inv hv
  rw [hrun, ← dat_inj hb]

theorem tight {w : World} {bm n : Nat} {D : DataW Unit} (h : w.ownsMap Try.prog 3 blkElem bm n D) : w.ownsMap Try.prog 3 blkElem bm (Maps.size D) D := by
  obtain ⟨es, clock, hb, F, hs, rfl⟩ := h
  refine ⟨es, clock, hb, F, ?_, rfl⟩
  simp [Maps.size, length_sorted]

theorem isKey (x : Int) : WideAt.IsKeyLit (.int .i64 x) := trivial
theorem int_ne {x y : Int} (h : y ≠ x) : Lit.int .i64 y ≠ Lit.int .i64 x := fun e => h (by injection e)

theorem Knows.store {w : World} {bm : Nat} {st : List Blk} (h : Knows w bm st) (x : Int) (hx : Wf x) (h0 : 0 ≤ x) (h1 : x < st.length) (b : Blk) (hl : st.length < 100000) :
    ∃ w', (Instr.mapUpdate 146 (.map (some bm)) (.int .i64 x) b.val).run Try.prog w = .ok () w' ∧ Knows w' bm (st.set x.toNat b) ∧ w.grownBy w' (some bm) := by
  obtain ⟨D, ho, hd⟩ := h
  obtain ⟨w', hrun, ho', hg⟩ := ho.update law Try.underlying146 (by unfold maxLen; omega) (Maps.keyOf_int_mk Try.underlying3 hx.wf) (blkElem_mk b)
  have hhas : Maps.has D (.int .i64 x) = true := by rw [(hd x).1]; exact decide_eq_true ⟨h0, h1⟩
  have hsz : Maps.size (D.put (.int .i64 x) b.dat) = Maps.size D := by rw [Maps.size_put (ho.tidy law)]; simp [hhas]
  refine ⟨w', hrun, ⟨_, (tight ho').mono (by rw [hsz]; simpa using ho.size_le), fun y => ?_⟩, hg⟩
  by_cases hy : y = x
  · subst hy
    refine ⟨?_, fun _ _ => ?_⟩
    · rw [Maps.has_put_same ho.isMap (isKey _)]; simp; omega
    · rw [Maps.atKey_put_same ho.isMap (isKey _)]
      simp [List.getD_eq_getElem?_getD, show y.toNat < st.length by omega]
  · refine ⟨?_, fun g0 g1 => ?_⟩
    · rw [Maps.has_put_other (int_ne hy), (hd y).1]; simp
    · rw [Maps.atKey_put_other (int_ne hy), (hd y).2 g0 (by simpa using g1)]
      have : x.toNat ≠ y.toNat := by omega
      simp [List.getD_eq_getElem?_getD, this]

/-- While it is filled. -/
def Fills (w : World) (bm : Nat) (st : List Blk) : Prop := Knows w bm st

theorem Knows.add {w : World} {bm : Nat} {st : List Blk} (h : Knows w bm st) (hl : st.length < 100000) (b : Blk) :
    ∃ w', (Instr.mapUpdate 146 (.map (some bm)) (.int .i64 (st.length : Int)) b.val).run Try.prog w = .ok () w' ∧ Knows w' bm (st ++ [b]) ∧ w.grownBy w' (some bm) := by
  obtain ⟨D, ho, hd⟩ := h
  obtain ⟨w', hrun, ho', hg⟩ := ho.update law Try.underlying146 (by unfold maxLen; omega) (Maps.keyOf_int_mk Try.underlying3 (a := (st.length : Int)) (Wf.wf ⟨by omega, by omega⟩)) (blkElem_mk b)
  refine ⟨w', hrun, ⟨_, ho'.mono (by simp), fun y => ?_⟩, hg⟩
  by_cases hy : y = (st.length : Int)
  · subst hy
    refine ⟨?_, fun _ _ => ?_⟩
    · rw [Maps.has_put_same ho.isMap (isKey _)]; simp; omega
    · rw [Maps.atKey_put_same ho.isMap (isKey _)]
      simp [List.getD_eq_getElem?_getD]
  · refine ⟨?_, fun g0 g1 => ?_⟩
    · rw [Maps.has_put_other (int_ne hy), (hd y).1, decide_eq_decide]; simp; omega
    · have g2 : y < st.length := by simp at g1; omega
      rw [Maps.atKey_put_other (int_ne hy), (hd y).2 g0 g2]
      simp [List.getD_eq_getElem?_getD, List.getElem?_append, show y.toNat < st.length by omega]

theorem knows_made (w : World) : Knows (w.alloc (.map #[] 0)) w.heap.size [] :=
  ⟨_, World.ownsMap_made w _ _ _, fun x => ⟨by simp [Maps.has], fun h0 h1 => by simp at h1; omega⟩⟩
end Go.Proofs.Ytejonebnmeinhab
