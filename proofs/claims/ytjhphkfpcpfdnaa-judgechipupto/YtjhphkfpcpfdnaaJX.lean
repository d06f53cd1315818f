/-
  SEAT Ytjhphkfpcpfdnaa: JBase, JFnB, JFnA, JFnC, JFnD, JFnE, JPure, JFnF, JFnG, JTurnsW, JKept, JRep.
-/
import Derived.Test.YtjhphkfpcpfdnaaRows
import Derived.WalkKit
import Derived.WalkSpells
import Derived.WalkSmall
import Derived.Below
import Derived.BigQuiet
import Derived.Maps.OwnSet
import Derived.Maps.Views
import Derived.Deep.RegionHeld3
import Derived.Deep.AppendLies
import Derived.Lib.SmallJoins
namespace Go.Proofs.Ytjhphkfpcpfdnaa.J
open Go.RowKit
set_option linter.unusedVariables false

theorem ret_bool {a b : Bool} (h : a = b) : Ending.returned (.bool a) = .returned (.bool b) := by rw [h]
theorem ret_int {k : IntKind} {a b : Int} (h : a = b) : Ending.returned (.int k a) = .returned (.int k b) := by rw [h]

theorem grown_of {w w' : World} (h : Below w.heap.size w w') (row : Option Nat) : w.grownBy w' row := ⟨h.os, h.tape, h.output, h.size, fun k hk _ => h.block k hk⟩
theorem below_of {w w' : World} (h : w.grownBy w' none) : Below w.heap.size w w' := ⟨h.os, h.tape, h.output, h.size, fun k hk => h.block k hk (by simp)⟩
theorem grownBy_trans {a b c : World} {r : Option Nat} (h : a.grownBy b r) (k : b.grownBy c r) : a.grownBy c r :=
  ⟨k.os.trans h.os, k.tape.trans h.tape, k.output.trans h.output, Nat.le_trans h.size k.size, fun i hi hr => (k.block i (Nat.lt_of_lt_of_le hi h.size) hr).trans (h.block i hi hr)⟩
theorem below_trans {a b c : World} (h : Below a.heap.size a b) (k : Below b.heap.size b c) : Below a.heap.size a c := h.trans (k.mono h.size)
theorem drew_grown (w : World) (r : Option Nat) : w.grownBy w.drew r := ⟨rfl, rfl, rfl, Nat.le_refl _, fun _ _ _ => rfl⟩

/-- A command; its cells. -/
structure Cmd where
  k : Int
  b : Int
  p : Int
  s : Int
def Cmd.val (c : Cmd) : Value := .agg #[.int .i64 c.k, .int .i64 c.b, .int .i64 c.p, .int .i64 c.s]

def Wf (n : Int) : Prop := -9223372036854775808 ≤ n ∧ n ≤ 9223372036854775807
theorem Wf.wf {n : Int} (h : Wf n) : (Lit.int .i64 n).wf = true := WalkArith.wf_i64 (by unfold Wf at h; omega)
structure Cmd.Ok (c : Cmd) : Prop where
  k : Wf c.k
  b : Wf c.b
  p : Wf c.p
  s : Wf c.s

/-- What is known of a block. -/
structure Blk where
  m : Bool
  n : Int
  e : Int
def Blk.val (b : Blk) : Value := .agg #[.bool b.m, .int .i64 b.n, .int .i64 b.e]
def Blk.dat (b : Blk) : DataW Unit := .agg [.lit (.bool b.m), .lit (.int .i64 b.n), .lit (.int .i64 b.e)]
def Blk.zero : Blk := ⟨false, 0, 0⟩

def blkElem : Value → Option (DataW Unit × List MemPlace)
  | .agg cs => match cs.toList with
    | [.bool m, .int .i64 n, .int .i64 e] => some ((Blk.mk m n e).dat, [])
    | _ => none
  | _ => none

theorem blkElem_mk (b : Blk) : blkElem b.val = some (b.dat, []) := rfl
theorem dat_inj {a b : Blk} (h : a.dat = b.dat) : a = b := by
  obtain ⟨m, n, e⟩ := a
  obtain ⟨m', n', e'⟩ := b
  simp [Blk.dat] at h
  simp [h]
theorem blkElem_inv {v : Value} {d : DataW Unit} {ps : List MemPlace} (h : blkElem v = some (d, ps)) : ∃ b : Blk, v = b.val ∧ d = b.dat := by
  unfold blkElem at h
  split at h
  · rename_i cs
    split at h
    · rename_i m n e hl
      simp at h
      refine ⟨⟨m, n, e⟩, ?_, h.1.symm⟩
      have : cs = #[.bool m, .int .i64 n, .int .i64 e] := by
        apply Array.ext'
        simpa using hl
      rw [this]
      rfl
    · cases h
  · cases h

theorem law : Maps.Keyed Try.prog 3 := Maps.int_keyed Try.underlying3
theorem zero148 (w : World) : (zeroValue 87).run Try.prog w = .ok Blk.zero.val w := by kernel_rfl

/-- Block bm is a map whose keys are just the numbers below the list's length, each with what is known of that block. -/
def Knows (w : World) (bm : Nat) (st : List Blk) : Prop :=
  ∃ D, w.ownsMap Try.prog 3 blkElem bm st.length D ∧ ∀ x : Int, Maps.has D (.int .i64 x) = decide (0 ≤ x ∧ x < st.length) ∧ (0 ≤ x → x < st.length → D.atKey (.int .i64 x) Blk.zero.dat = (st.getD x.toNat Blk.zero).dat)

theorem Knows.grown {w w' : World} {bm : Nat} {st : List Blk} {row : Option Nat} (h : Knows w bm st) (hg : w.grownBy w' row) (hne : some bm ≠ row) : Knows w' bm st := by
  obtain ⟨D, h1, h2⟩ := h
  exact ⟨D, h1.kept hg hne, h2⟩

theorem Knows.lt {w : World} {bm : Nat} {st : List Blk} (h : Knows w bm st) : bm < w.heap.size := by
  obtain ⟨D, h1, _⟩ := h
  exact h1.lt

theorem Knows.look {w : World} {bm : Nat} {st : List Blk} (h : Knows w bm st) (x : Int) (hx : Wf x) (h0 : 0 ≤ x) (h1 : x < st.length) :
    (Instr.lookup 85 (.map (some bm)) (.int .i64 x) true).run Try.prog w = .ok (.tuple #[(st.getD x.toNat Blk.zero).val, .bool true]) w := by
  obtain ⟨D, ho, hd⟩ := h
  obtain ⟨v, ps, hrun, hv⟩ := ho.look_ok law Try.underlying85 (zero148 w) (blkElem_mk Blk.zero) (Maps.keyOf_int_mk Try.underlying3 hx.wf)
  obtain ⟨e1, e2⟩ := hd x
  rw [e2 h0 h1] at hv
  obtain ⟨b, rfl, hb⟩ := blkElem_inv hv
  rw [hrun, e1, ← dat_inj hb]
  simp [h0, h1]

theorem Knows.miss {w : World} {bm : Nat} {st : List Blk} (h : Knows w bm st) (x : Int) (hx : Wf x) (h0 : ¬ (0 ≤ x ∧ x < st.length)) :
    (Instr.lookup 85 (.map (some bm)) (.int .i64 x) true).run Try.prog w = .ok (.tuple #[Blk.zero.val, .bool false]) w := by
  obtain ⟨D, ho, hd⟩ := h
  obtain ⟨v, ps, hrun, hv⟩ := ho.look_ok law Try.underlying85 (zero148 w) (blkElem_mk Blk.zero) (Maps.keyOf_int_mk Try.underlying3 hx.wf)
  obtain ⟨e1, _⟩ := hd x
  have e1' : Maps.has D (.int .i64 x) = false := by rw [e1]; exact decide_eq_false h0
  rw [Maps.atKey_of_not_has e1'] at hv
  obtain ⟨b, rfl, hb⟩ := blkElem_inv hv
  rw [hrun, e1', ← dat_inj hb]

theorem Knows.look1 {w : World} {bm : Nat} {st : List Blk} (h : Knows w bm st) (x : Int) (hx : Wf x) (h0 : 0 ≤ x) (h1 : x < st.length) :
    (Instr.lookup 85 (.map (some bm)) (.int .i64 x) false).run Try.prog w = .ok (st.getD x.toNat Blk.zero).val w := by
  obtain ⟨D, ho, hd⟩ := h
  obtain ⟨v, ps, hrun, hv⟩ := ho.lookup law Try.underlying85 (zero148 w) (blkElem_mk Blk.zero) (Maps.keyOf_int_mk Try.underlying3 hx.wf)
  obtain ⟨e1, e2⟩ := hd x
  rw [e2 h0 h1] at hv
  obtain ⟨b, rfl, hb⟩ := blkElem_inv hv
  rw [hrun, ← dat_inj hb]

theorem tight {w : World} {bm n : Nat} {D : DataW Unit} (h : w.ownsMap Try.prog 3 blkElem bm n D) : w.ownsMap Try.prog 3 blkElem bm (Maps.size D) D := by
  obtain ⟨es, clock, hb, F, hs, rfl⟩ := h
  refine ⟨es, clock, hb, F, ?_, rfl⟩
  simp [Maps.size, length_sorted]

theorem isKey (x : Int) : WideAt.IsKeyLit (.int .i64 x) := trivial
theorem int_ne {x y : Int} (h : y ≠ x) : Lit.int .i64 y ≠ Lit.int .i64 x := fun e => h (by injection e)

theorem Knows.store {w : World} {bm : Nat} {st : List Blk} (h : Knows w bm st) (x : Int) (hx : Wf x) (h0 : 0 ≤ x) (h1 : x < st.length) (b : Blk) (hl : st.length < 100000) :
    ∃ w', (Instr.mapUpdate 85 (.map (some bm)) (.int .i64 x) b.val).run Try.prog w = .ok () w' ∧ Knows w' bm (st.set x.toNat b) ∧ w.grownBy w' (some bm) := by
  obtain ⟨D, ho, hd⟩ := h
  obtain ⟨w', hrun, ho', hg⟩ := ho.update law Try.underlying85 (by unfold maxLen; omega) (Maps.keyOf_int_mk Try.underlying3 hx.wf) (blkElem_mk b)
  have hhas : Maps.has D (.int .i64 x) = true := by rw [(hd x).1]; exact decide_eq_true ⟨h0, h1⟩
  have hsz : Maps.size (D.put (.int .i64 x) b.dat) = Maps.size D := by rw [Maps.size_put (ho.tidy law)]; simp [hhas]
  refine ⟨w', hrun, ⟨_, (tight ho').mono (by rw [hsz]; simpa using ho.size_le), fun y => ?_⟩, hg⟩
  by_cases hy : y = x
  · subst hy
    refine ⟨?_, fun _ _ => ?_⟩
    · rw [Maps.has_put_same ho.isMap (isKey _)]; simp; omega
    · rw [Maps.atKey_put_same ho.isMap (isKey _)]
      simp [List.getD_eq_getElem?_getD, show y.toNat < st.length by omega]
  · refine ⟨?_, fun g0 g1 => ?_⟩
    · rw [Maps.has_put_other (int_ne hy), (hd y).1]; simp
    · rw [Maps.atKey_put_other (int_ne hy), (hd y).2 g0 (by simpa using g1)]
      have : x.toNat ≠ y.toNat := by omega
      simp [List.getD_eq_getElem?_getD, this]

/-- While it is filled. -/
def Fills (w : World) (bm : Nat) (st : List Blk) : Prop := Knows w bm st

theorem Knows.add {w : World} {bm : Nat} {st : List Blk} (h : Knows w bm st) (hl : st.length < 100000) (b : Blk) :
    ∃ w', (Instr.mapUpdate 85 (.map (some bm)) (.int .i64 (st.length : Int)) b.val).run Try.prog w = .ok () w' ∧ Knows w' bm (st ++ [b]) ∧ w.grownBy w' (some bm) := by
  obtain ⟨D, ho, hd⟩ := h
  obtain ⟨w', hrun, ho', hg⟩ := ho.update law Try.underlying85 (by unfold maxLen; omega) (Maps.keyOf_int_mk Try.underlying3 (a := (st.length : Int)) (Wf.wf ⟨by omega, by omega⟩)) (blkElem_mk b)
  refine ⟨w', hrun, ⟨_, ho'.mono (by simp), fun y => ?_⟩, hg⟩
  by_cases hy : y = (st.length : Int)
  · subst hy
    refine ⟨?_, fun _ _ => ?_⟩
    · rw [Maps.has_put_same ho.isMap (isKey _)]; simp; omega
    · rw [Maps.atKey_put_same ho.isMap (isKey _)]
      simp [List.getD_eq_getElem?_getD]
  · refine ⟨?_, fun g0 g1 => ?_⟩
    · rw [Maps.has_put_other (int_ne hy), (hd y).1, decide_eq_decide]; simp; omega
    · have g2 : y < st.length := by simp at g1; omega
      rw [Maps.atKey_put_other (int_ne hy), (hd y).2 g0 g2]
      simp [List.getD_eq_getElem?_getD, List.getElem?_append, show y.toNat < st.length by omega]

theorem knows_made (w : World) : Knows (w.alloc (.map #[] 0)) w.heap.size [] :=
  ⟨_, World.ownsMap_made w _ _ _, fun x => ⟨by simp [Maps.has], fun h0 h1 => by simp at h1; omega⟩⟩
end Go.Proofs.Ytjhphkfpcpfdnaa.J
namespace Go.Proofs.Ytjhphkfpcpfdnaa.J
open Go.RowKit
set_option linter.unusedVariables false

def taken (s : Int) : Bool := decide (s = 0 ∨ s = 44 ∨ s = 45)

theorem taken_any (s : Int) (w : World) : Calls Try.prog 39 #[.int .i64 s] w fun e w' => e = .returned (.bool (taken s)) ∧ w = w' := by
  by_cases h0 : s = 0
  · subst h0
    go_enter Try.func39, Try.ntmps39
    go_wp2
    go_ret
    exact ⟨rfl, rfl⟩
  · have e0 : (s == 0) = false := by simpa using h0
    by_cases h1 : s = 44
    · subst h1
      go_enter Try.func39, Try.ntmps39
      go_wp2
      go_ret
      exact ⟨rfl, rfl⟩
    · have e1 : (s == 44) = false := by simpa using h1
      go_enter Try.func39, Try.ntmps39
      go_wp2
      go_ret
      refine ⟨ret_bool ?_, rfl⟩
      unfold taken
      simp [h0, h1, Bool.beq_eq_decide_eq]

/-- Does a command keep the rules, by what is known of its block? -/
def kpt (P : Int) (b : Blk) (c : Cmd) : Bool := if c.k = 1 then (!b.m && decide (b.n ≤ c.p ∧ c.p < P)) else if c.k = 2 then !b.m else decide (c.k = 3)

set_option maxHeartbeats 1000000 in
theorem keeps_any (gj : Nat) (P : Int) (b : Blk) (c : Cmd) (w : World) (hp : w.cell? ⟨gj, 1, none⟩ = some (.int .i64 P)) :
    Calls Try.prog 40 #[.pointer (some ⟨gj, 0, none⟩), .agg #[.bool b.m, .int .i64 b.n, .int .i64 b.e], .agg #[.int .i64 c.k, .int .i64 c.b, .int .i64 c.p, .int .i64 c.s]] w fun e w' => e = .returned (.bool (kpt P b c)) ∧ Below w.heap.size w w' := by
  obtain ⟨m, n, e⟩ := b
  obtain ⟨k, bb, p, s⟩ := c
  have hlt : gj < w.heap.size := block_lt_of_cell hp
  have hb2 : ∀ o o' : Obj, Below w.heap.size w ((w.alloc o).alloc o') := fun o o' => ((Below.refl _ _).alloc (Nat.le_refl _) _).alloc (by simp) _
  simp only [kpt]
  by_cases h1 : k = 1
  · subst h1
    have hp2 : ∀ o o' : Obj, ((w.alloc o).alloc o').cell? ⟨gj, 1, none⟩ = some (.int .i64 P) := fun o o' => by rw [(hb2 o o').cell hlt]; exact hp
    cases m with
    | true =>
      go_enter Try.func40, Try.ntmps40
      go_wp2
      go_quiet (fail)
      all_goals go_wp2
      all_goals go_ret
      all_goals exact ⟨ret_bool (by simp), below_drewN (hb2 _ _) _⟩
    | false =>
      by_cases h2 : n ≤ p
      · have hd : decide (n ≤ p) = true := decide_eq_true h2
        go_enter Try.func40, Try.ntmps40
        go_wp2
        go_quiet (fail)
        all_goals go_wp2
        all_goals go_ret
        all_goals exact ⟨ret_bool (by simp), below_drewN (hb2 _ _) _⟩
      · have hd : decide (n ≤ p) = false := decide_eq_false h2
        go_enter Try.func40, Try.ntmps40
        go_wp2
        go_quiet (fail)
        all_goals go_wp2
        all_goals go_ret
        all_goals exact ⟨ret_bool (by simp), below_drewN (hb2 _ _) _⟩
  · have e1 : (k == 1) = false := by simpa using h1
    by_cases h2 : k = 2
    · subst h2
      go_enter Try.func40, Try.ntmps40
      go_wp2
      go_ret
      exact ⟨ret_bool (by simp), hb2 _ _⟩
    · have e2 : (k == 2) = false := by simpa using h2
      by_cases h3 : k = 3
      · subst h3
        go_enter Try.func40, Try.ntmps40
        go_wp2
        go_ret
        exact ⟨ret_bool (by simp), hb2 _ _⟩
      · have e3 : (k == 3) = false := by simpa using h3
        go_enter Try.func40, Try.ntmps40
        go_wp2
        go_ret
        exact ⟨ret_bool (by simp), hb2 _ _⟩

/-- What is known of a block behind a command. -/
def bhd (P : Int) (b : Blk) (c : Cmd) : Blk :=
  if c.k = 1 then ⟨b.m, c.p + 1, b.e⟩ else if c.k = 2 then ⟨b.m, if c.s = 0 then 0 else P, wrap64 (b.e + 1)⟩ else if c.k = 3 then ⟨b.m || decide (c.s = 0), b.n, b.e⟩ else b

set_option maxHeartbeats 1000000 in
theorem behind_any (gj : Nat) (P : Int) (b : Blk) (c : Cmd) (w : World) (hp : w.cell? ⟨gj, 1, none⟩ = some (.int .i64 P)) (hw : -9223372036854775808 ≤ c.p + 1) (hw' : c.k = 1 → c.p + 1 ≤ 9223372036854775807) :
    Calls Try.prog 41 #[.pointer (some ⟨gj, 0, none⟩), .agg #[.bool b.m, .int .i64 b.n, .int .i64 b.e], .agg #[.int .i64 c.k, .int .i64 c.b, .int .i64 c.p, .int .i64 c.s]] w fun e w' => e = .returned (bhd P b c).val ∧ Below w.heap.size w w' := by
  obtain ⟨m, n, e⟩ := b
  obtain ⟨k, bb, p, s⟩ := c
  have hlt : gj < w.heap.size := block_lt_of_cell hp
  have hne : gj ≠ w.heap.size := by omega
  have hb3 : ∀ o o' o'' : Obj, Below w.heap.size w (((w.alloc o).alloc o').alloc o'') := fun o o' o'' => (((Below.refl _ _).alloc (Nat.le_refl _) _).alloc (by simp) _).alloc (by simp; omega) _
  have hp3 : ∀ o o' o'' : Obj, (((w.alloc o).alloc o').alloc o'').cell? ⟨gj, 1, none⟩ = some (.int .i64 P) := fun o o' o'' => by rw [(hb3 o o' o'').cell hlt]; exact hp
  simp only [bhd]
  by_cases h1 : k = 1
  · subst h1
    have hw2 := hw' rfl
    simp only at hw hw2
    go_enter Try.func41, Try.ntmps41
    go_wp2
    refine bodyPost_ret (v := .agg #[.bool m, .int .i64 (p + 1), .int .i64 e]) (by simp [results, Try.results41, go_sem]) rfl ⟨rfl, hb3 _ _ _⟩
  · have e1 : (k == 1) = false := by simpa using h1
    by_cases h2 : k = 2
    · subst h2
      by_cases h4 : s = 0
      · subst h4
        go_enter Try.func41, Try.ntmps41
        go_wp2
        refine bodyPost_ret (v := .agg #[.bool m, .int .i64 0, .int .i64 (wrap64 (e + 1))]) (by simp [results, Try.results41, go_sem]) rfl ⟨rfl, hb3 _ _ _⟩
      · have e4 : (s == 0) = false := by simpa using h4
        go_enter Try.func41, Try.ntmps41
        go_wp2
        refine bodyPost_ret (v := .agg #[.bool m, .int .i64 P, .int .i64 (wrap64 (e + 1))]) (by simp [results, Try.results41, go_sem]) rfl ⟨?_, hb3 _ _ _⟩
        simp [Blk.val]
    · have e2 : (k == 2) = false := by simpa using h2
      by_cases h3 : k = 3
      · subst h3
        cases m with
        | true =>
          go_enter Try.func41, Try.ntmps41
          go_wp2
          refine bodyPost_ret (v := .agg #[.bool true, .int .i64 n, .int .i64 e]) (by simp [results, Try.results41, go_sem]) rfl ⟨rfl, hb3 _ _ _⟩
        | false =>
          by_cases h4 : s = 0
          · subst h4
            go_enter Try.func41, Try.ntmps41
            go_wp2
            refine bodyPost_ret (v := .agg #[.bool true, .int .i64 n, .int .i64 e]) (by simp [results, Try.results41, go_sem]) rfl ⟨rfl, hb3 _ _ _⟩
          · have e4 : (s == 0) = false := by simpa using h4
            go_enter Try.func41, Try.ntmps41
            go_wp2
            refine bodyPost_ret (v := .agg #[.bool false, .int .i64 n, .int .i64 e]) (by simp [results, Try.results41, go_sem]) rfl ⟨?_, hb3 _ _ _⟩
            simp [Blk.val]
      · have e3 : (k == 3) = false := by simpa using h3
        go_enter Try.func41, Try.ntmps41
        go_wp2
        refine bodyPost_ret (v := .agg #[.bool m, .int .i64 n, .int .i64 e]) (by simp [results, Try.results41, go_sem]) rfl ⟨?_, hb3 _ _ _⟩
        simp [Blk.val]
end Go.Proofs.Ytjhphkfpcpfdnaa.J
namespace Go.Proofs.Ytjhphkfpcpfdnaa.J
open Go.RowKit
set_option linter.unusedVariables false

/-- May the geometry be? -/
def Fits (b p s : Int) : Bool := decide (8 ≤ b ∧ b ≤ 4096 ∧ 4 ≤ p ∧ p ≤ 256 ∧ 1 ≤ s ∧ s ≤ 8 ∧ b * p ≤ 65536)

theorem ways (b p s : Int) : b < 8 ∨ (8 ≤ b ∧ 4096 < b) ∨ (8 ≤ b ∧ b ≤ 4096 ∧ p < 4) ∨ (8 ≤ b ∧ b ≤ 4096 ∧ 4 ≤ p ∧ 256 < p) ∨ (8 ≤ b ∧ b ≤ 4096 ∧ 4 ≤ p ∧ p ≤ 256 ∧ s < 1) ∨ (8 ≤ b ∧ b ≤ 4096 ∧ 4 ≤ p ∧ p ≤ 256 ∧ 1 ≤ s ∧ 8 < s) ∨
    (8 ≤ b ∧ b ≤ 4096 ∧ 4 ≤ p ∧ p ≤ 256 ∧ 1 ≤ s ∧ s ≤ 8 ∧ 0 ≤ b * p ∧ b * p ≤ 1048576) := by
  by_cases h : 8 ≤ b ∧ b ≤ 4096 ∧ 4 ≤ p ∧ p ≤ 256
  · have h1 : 0 ≤ b * p := Int.mul_nonneg (by omega) (by omega)
    have h2 : b * p ≤ 4096 * 256 := Int.mul_le_mul (by omega) (by omega) (by omega) (by omega)
    omega
  · omega

def geo (b p s : Int) : Value := .agg #[.int .i64 b, .int .i64 p, .int .i64 s]

set_option maxHeartbeats 1000000 in
theorem mayBe_any (b p s : Int) (w : World) : Calls Try.prog 31 #[.agg #[.int .i64 b, .int .i64 p, .int .i64 s]] w fun e w' => e = .returned (.bool (Fits b p s)) ∧ Below w.heap.size w w' := by
  rcases ways b p s with h | ⟨h1, h⟩ | ⟨h1, h2, h⟩ | ⟨h1, h2, h3, h⟩ | ⟨h1, h2, h3, h4, h⟩ | ⟨h1, h2, h3, h4, h5, h⟩ | ⟨h1, h2, h3, h4, h5, h6, h7, h8⟩
  all_goals
    go_enter Try.func31, Try.ntmps31
    go_wp2
    go_ret
    exact ⟨ret_bool (by first | exact (decide_eq_true (by omega)).symm | exact (decide_eq_false (by omega)).symm | (unfold Fits; rw [decide_eq_decide]; omega)), (Below.refl _ _).alloc (Nat.le_refl _) _⟩

set_option maxHeartbeats 1000000 in
theorem rfits_any (b p s : Int) (w : World) : Calls Try.prog 64 #[.agg #[.int .i64 b, .int .i64 p, .int .i64 s]] w fun e w' => e = .returned (.bool (Fits b p s)) ∧ Below w.heap.size w w' := by
  rcases ways b p s with h | ⟨h1, h⟩ | ⟨h1, h2, h⟩ | ⟨h1, h2, h3, h⟩ | ⟨h1, h2, h3, h4, h⟩ | ⟨h1, h2, h3, h4, h5, h⟩ | ⟨h1, h2, h3, h4, h5, h6, h7, h8⟩
  all_goals
    go_enter Try.func64, Try.ntmps64
    go_wp2
    go_ret
    exact ⟨ret_bool (by first | exact (decide_eq_true (by omega)).symm | exact (decide_eq_false (by omega)).symm | (unfold Fits; rw [decide_eq_decide]; omega)), (Below.refl _ _).alloc (Nat.le_refl _) _⟩
end Go.Proofs.Ytjhphkfpcpfdnaa.J
namespace Go.Proofs.Ytjhphkfpcpfdnaa.J
open Go.RowKit
set_option linter.unusedVariables false

def ReadsB (w : World) (a : Option Addr) (len : Nat) (bs : List Bool) : Prop :=
  bs.length = len ∧ (a = none → len = 0) ∧ ∀ x, a = some x → ∀ i, i < len → w.cell? (x.add i) = some (.bool (bs.getD i false))

theorem plain_add (b off j : Nat) : (⟨b, off, none⟩ : Addr).add j = ⟨b, off + j, none⟩ := by unfold Addr.add; split <;> simp_all

theorem ReadsB.pos {w : World} {a : Option Addr} {len : Nat} {bs : List Bool} (h : ReadsB w a len bs) (hp : 0 < len) :
    ∃ b off, a = some ⟨b, off, none⟩ ∧ b < w.heap.size ∧ ∀ i, i < len → w.cell? ⟨b, off + i, none⟩ = some (.bool (bs.getD i false)) := by
  obtain ⟨hl, hn, hc⟩ := h
  cases a with
  | none => have := hn rfl; omega
  | some x =>
    obtain ⟨b, off, spot⟩ := x
    have h0 := hc _ rfl 0 hp
    have hspot : spot = none := by simpa [Addr.add] using World.cell?_spot h0
    subst hspot
    refine ⟨b, off, rfl, by simpa [Addr.add] using block_lt_of_cell h0, fun i hi => ?_⟩
    have h1 := hc _ rfl i hi
    rw [plain_add] at h1
    exact h1

theorem ReadsB.below {w w' : World} {a : Option Addr} {len : Nat} {bs : List Bool} (h : ReadsB w a len bs) (hb : Below w.heap.size w w') : ReadsB w' a len bs := by
  obtain ⟨hl, hn, hc⟩ := h
  refine ⟨hl, hn, fun x hx i hi => ?_⟩
  have h1 := hc x hx i hi
  rw [hb.cell (block_lt_of_cell h1)]
  exact h1

theorem box3 {w u : World} {b p s : Int} (h : Below (w.alloc (.cells #[.int .i64 b, .int .i64 p, .int .i64 s] 23)).heap.size (w.alloc (.cells #[.int .i64 b, .int .i64 p, .int .i64 s] 23)) u) :
    u.cell? ⟨w.heap.size, 0, none⟩ = some (.int .i64 b) ∧ u.cell? ⟨w.heap.size, 1, none⟩ = some (.int .i64 p) ∧ u.cell? ⟨w.heap.size, 2, none⟩ = some (.int .i64 s) := by
  refine ⟨?_, ?_, ?_⟩ <;> (rw [h.cell (by simp)]; simp)

theorem fits_b {b p s : Int} (h : Fits b p s = true) : 8 ≤ b ∧ b ≤ 4096 ∧ 4 ≤ p ∧ p ≤ 256 := by
  have := of_decide_eq_true h
  omega

/-- What New answers: the error. -/
def newE (b p s : Int) (len : Nat) : Int := if Fits b p s then (if (len : Int) = b then 0 else 41) else 40

set_option maxHeartbeats 1000000 in
theorem rnew_any (b p s : Int) (a : Option Addr) (len cap : Nat) (w : World) (hl : len ≤ 140737488355000) : Calls Try.prog 49 #[.agg #[.int .i64 b, .int .i64 p, .int .i64 s], .slice a len cap] w fun e w' => e = .returned (.int .i64 (newE b p s len)) ∧ Below w.heap.size w w' := by
  have hb0 : Below w.heap.size w (w.alloc (.cells #[.int .i64 b, .int .i64 p, .int .i64 s] 23)) := (Below.refl _ _).alloc (Nat.le_refl _) _
  cases hf : Fits b p s with
  | true =>
    by_cases hb : (len : Int) = b
    · subst hb
      have hE : newE len p s len = 0 := by simp [newE, hf]
      rw [hE]
      go_enter Try.func49, Try.ntmps49
      go_wp2_with (first
        | (go_at_call 64; refine (rfits_any _ _ _ _).mono ?_; rintro e u1 ⟨rfl, bel1⟩; rw [hf]; obtain ⟨c0, c1, c2⟩ := box3 bel1))
      go_ret
      exact ⟨rfl, below_trans hb0 bel1⟩
    · have hE : newE b p s len = 41 := by simp [newE, hf, hb]
      have e1 : ((len : Int) == b) = false := by simpa using hb
      rw [hE]
      go_enter Try.func49, Try.ntmps49
      go_wp2_with (first
        | (go_at_call 64; refine (rfits_any _ _ _ _).mono ?_; rintro e u1 ⟨rfl, bel1⟩; rw [hf]; obtain ⟨c0, c1, c2⟩ := box3 bel1))
      go_ret
      exact ⟨rfl, below_trans hb0 bel1⟩
  | false =>
    have hE : newE b p s len = 40 := by simp [newE, hf]
    rw [hE]
    go_enter Try.func49, Try.ntmps49
    go_wp2_with (first
      | (go_at_call 64; refine (rfits_any _ _ _ _).mono ?_; rintro e u1 ⟨rfl, bel1⟩; rw [hf]))
    go_ret
    exact ⟨rfl, below_trans hb0 bel1⟩

set_option maxHeartbeats 1000000 in
theorem new_bad (b p s : Int) (a : Option Addr) (len cap : Nat) (clean : Bool) (w : World) (hl : len ≤ 140737488355000) (hE : newE b p s len ≠ 0) : Calls Try.prog 7 #[.agg #[.int .i64 b, .int .i64 p, .int .i64 s], .slice a len cap, .bool clean] w fun e w' => e = .returned (.tuple #[.pointer none, .int .i64 (newE b p s len)]) ∧ Below w.heap.size w w' := by
  have hb0 : Below w.heap.size w (w.alloc (.cells #[.int .i64 b, .int .i64 p, .int .i64 s] 23)) := (Below.refl _ _).alloc (Nat.le_refl _) _
  cases hf : Fits b p s with
  | true =>
    by_cases hb : (len : Int) = b
    · exact absurd (by simp [newE, hf, hb]) hE
    · have hE : newE b p s len = 41 := by simp [newE, hf, hb]
      have e1 : ((len : Int) == b) = false := by simpa using hb
      rw [hE]
      go_enter Try.func7, Try.ntmps7
      go_wp2_with (first
        | (go_at_call 31; refine (mayBe_any _ _ _ _).mono ?_; rintro e u1 ⟨rfl, bel1⟩; rw [hf]; obtain ⟨c0, c1, c2⟩ := box3 bel1))
      go_ret2
      exact ⟨rfl, below_trans hb0 bel1⟩
  | false =>
    have hE : newE b p s len = 40 := by simp [newE, hf]
    rw [hE]
    go_enter Try.func7, Try.ntmps7
    go_wp2_with (first
      | (go_at_call 31; refine (mayBe_any _ _ _ _).mono ?_; rintro e u1 ⟨rfl, bel1⟩; rw [hf]))
    go_ret2
    exact ⟨rfl, below_trans hb0 bel1⟩
end Go.Proofs.Ytjhphkfpcpfdnaa.J
namespace Go.Proofs.Ytjhphkfpcpfdnaa.J
open Go.RowKit
set_option linter.unusedVariables false

/-- A judge lies in block gj, its map in block bm. -/
structure JudgeAt (w : World) (gj : Nat) (b p s : Int) (bm : Nat) (st : List Blk) : Prop where
  c0 : w.cell? ⟨gj, 0, none⟩ = some (.int .i64 b)
  c1 : w.cell? ⟨gj, 1, none⟩ = some (.int .i64 p)
  c2 : w.cell? ⟨gj, 2, none⟩ = some (.int .i64 s)
  c3 : w.cell? ⟨gj, 3, none⟩ = some (.map (some bm))
  knows : Knows w bm st
  ne : gj ≠ bm

def firstN (clean : Bool) (p : Int) : Int := if clean then 0 else p
def start (clean : Bool) (p : Int) (bs : List Bool) : List Blk := bs.map fun m => ⟨m, firstN clean p, 0⟩

theorem start_take (clean : Bool) (p : Int) (bs : List Bool) (k : Nat) (h : k < bs.length) : (start clean p bs).take k ++ [⟨bs.getD k false, firstN clean p, 0⟩] = (start clean p bs).take (k + 1) := by
  have hl : k < (start clean p bs).length := by simpa [start] using h
  rw [List.take_succ_eq_append_getElem hl]
  simp [start, List.getD_eq_getElem?_getD, List.getElem?_eq_getElem h]

theorem makeMap_len (n : Nat) (u : World) (hn : n ≤ 100000) : (Instr.makeMap 85 (some (.int .i64 (n : Int)))).run Try.prog u = .ok (.map (some u.heap.size)) (u.alloc (.map #[] 0)) := by
  simp [Instr.makeMap, asInt, asIntOf, Result.andThen]

set_option maxHeartbeats 1000000 in
theorem new_ok (b p s : Int) (a : Option Addr) (len cap : Nat) (bs : List Bool) (clean : Bool) (w : World) (hE : newE b p s len = 0) (h : ReadsB w a len bs) :
    Calls Try.prog 7 #[.agg #[.int .i64 b, .int .i64 p, .int .i64 s], .slice a len cap, .bool clean] w fun e w' => ∃ gj bm, e = .returned (.tuple #[.pointer (some ⟨gj, 0, none⟩), .int .i64 0]) ∧ JudgeAt w' gj b p s bm (start clean p bs) ∧ Below w.heap.size w w' ∧ w.heap.size ≤ gj ∧ w.heap.size ≤ bm := by
  have hb0 : Below w.heap.size w (w.alloc (.cells #[.int .i64 b, .int .i64 p, .int .i64 s] 23)) := (Below.refl _ _).alloc (Nat.le_refl _) _
  have hlen := h.1
  have hf : Fits b p s = true := by
    cases hf : Fits b p s with
    | true => rfl
    | false => simp [newE, hf] at hE
  have hb : (len : Int) = b := by
    by_cases hb : (len : Int) = b
    · exact hb
    · simp [newE, hf, hb] at hE
  have hbd := fits_b hf
  obtain ⟨q, hq⟩ : ∃ q, firstN clean p = q := ⟨_, rfl⟩
  have hst : (start clean p bs).length = len := by simp [start, hlen]
  subst hb
  have hmm : ∀ u : World, (Instr.makeMap 85 (some (.int .i64 (len : Int)))).run Try.prog u = .ok (.map (some u.heap.size)) (u.alloc (.map #[] 0)) := fun u => makeMap_len len u (by omega)
  obtain ⟨Q, hQ⟩ : ∃ Q, start clean p bs = Q := ⟨_, rfl⟩
  have hQs : Hid (∀ k, k < len → Q.take k ++ [⟨bs.getD k false, q, 0⟩] = Q.take (k + 1)) := fun k hk => by rw [← hQ, ← hq]; exact start_take clean p bs k (by omega)
  rw [hQ] at hst ⊢
  have hqc : clean = true ∧ q = 0 ∨ clean = false ∧ q = p := by
    rw [← hq]; cases clean <;> simp [firstN]
  clear hq hQ
  rcases hqc with ⟨rfl, rfl⟩ | ⟨rfl, rfl⟩
  all_goals
    go_enter Try.func7, Try.ntmps7
    go_wp2_with (first
      | (go_at_call 31; refine (mayBe_any _ _ _ _).mono ?_; rintro e u1 ⟨rfl, bel1⟩; rw [hf]; obtain ⟨c0, c1, c2⟩ := box3 bel1; have belw := below_trans hb0 bel1; have hrd := h.below belw))
    have hsz : w.heap.size < u1.heap.size := by have := bel1.size; simp at this; omega
    have hk0 := knows_made u1
    go_loopw [28] (fun i wr => ∃ k : Nat, k ≤ len ∧ i = .int .i64 k ∧ Knows wr u1.heap.size (Q.take k) ∧ Below u1.heap.size u1 wr)
      (fun i _ => len - (intOf i).toNat)
    case atStart => exact ⟨0, Nat.zero_le _, rfl, by simpa using hk0, (Below.refl u1.heap.size u1).alloc (Nat.le_refl _) _⟩
    case round =>
      obtain ⟨k, hk, rfl, hkn, hbel⟩ := hrel
      by_cases hlt : k < len
      · obtain ⟨g, off, rfl, hg, hcell⟩ := hrd.pos (by omega)
        obtain ⟨m, hm⟩ : ∃ m, m = bs.getD k false := ⟨_, rfl⟩
        have hcx : ‹World›.cell? ⟨g, off + k, none⟩ = some (.bool m) := by rw [hm]; exact (hbel.cell hg).trans (hcell k hlt)
        have hs2 := hQs.out k hlt
        rw [← hm] at hs2
        obtain ⟨w2, hrun, hk2, hg2⟩ := hkn.add (by rw [List.length_take]; omega) ⟨m, _, 0⟩
        rw [hs2] at hk2
        rw [show (Q.take k).length = k by rw [List.length_take]; omega] at hrun
        simp only [Blk.val] at hrun
        have hbel2 := hbel.grown hg2 hbel.size (fun j hj => by cases hj; exact Nat.le_refl _)
        have HK : Hid (Knows _ _ _) := hk2
        have HB : Hid (Below _ _ _) := hbel2
        clear hk2 hbel2 hg2 hkn hs2 hcell hm hk0 hrd h
        go_wp2
        go_roundw
        case rel => exact ⟨k + 1, by omega, by go_num, HK.out, HB.out⟩
        case measure => simp [intOf]; omega
      · have hkl : k = len := by omega
        subst hkl
        rw [List.take_of_length_le (by omega)] at hkn
        have d0 := (hbel.cell (p := ⟨w.heap.size, 0, none⟩) hsz).trans c0
        have d1 := (hbel.cell (p := ⟨w.heap.size, 1, none⟩) hsz).trans c1
        have d2 := (hbel.cell (p := ⟨w.heap.size, 2, none⟩) hsz).trans c2
        have hs3 := hbel.size
        have hkl := hkn.lt
        go_wp2
        go_ret2
        have bF := below_trans belw hbel
        refine ⟨_, u1.heap.size, rfl, ⟨by simp, by simp, by simp, by simp, hkn.grown (World.grownBy_alloc _ _ none) (by simp), ?_⟩, bF.alloc (by omega) _, ?_, ?_⟩ <;> omega
end Go.Proofs.Ytjhphkfpcpfdnaa.J
namespace Go.Proofs.Ytjhphkfpcpfdnaa.J
open Go.RowKit
set_option linter.unusedVariables false

/-- What a judge knows behind a command that keeps the rules. -/
def see (P : Int) (st : List Blk) (c : Cmd) : Option (List Blk) :=
  if 0 ≤ c.b ∧ c.b < st.length ∧ taken c.s = true ∧ kpt P (st.getD c.b.toNat Blk.zero) c = true then some (st.set c.b.toNat (bhd P (st.getD c.b.toNat Blk.zero) c)) else none

theorem gb_alloc {w x : World} (h : w.grownBy x none) (o : Obj) : w.grownBy (x.alloc o) none := grownBy_trans h (World.grownBy_alloc _ _ _)
theorem gb_drew {w x : World} (h : w.grownBy x none) : w.grownBy x.drew none := grownBy_trans h (drew_grown _ _)
theorem gb_set {w x : World} (h : w.grownBy x none) (a : Addr) (v : Value) (ha : w.heap.size ≤ a.block) : w.grownBy (x.setCell a v) none :=
  ⟨h.os, h.tape, h.output, Nat.le_trans h.size (by simp), fun k hk hr => by rw [Below.heap_setCell _ _ _ _ (by omega)]; exact h.block k hk hr⟩

theorem JudgeAt.grown {w w' : World} {gj bm : Nat} {b p s : Int} {st : List Blk} (h : JudgeAt w gj b p s bm st) (hg : w.grownBy w' none) : JudgeAt w' gj b p s bm st :=
  ⟨hg.cell h.c0 (by simp), hg.cell h.c1 (by simp), hg.cell h.c2 (by simp), hg.cell h.c3 (by simp), h.knows.grown hg (by simp), h.ne⟩

set_option maxHeartbeats 1000000 in
theorem see_miss (gj bm : Nat) (b p s : Int) (st : List Blk) (c : Cmd) (w : World) (h : JudgeAt w gj b p s bm st) (hc : c.Ok) (hm : ¬ (0 ≤ c.b ∧ c.b < st.length)) :
    Calls Try.prog 15 #[.pointer (some ⟨gj, 0, none⟩), .agg #[.int .i64 c.k, .int .i64 c.b, .int .i64 c.p, .int .i64 c.s]] w fun e w' => e = .returned (.bool false) ∧ w.grownBy w' none := by
  obtain ⟨k, cb, cp, cs⟩ := c
  have hL : ∀ u, w.grownBy u none → (Instr.lookup 85 (.map (some bm)) (.int .i64 cb) true).run Try.prog u = .ok (.tuple #[.agg #[.bool false, .int .i64 0, .int .i64 0], .bool false]) u := fun u hu => (h.knows.grown hu (by simp)).miss cb hc.b hm
  have hc3 : ∀ u, w.grownBy u none → u.cell? ⟨gj, 3, none⟩ = some (.map (some bm)) := fun u hu => hu.cell h.c3 (by simp)
  have hlt : gj < w.heap.size := block_lt_of_cell h.c3
  have hg1 : ∀ o, w.grownBy (w.alloc o) none := fun o => World.grownBy_alloc _ _ _
  go_enter Try.func15, Try.ntmps15
  go_wp2
  go_region_held3 (fun w' => w'.cell? ⟨w.heap.size, 1, none⟩ = some (.int .i64 cb) ∧ w.grownBy w' none ∧ w'.cell? ⟨gj, 3, none⟩ = some (.map (some bm)) ∧ (Instr.lookup 85 (.map (some bm)) (.int .i64 cb) true).run Try.prog w' = .ok (.tuple #[.agg #[.bool false, .int .i64 0, .int .i64 0], .bool false]) w')
    ((refine ⟨by simp [*], ?_⟩; refine (fun hg => ⟨hg, hc3 _ hg, hL _ hg⟩) ?_; go_split_ands; repeat' first | exact hg1 _ | assumption | apply gb_drew | apply gb_alloc | (apply gb_set; rotate_left; (simp; done))))
    (fail)
  all_goals go_wp2
  all_goals go_ret
  all_goals exact ⟨rfl, gb_drew (gb_alloc (hg1 _) _)⟩

theorem see_cells {w : World} {k cb cp cs : Int} {m : Bool} {n e : Int} {u : World} (h : (((w.alloc (.cells #[.int .i64 k, .int .i64 cb, .int .i64 cp, .int .i64 cs] 54)).alloc (.cells #[.bool m, .int .i64 n, .int .i64 e] 87)).drew).grownBy u none) :
    u.cell? ⟨w.heap.size, 0, none⟩ = some (.int .i64 k) ∧ u.cell? ⟨w.heap.size, 1, none⟩ = some (.int .i64 cb) ∧ u.cell? ⟨w.heap.size, 2, none⟩ = some (.int .i64 cp) ∧ u.cell? ⟨w.heap.size, 3, none⟩ = some (.int .i64 cs) ∧
    u.cell? ⟨w.heap.size + 1, 0, none⟩ = some (.bool m) ∧ u.cell? ⟨w.heap.size + 1, 1, none⟩ = some (.int .i64 n) ∧ u.cell? ⟨w.heap.size + 1, 2, none⟩ = some (.int .i64 e) := by
  refine ⟨?_, ?_, ?_, ?_, ?_, ?_, ?_⟩ <;> exact h.cell (by simp) (by simp)

set_option maxHeartbeats 2000000 in
theorem see_hit (gj bm : Nat) (b p s : Int) (st : List Blk) (c : Cmd) (w : World) (h : JudgeAt w gj b p s bm st) (hc : c.Ok) (hp : 4 ≤ p ∧ p ≤ 256) (hl : st.length < 100000) (h0 : 0 ≤ c.b) (h1 : c.b < st.length) (B : Blk) (hB : st.getD c.b.toNat Blk.zero = B) :
    Calls Try.prog 15 #[.pointer (some ⟨gj, 0, none⟩), .agg #[.int .i64 c.k, .int .i64 c.b, .int .i64 c.p, .int .i64 c.s]] w fun e w' => if taken c.s = true ∧ kpt p B c = true then e = .returned (.bool true) ∧ JudgeAt w' gj b p s bm (st.set c.b.toNat (bhd p B c)) ∧ w.grownBy w' (some bm) else e = .returned (.bool false) ∧ w.grownBy w' none := by
  obtain ⟨k, cb, cp, cs⟩ := c
  obtain ⟨m, n, er⟩ := B
  have hL : ∀ u, w.grownBy u none → (Instr.lookup 85 (.map (some bm)) (.int .i64 cb) true).run Try.prog u = .ok (.tuple #[.agg #[.bool m, .int .i64 n, .int .i64 er], .bool true]) u := fun u hu => by
    have := (h.knows.grown hu (by simp)).look cb hc.b h0 h1
    rw [hB] at this
    exact this
  have hc3 : ∀ u, w.grownBy u none → u.cell? ⟨gj, 3, none⟩ = some (.map (some bm)) := fun u hu => hu.cell h.c3 (by simp)
  have hlt : gj < w.heap.size := block_lt_of_cell h.c3
  have hg1 : ∀ o, w.grownBy (w.alloc o) none := fun o => World.grownBy_alloc _ _ _
  cases ht : taken cs with
  | false =>
    simp only [Bool.false_eq_true, false_and, if_false]
    go_enter Try.func15, Try.ntmps15
    go_wp2
    go_region_held3 (fun w' => w'.cell? ⟨w.heap.size, 1, none⟩ = some (.int .i64 cb) ∧ w.grownBy w' none ∧ w'.cell? ⟨gj, 3, none⟩ = some (.map (some bm)) ∧ (Instr.lookup 85 (.map (some bm)) (.int .i64 cb) true).run Try.prog w' = .ok (.tuple #[.agg #[.bool m, .int .i64 n, .int .i64 er], .bool true]) w')
      ((refine ⟨by simp [*], ?_⟩; refine (fun hg => ⟨hg, hc3 _ hg, hL _ hg⟩) ?_; go_split_ands; repeat' first | exact hg1 _ | assumption | apply gb_drew | apply gb_alloc | (apply gb_set; rotate_left; (simp; done))))
      (fail)
    all_goals go_wp2_with (first | (go_at_call 39; refine (taken_any _ _).mono ?_; rintro e u ⟨rfl, rfl⟩; rw [ht]))
    all_goals go_ret
    all_goals exact ⟨rfl, gb_drew (gb_alloc (hg1 _) _)⟩
  | true =>
    cases hk : kpt p ⟨m, n, er⟩ ⟨k, cb, cp, cs⟩ with
    | false =>
      simp only [Bool.false_eq_true, and_false, if_false]
      go_enter Try.func15, Try.ntmps15
      go_wp2
      go_region_held3 (fun w' => w'.cell? ⟨w.heap.size, 1, none⟩ = some (.int .i64 cb) ∧ w.grownBy w' none ∧ w'.cell? ⟨gj, 3, none⟩ = some (.map (some bm)) ∧ (Instr.lookup 85 (.map (some bm)) (.int .i64 cb) true).run Try.prog w' = .ok (.tuple #[.agg #[.bool m, .int .i64 n, .int .i64 er], .bool true]) w')
        ((refine ⟨by simp [*], ?_⟩; refine (fun hg => ⟨hg, hc3 _ hg, hL _ hg⟩) ?_; go_split_ands; repeat' first | exact hg1 _ | assumption | apply gb_drew | apply gb_alloc | (apply gb_set; rotate_left; (simp; done))))
        (fail)
      all_goals go_wp2_with (first
        | (go_at_call 39; refine (taken_any _ _).mono ?_; rintro e u ⟨rfl, rfl⟩; rw [ht])
        | (go_at_call 40; refine (keeps_any _ p ⟨m, n, er⟩ ⟨k, cb, cp, cs⟩ _ ?_).mono ?_; exact (gb_drew (gb_alloc (hg1 _) _)).cell h.c1 (by simp); rintro e u1 ⟨rfl, bel1⟩; rw [hk]))
      all_goals go_ret
      all_goals exact ⟨rfl, grownBy_trans (gb_drew (gb_alloc (hg1 _) _)) (grown_of bel1 none)⟩
    | true =>
      simp only [and_self, if_true]
      have hcp : -9223372036854775808 ≤ cp + 1 ∧ (k = 1 → cp + 1 ≤ 9223372036854775807) := by
        have := hc.p
        simp only [Wf] at this
        refine ⟨by omega, fun hk1 => ?_⟩
        simp only [kpt, hk1, if_true, Bool.and_eq_true, decide_eq_true_eq] at hk
        omega
      go_enter Try.func15, Try.ntmps15
      go_wp2
      go_region_held3 (fun w' => w'.cell? ⟨w.heap.size, 1, none⟩ = some (.int .i64 cb) ∧ w.grownBy w' none ∧ w'.cell? ⟨gj, 3, none⟩ = some (.map (some bm)) ∧ (Instr.lookup 85 (.map (some bm)) (.int .i64 cb) true).run Try.prog w' = .ok (.tuple #[.agg #[.bool m, .int .i64 n, .int .i64 er], .bool true]) w')
        ((refine ⟨by simp [*], ?_⟩; refine (fun hg => ⟨hg, hc3 _ hg, hL _ hg⟩) ?_; go_split_ands; repeat' first | exact hg1 _ | assumption | apply gb_drew | apply gb_alloc | (apply gb_set; rotate_left; (simp; done))))
        (fail)
      all_goals go_wp2_with (first
        | (go_at_call 39; refine (taken_any _ _).mono ?_; rintro e u ⟨rfl, rfl⟩; rw [ht])
        | (go_at_call 40; refine (keeps_any _ p ⟨m, n, er⟩ ⟨k, cb, cp, cs⟩ _ ?_).mono ?_; exact (gb_drew (gb_alloc (hg1 _) _)).cell h.c1 (by simp); rintro e u1 ⟨rfl, bel1⟩; rw [hk]; obtain ⟨x0, x1, x2, x3, y0, y1, y2⟩ := see_cells (grown_of bel1 none); have gu1 := grownBy_trans (gb_drew (gb_alloc (hg1 _) _)) (grown_of bel1 none)))
      all_goals
        have hbm := h.knows.lt
        have hne := h.ne
        have c1u := gu1.cell h.c1 (by simp)
        have c3u := gu1.cell h.c3 (by simp)
        have hS : ∀ x, u1.grownBy x (some bm) → x.cell? ⟨gj, 3, none⟩ = some (.map (some bm)) ∧ x.cell? ⟨w.heap.size, 0, none⟩ = some (.int .i64 k) ∧ x.cell? ⟨w.heap.size, 1, none⟩ = some (.int .i64 cb) ∧ x.cell? ⟨w.heap.size, 2, none⟩ = some (.int .i64 cp) ∧ x.cell? ⟨w.heap.size, 3, none⟩ = some (.int .i64 cs) ∧
            x.cell? ⟨w.heap.size + 1, 0, none⟩ = some (.bool m) ∧ x.cell? ⟨w.heap.size + 1, 1, none⟩ = some (.int .i64 n) ∧ x.cell? ⟨w.heap.size + 1, 2, none⟩ = some (.int .i64 er) := fun x hx =>
          ⟨hx.cell c3u (by simp; omega), hx.cell x0 (by simp; omega), hx.cell x1 (by simp; omega), hx.cell x2 (by simp; omega), hx.cell x3 (by simp; omega), hx.cell y0 (by simp; omega), hx.cell y1 (by simp; omega), hx.cell y2 (by simp; omega)⟩
        have ku1 := h.knows.grown gu1 (by simp)
        obtain ⟨V, hV⟩ : ∃ V, (bhd p ⟨m, n, er⟩ ⟨k, cb, cp, cs⟩).val = V := ⟨_, rfl⟩
        have c1d : u1.drew.cell? ⟨gj, 1, none⟩ = some (.int .i64 p) := c1u
        go_region_held3 (fun x => u1.grownBy x (some bm) ∧ x.cell? ⟨gj, 3, none⟩ = some (.map (some bm)) ∧ x.cell? ⟨w.heap.size, 0, none⟩ = some (.int .i64 k) ∧ x.cell? ⟨w.heap.size, 1, none⟩ = some (.int .i64 cb) ∧ x.cell? ⟨w.heap.size, 2, none⟩ = some (.int .i64 cp) ∧ x.cell? ⟨w.heap.size, 3, none⟩ = some (.int .i64 cs) ∧
            x.cell? ⟨w.heap.size + 1, 0, none⟩ = some (.bool m) ∧ x.cell? ⟨w.heap.size + 1, 1, none⟩ = some (.int .i64 n) ∧ x.cell? ⟨w.heap.size + 1, 2, none⟩ = some (.int .i64 er))
          ((refine (fun hx => ⟨hx, hS _ hx⟩) ?_; first | exact drew_grown _ _ | exact g3 | exact g2))
          (first | (go_at_call 41; refine (behind_any gj p ⟨m, n, er⟩ ⟨k, cb, cp, cs⟩ _ c1d hcp.1 hcp.2).mono ?_; rintro e u2 ⟨rfl, bel2⟩; have g2 := grownBy_trans (drew_grown u1 (some bm)) (grown_of bel2 (some bm)); obtain ⟨u3, hrun, hk3, hg3⟩ := Knows.store (ku1.grown (grownBy_trans (drew_grown u1 none) (grown_of bel2 none)) (by simp)) cb hc.b h0 h1 (bhd p ⟨m, n, er⟩ ⟨k, cb, cp, cs⟩) hl; rw [hV] at hrun ⊢; have g3 := grownBy_trans g2 hg3))
        all_goals go_wp2
        all_goals go_ret
        all_goals
          have g4 := grownBy_trans (⟨gu1.os, gu1.tape, gu1.output, gu1.size, fun k hk _ => gu1.block k hk (by simp)⟩ : w.grownBy u1 (some bm)) g3
          exact ⟨rfl, ⟨g4.cell h.c0 (by simp; omega), g4.cell h.c1 (by simp; omega), g4.cell h.c2 (by simp; omega), g4.cell h.c3 (by simp; omega), hk3, hne⟩, g4⟩

theorem see_any (gj bm : Nat) (b p s : Int) (st : List Blk) (c : Cmd) (w : World) (h : JudgeAt w gj b p s bm st) (hc : c.Ok) (hp : 4 ≤ p ∧ p ≤ 256) (hl : st.length < 100000) :
    Calls Try.prog 15 #[.pointer (some ⟨gj, 0, none⟩), .agg #[.int .i64 c.k, .int .i64 c.b, .int .i64 c.p, .int .i64 c.s]] w fun e w' => e = .returned (.bool (see p st c).isSome) ∧ JudgeAt w' gj b p s bm ((see p st c).getD st) ∧ w.grownBy w' (some bm) := by
  have some_of : ∀ {u : World}, w.grownBy u none → w.grownBy u (some bm) := fun g => ⟨g.os, g.tape, g.output, g.size, fun k hk _ => g.block k hk (by simp)⟩
  by_cases hm : 0 ≤ c.b ∧ c.b < st.length
  · refine (see_hit gj bm b p s st c w h hc hp hl hm.1 hm.2 _ rfl).mono fun e w' hr => ?_
    by_cases hk : taken c.s = true ∧ kpt p (st.getD c.b.toNat Blk.zero) c = true
    · rw [if_pos hk] at hr
      have e1 : see p st c = some (st.set c.b.toNat (bhd p (st.getD c.b.toNat Blk.zero) c)) := if_pos ⟨hm.1, hm.2, hk.1, hk.2⟩
      rw [e1]
      exact hr
    · rw [if_neg hk] at hr
      have e1 : see p st c = none := if_neg fun hh => hk ⟨hh.2.2.1, hh.2.2.2⟩
      rw [e1]
      exact ⟨hr.1, h.grown hr.2, some_of hr.2⟩
  · refine (see_miss gj bm b p s st c w h hc hm).mono fun e w' hr => ?_
    have e1 : see p st c = none := if_neg fun hh => hm ⟨hh.1, hh.2.1⟩
    rw [e1]
    exact ⟨hr.1, h.grown hr.2, some_of hr.2⟩
end Go.Proofs.Ytjhphkfpcpfdnaa.J
namespace Go.Proofs.Ytjhphkfpcpfdnaa.J
set_option linter.unusedVariables false

def runs (P : Int) : List Blk → List Cmd → Option (List Blk)
  | st, [] => some st
  | st, c :: r => (see P st c).bind fun st' => runs P st' r

/-- The place of the first command that does not keep the rules. -/
def chk (P : Int) : List Blk → List Cmd → Option Nat
  | _, [] => none
  | st, c :: r => match see P st c with
    | none => some 0
    | some st' => (chk P st' r).map (· + 1)

def chkI (o : Option Nat) : Int := match o with
  | none => -1
  | some k => k

theorem see_length {P : Int} {st st' : List Blk} {c : Cmd} (h : see P st c = some st') : st'.length = st.length := by
  unfold see at h
  split at h
  · cases h; simp
  · cases h

theorem runs_append (P : Int) (st : List Blk) (xs ys : List Cmd) : runs P st (xs ++ ys) = (runs P st xs).bind fun st' => runs P st' ys := by
  induction xs generalizing st with
  | nil => rfl
  | cons c r ih =>
    simp only [List.cons_append, runs]
    cases see P st c with
    | none => rfl
    | some st' => simp [ih]

theorem runs_length {P : Int} {st st' : List Blk} {cs : List Cmd} (h : runs P st cs = some st') : st'.length = st.length := by
  induction cs generalizing st with
  | nil => simp [runs] at h; rw [h]
  | cons c r ih =>
    simp only [runs] at h
    cases hs : see P st c with
    | none => rw [hs] at h; simp at h
    | some st1 =>
      rw [hs] at h
      rw [ih h, see_length hs]

theorem runs_step {P : Int} {st st' st'' : List Blk} {cs : List Cmd} {k : Nat} {c : Cmd} (hk : cs[k]? = some c) (h : runs P st (cs.take k) = some st') (hs : see P st' c = some st'') : runs P st (cs.take (k + 1)) = some st'' := by
  obtain ⟨hlt, rfl⟩ := List.getElem?_eq_some_iff.1 hk
  rw [List.take_succ_eq_append_getElem hlt, runs_append, h]
  simp [runs, hs]

theorem chk_append (P : Int) (st : List Blk) (xs ys : List Cmd) : chk P st (xs ++ ys) = match runs P st xs with
    | none => chk P st xs
    | some st' => (chk P st' ys).map (· + xs.length) := by
  induction xs generalizing st with
  | nil => simp [runs]
  | cons c r ih =>
    simp only [List.cons_append, chk, runs]
    cases hs : see P st c with
    | none => rfl
    | some st' =>
      simp only [Option.bind_some, ih]
      cases hr : runs P st' r with
      | none => rfl
      | some st2 =>
        simp only [Option.map_map, List.length_cons]
        congr 1

theorem chk_runs {P : Int} {st : List Blk} {cs : List Cmd} : chk P st cs = none ↔ (runs P st cs).isSome := by
  induction cs generalizing st with
  | nil => simp [chk, runs]
  | cons c r ih =>
    simp only [chk, runs]
    cases hs : see P st c with
    | none => simp
    | some st' => simp [ih]

theorem chk_at {P : Int} {st st' : List Blk} {cs : List Cmd} {k : Nat} {c : Cmd} (hk : cs[k]? = some c) (h : runs P st (cs.take k) = some st') (hs : see P st' c = none) : chk P st cs = some k := by
  obtain ⟨hlt, rfl⟩ := List.getElem?_eq_some_iff.1 hk
  have e : cs = cs.take k ++ cs[k] :: cs.drop (k + 1) := by
    rw [← List.drop_eq_getElem_cons hlt, List.take_append_drop]
  rw [e, chk_append, h]
  simp [chk, hs]
  omega

theorem chk_lt {P : Int} {st : List Blk} {cs : List Cmd} {k : Nat} (h : chk P st cs = some k) : k < cs.length := by
  induction cs generalizing st k with
  | nil => simp [chk] at h
  | cons c r ih =>
    simp only [chk] at h
    cases hs : see P st c with
    | none => rw [hs] at h; simp at h; subst h; simp
    | some st' =>
      rw [hs] at h
      simp at h
      obtain ⟨j, hj, rfl⟩ := h
      have := ih hj
      simp; omega

theorem chk_split {P : Int} {st : List Blk} {cs : List Cmd} {k : Nat} (h : chk P st cs = some k) : (runs P st (cs.take k)).isSome := by
  induction cs generalizing st k with
  | nil => simp [chk] at h
  | cons c r ih =>
    simp only [chk] at h
    cases hs : see P st c with
    | none => rw [hs] at h; simp at h; subst h; simp [runs]
    | some st' =>
      rw [hs] at h
      simp at h
      obtain ⟨j, hj, rfl⟩ := h
      simp [runs, hs, ih hj]

theorem chkI_lt {o : Option Nat} {n : Nat} (h : ∀ k, o = some k → k < n) : -1 ≤ chkI o ∧ chkI o ≤ n := by
  cases o with
  | none => simp [chkI]
  | some k => have := h k rfl; simp [chkI]; omega
end Go.Proofs.Ytjhphkfpcpfdnaa.J
namespace Go.Proofs.Ytjhphkfpcpfdnaa.J
open Go.RowKit
set_option linter.unusedVariables false

def Cmd.cell (c : Cmd) : Nat → Value
  | 0 => .int .i64 c.k
  | 1 => .int .i64 c.b
  | 2 => .int .i64 c.p
  | _ => .int .i64 c.s
def Cmd.none : Cmd := ⟨0, 0, 0, 0⟩

def ReadsC (w : World) (a : Option Addr) (len : Nat) (cs : List Cmd) : Prop :=
  cs.length = len ∧ (∀ c ∈ cs, c.Ok) ∧ (a = none → len = 0) ∧ ∀ x, a = some x → ∀ i, i < len → ∀ j, j < 4 → w.cell? (x.add (i * 4 + j)) = some ((cs.getD i Cmd.none).cell j)

theorem ReadsC.pos {w : World} {a : Option Addr} {len : Nat} {cs : List Cmd} (h : ReadsC w a len cs) (hp : 0 < len) :
    ∃ b off, a = some ⟨b, off, none⟩ ∧ b < w.heap.size ∧ ∀ i, i < len → w.cell? ⟨b, off + i * 4, none⟩ = some (.int .i64 (cs.getD i Cmd.none).k) ∧ w.cell? ⟨b, off + i * 4 + 1, none⟩ = some (.int .i64 (cs.getD i Cmd.none).b) ∧ w.cell? ⟨b, off + i * 4 + 2, none⟩ = some (.int .i64 (cs.getD i Cmd.none).p) ∧ w.cell? ⟨b, off + i * 4 + 3, none⟩ = some (.int .i64 (cs.getD i Cmd.none).s) := by
  obtain ⟨hl, _, hn, hc⟩ := h
  cases a with
  | none => have := hn rfl; omega
  | some x =>
    obtain ⟨b, off, spot⟩ := x
    have h0 := hc _ rfl 0 hp 0 (by omega)
    have hspot : spot = none := by simpa [Addr.add] using World.cell?_spot h0
    subst hspot
    refine ⟨b, off, rfl, by simpa [Addr.add] using block_lt_of_cell h0, fun i hi => ?_⟩
    have k0 := hc _ rfl i hi 0 (by omega)
    have k1 := hc _ rfl i hi 1 (by omega)
    have k2 := hc _ rfl i hi 2 (by omega)
    have k3 := hc _ rfl i hi 3 (by omega)
    rw [plain_add] at k0 k1 k2 k3
    exact ⟨k0, k1, k2, k3⟩

theorem ReadsC.below {w w' : World} {a : Option Addr} {len : Nat} {cs : List Cmd} (h : ReadsC w a len cs) (hb : Below w.heap.size w w') : ReadsC w' a len cs := by
  obtain ⟨hl, ho, hn, hc⟩ := h
  refine ⟨hl, ho, hn, fun x hx i hi j hj => ?_⟩
  have h1 := hc x hx i hi j hj
  rw [hb.cell (block_lt_of_cell h1)]
  exact h1

theorem okAt {cs : List Cmd} (h : ∀ c ∈ cs, c.Ok) (i : Nat) (hi : i < cs.length) : (cs.getD i Cmd.none).Ok := by
  rw [List.getD_eq_getElem?_getD, List.getElem?_eq_getElem hi]
  exact h _ (List.getElem_mem hi)

theorem getC {cs : List Cmd} {i : Nat} (hi : i < cs.length) : cs[i]? = some (cs.getD i Cmd.none) := by
  rw [List.getD_eq_getElem?_getD, List.getElem?_eq_getElem hi]
  rfl

theorem start_length (clean : Bool) (p : Int) (bs : List Bool) : (start clean p bs).length = bs.length := by simp [start]

set_option maxHeartbeats 1000000 in
theorem check_bad (b p s : Int) (a a' : Option Addr) (len cap n cap' : Nat) (clean : Bool) (w : World) (hl : len ≤ 140737488355000) (hE : newE b p s len ≠ 0) :
    Calls Try.prog 45 #[.agg #[.int .i64 b, .int .i64 p, .int .i64 s], .slice a len cap, .bool clean, .slice a' n cap'] w fun e w' => e = .returned (.tuple #[.int .i64 0, .int .i64 (newE b p s len)]) ∧ Below w.heap.size w w' := by
  have hb0 : Below w.heap.size w (w.alloc (.cells #[.int .i64 b, .int .i64 p, .int .i64 s] 23)) := (Below.refl _ _).alloc (Nat.le_refl _) _
  obtain ⟨E, hEE⟩ : ∃ E, newE b p s len = E := ⟨_, rfl⟩
  have e1 : (E == 0) = false := by rw [← hEE]; simpa using hE
  go_enter Try.func45, Try.ntmps45
  go_wp2_with (first
    | (go_at_call 7; refine (new_bad b p s _ _ _ _ _ hl hE).mono ?_; rintro e u1 ⟨rfl, bel1⟩; rw [hEE]))
  go_ret2
  exact ⟨by rw [hEE]; rfl, below_trans hb0 bel1⟩

set_option maxHeartbeats 1000000 in
theorem check_ok (b p s : Int) (a a' : Option Addr) (len cap n cap' : Nat) (bs : List Bool) (cs : List Cmd) (clean : Bool) (w : World) (hE : newE b p s len = 0) (h : ReadsB w a len bs) (hc : ReadsC w a' n cs) (hn : n ≤ 140737488355000) :
    Calls Try.prog 45 #[.agg #[.int .i64 b, .int .i64 p, .int .i64 s], .slice a len cap, .bool clean, .slice a' n cap'] w fun e w' => e = .returned (.tuple #[.int .i64 (chkI (chk p (start clean p bs) cs)), .int .i64 0]) ∧ Below w.heap.size w w' := by
  have hb0 : Below w.heap.size w (w.alloc (.cells #[.int .i64 b, .int .i64 p, .int .i64 s] 23)) := (Below.refl _ _).alloc (Nat.le_refl _) _
  have hf : Fits b p s = true := by
    cases hf : Fits b p s with
    | true => rfl
    | false => simp [newE, hf] at hE
  have hbd := fits_b hf
  have hlb : (len : Int) = b := by
    by_cases hb : (len : Int) = b
    · exact hb
    · simp [newE, hf, hb] at hE
  have hp : 4 ≤ p ∧ p ≤ 256 := ⟨hbd.2.2.1, hbd.2.2.2⟩
  obtain ⟨st, hst⟩ : ∃ st, start clean p bs = st := ⟨_, rfl⟩
  have hsl : st.length = len := by rw [← hst, start_length]; exact h.1
  rw [hst]
  have hb1 := h.below hb0
  have hlen := hc.1
  obtain ⟨R, hR⟩ : ∃ R, chkI (chk p st cs) = R := ⟨_, rfl⟩
  rw [hR]
  have HR : Hid (chkI (chk p st cs) = R) := hR
  clear hR
  go_enter Try.func45, Try.ntmps45
  go_wp2_with (first
    | (go_at_call 7; refine (new_ok b p s _ _ _ bs _ _ hE hb1).mono ?_; rintro e u1 ⟨gj, bm, rfl, J1, bel1, lj, lb⟩; rw [hst] at J1; have belw := below_trans hb0 bel1; have hrd := hc.below belw))
  have lw0 : w.heap.size ≤ (w.alloc (.cells #[.int .i64 b, .int .i64 p, .int .i64 s] 23)).heap.size := by simp
  have lb2 : w.heap.size ≤ bm := by omega
  go_loopw [26] (fun i wr => ∃ (k : Nat) (st' : List Blk), k ≤ n ∧ i = .int .i64 k ∧ Hid (runs p st (cs.take k) = some st') ∧ JudgeAt wr gj b p s bm st' ∧ Below w.heap.size w wr ∧ st'.length = len)
    (fun i _ => n - (intOf i).toNat)
  case atStart => exact ⟨0, st, Nat.zero_le _, rfl, rfl, J1, belw, hsl⟩
  case round =>
    obtain ⟨k, st', hk, rfl, hrun, J, bel, hsl'⟩ := hrel
    by_cases hlt : k < n
    · have hrd := hc.below bel
      obtain ⟨g, off, rfl, hg, hcell⟩ := hrd.pos (by omega)
      obtain ⟨c, hcd⟩ : ∃ c, c = cs.getD k Cmd.none := ⟨_, rfl⟩
      obtain ⟨x0, x1, x2, x3⟩ := hcell k hlt
      rw [← hcd] at x0 x1 x2 x3
      have hok : c.Ok := by rw [hcd]; exact okAt hc.2.1 k (by omega)
      have hget : cs[k]? = some c := by rw [hcd]; exact getC (by omega)
      cases hs : see p st' c with
      | none =>
        have hres : R = k := by rw [← HR.out, chk_at hget hrun.out hs]; rfl
        have hsee := fun w1 (J1 : JudgeAt w1 gj b p s bm st') => see_any gj bm b p s st' c w1 J1 hok hp (by omega)
        rw [hs] at hsee
        clear hget hrun hs hcd hok hcell hrd h hc hb1 J1
        obtain ⟨ck, cb, cp, cs'⟩ := c
        go_wp2_with (first
          | (go_at_call 15; refine (hsee _ ?_).mono ?_; exact J.grown (World.grownBy_alloc _ _ _); rintro e u2 ⟨rfl, J2, g2⟩))
        go_ret2
        exact ⟨by rw [hres]; rfl, (bel.alloc bel.size _).grown g2 (by have := bel.size; simp; omega) (fun j hj => by cases hj; exact lb2)⟩
      | some st2 =>
        have hrun2 : Hid (runs p st (cs.take (k + 1)) = some st2) := runs_step hget hrun.out hs
        have hl2 := (see_length hs).trans hsl'
        have hsee := fun w1 (J1 : JudgeAt w1 gj b p s bm st') => see_any gj bm b p s st' c w1 J1 hok hp (by omega)
        rw [hs] at hsee
        clear hget hrun hs hcd hok hcell hrd J1
        obtain ⟨ck, cb, cp, cs'⟩ := c
        go_wp2_with (first
          | (go_at_call 15; refine (hsee _ ?_).mono ?_; exact J.grown (World.grownBy_alloc _ _ _); rintro e u2 ⟨rfl, J2, g2⟩))
        have belF := (bel.alloc bel.size (.cells #[.int .i64 ck, .int .i64 cb, .int .i64 cp, .int .i64 cs'] 54)).grown g2 (by have := bel.size; simp; omega) (fun j hj => by cases hj; exact lb2)
        go_roundw
        case rel => exact ⟨k + 1, st2, by omega, by go_num, hrun2, J2, belF, hl2⟩
        case measure => simp [intOf]; omega
    · have hkl : k = n := by omega
      subst hkl
      have hr := hrun.out
      rw [List.take_of_length_le (by omega)] at hr
      have hres : R = -1 := by rw [← HR.out, chk_runs.2 (by rw [hr]; rfl)]; rfl
      go_wp2
      go_ret2
      exact ⟨by rw [hres]; rfl, bel⟩
end Go.Proofs.Ytjhphkfpcpfdnaa.J
namespace Go.Proofs.Ytjhphkfpcpfdnaa.J
open Go.RowKit
set_option linter.unusedVariables false

/-- What a slice of elements of some cells reads as, cell by cell; it may be nil. -/
def RV (w : World) (a : Option Addr) (len size : Nat) (xs : List Value) : Prop :=
  xs.length = len * size ∧ (a = none → len = 0) ∧ ∀ x, a = some x → ∀ j u, xs[j]? = some u → w.cell? (x.add j) = some u

theorem wpList_append_src {w : World} {ops : Array Oper} {rest : List Oper} {o : Oper} {a : Act} {Q : Exit → Act → World → Prop} (hgd : o.guard = none) (s x : Operand) (T : TypeId)
    (ho : o.op = .call { callee := .builtin .append, args := #[s, x], argTypes := #[T, T] })
    (base : Nat) (E : TypeId) (i : TypeInfo) (z : Value) (size bytes : Nat) (ht : Try.prog.underlying T = some (.slice E)) (hi : Try.prog.info? E = some i) (hz : i.zero = some z)
    (hsize : i.size = size) (hby : i.bytes = bytes) (hzs : z.cells.size = size) (hsz : 0 < size)
    (v : Value) (n : Nat) (xs : List Value) (hs : a.eval s = v) (hown : w.ownsRow base E size v n xs)
    (ad : Option Addr) (m c : Nat) (news : List Value) (hx : a.eval x = .slice ad m c) (hrd : RV w ad m size news) (h1 : ∀ u ∈ news, u.oneCell' = true)
    (h63 : n + m ≤ maxLen) (hbytes : (n + m) * bytes ≤ 140737488355328) (hbase : base ≤ w.heap.size)
    (h : ∀ v' w', w'.ownsRow base E size v' (n + m) (xs ++ news) → w.grownBy w' v.ownBlock → wpList Try.prog ops Q rest (a.put o.dst v') w') : wpList Try.prog ops Q (o :: rest) a w := by
  cases ad with
  | some ad =>
    refine wpList_append_own w hgd s x T ho base E i z size bytes ht hi hz hsize hby hzs hsz v n _ hs hown ad m c news hx hrd.1 (hrd.2.2 ad rfl) h1 h63 hbytes hbase ?_
    intro v' w' h1 h2 _
    exact h v' w' h1 h2
  | none =>
    have h0 := hrd.2.1 rfl
    subst h0
    have hz0 : news = [] := List.eq_nil_of_length_eq_zero (by have := hrd.1; omega)
    subst hz0
    have hrun : (Builtin.append_ #[T, T] o.type #[v, .slice none 0 c]).run Try.prog w = .ok v w := by
      rcases hown.2 with ⟨rfl, rfl⟩ | ⟨g, cap, cur, rfl, _, _, hnc, _⟩
      · simp [Builtin.append_, run_underlying ht, sizeOf, typeInfo, hi, Builtin.lenOf, Builtin.firstCells]
      · simp [Builtin.append_, run_underlying ht, sizeOf, typeInfo, hi, Builtin.lenOf, Builtin.firstCells, hnc, storeCells]
    refine wpList_plain hgd fun K hK => ?_
    unfold Oper.wp
    simp [execOp, ho, resolve, invoke, builtin, hs, hx, hrun, Result.andThen]
    exact hK _ _ (h v w (by simpa using hown) (World.grownBy.refl _ _))

theorem ReadsB.rv {w : World} {a : Option Addr} {len : Nat} {bs : List Bool} (h : ReadsB w a len bs) : RV w a len 1 (bs.map Value.bool) := by
  obtain ⟨hl, hn, hc⟩ := h
  refine ⟨by simp [hl], hn, fun x hx j u hj => ?_⟩
  rw [List.getElem?_map] at hj
  cases hb : bs[j]? with
  | none => rw [hb] at hj; simp at hj
  | some q =>
    rw [hb] at hj
    simp at hj
    obtain ⟨hlt, _⟩ := List.getElem?_eq_some_iff.1 hb
    rw [hc x hx j (by omega), ← hj]
    simp [List.getD_eq_getElem?_getD, hb]

/-- The cells of commands. -/
def Cmd.cells (c : Cmd) : List Value := [.int .i64 c.k, .int .i64 c.b, .int .i64 c.p, .int .i64 c.s]
def flat (cs : List Cmd) : List Value := cs.flatMap Cmd.cells
theorem flat_append (xs ys : List Cmd) : flat (xs ++ ys) = flat xs ++ flat ys := by simp [flat]
theorem flat_length (cs : List Cmd) : (flat cs).length = cs.length * 4 := by
  induction cs with
  | nil => rfl
  | cons c r ih => simp only [flat, List.flatMap_cons, List.length_append, Cmd.cells, List.length_cons, List.length_nil] at *; omega
theorem flat_cell (cs : List Cmd) (i j : Nat) (hi : i < cs.length) (hj : j < 4) : (flat cs)[i * 4 + j]? = some ((cs.getD i Cmd.none).cell j) := by
  induction cs generalizing i with
  | nil => simp at hi
  | cons c r ih =>
    have e : flat (c :: r) = c.cells ++ flat r := rfl
    rw [e]
    cases i with
    | zero =>
      rw [List.getElem?_append_left (by simp [Cmd.cells]; omega)]
      match j, hj with
      | 0, _ => rfl
      | 1, _ => rfl
      | 2, _ => rfl
      | 3, _ => rfl
    | succ i =>
      rw [List.getElem?_append_right (by simp [Cmd.cells]; omega)]
      have := ih i (by simpa using hi)
      rw [show (i + 1) * 4 + j - c.cells.length = i * 4 + j by simp [Cmd.cells]; omega, this]
      rfl
theorem flat_one (cs : List Cmd) : ∀ u ∈ flat cs, u.oneCell' = true := by
  intro u hu
  simp only [flat, List.mem_flatMap, Cmd.cells] at hu
  obtain ⟨c, _, hc⟩ := hu
  simp at hc
  rcases hc with rfl | rfl | rfl | rfl <;> rfl

theorem ReadsC.rv {w : World} {a : Option Addr} {len : Nat} {cs : List Cmd} (h : ReadsC w a len cs) : RV w a len 4 (flat cs) := by
  obtain ⟨hl, ho, hn, hc⟩ := h
  refine ⟨by rw [flat_length, hl], hn, fun x hx j u hj => ?_⟩
  have hlt : j < cs.length * 4 := by rw [← flat_length]; exact (List.getElem?_eq_some_iff.1 hj).1
  have h1 := hc x hx (j / 4) (by omega) (j % 4) (by omega)
  have h2 := flat_cell cs (j / 4) (j % 4) (by omega) (by omega)
  rw [show j / 4 * 4 + j % 4 = j by omega] at h1 h2
  rw [h1, ← h2, hj]

theorem bools_one (bs : List Bool) : ∀ u ∈ bs.map Value.bool, u.oneCell' = true := by
  intro u hu
  obtain ⟨b, _, rfl⟩ := List.mem_map.1 hu
  rfl

theorem info4 : (Try.prog.info? 4).map (fun i => (i.zero, i.size, i.bytes)) = some (some (.bool false), 1, 1) := by kernel_rfl
theorem info54 : (Try.prog.info? 54).map (fun i => (i.zero, i.size, i.bytes)) = some (some (.agg #[.int .i64 0, .int .i64 0, .int .i64 0, .int .i64 0]), 4, 32) := by kernel_rfl

theorem own_shape {w : World} {B n E S : Nat} {v : Value} {xs : List Value} (h : w.ownsRow B E S v n xs) (hn : 0 < n) : ∃ g cap, v = .slice (some ⟨g, 0, none⟩) n cap ∧ n ≤ cap ∧ cap ≤ maxLen ∧ B ≤ g ∧ g < w.heap.size := by
  rcases h.2 with ⟨_, h0⟩ | ⟨g, cap, cur, hv, hb, hg, hnc, hcm, _⟩
  · omega
  · refine ⟨g, cap, hv, hnc, hcm, hb, ?_⟩
    rcases Nat.lt_or_ge g w.heap.size with h | h
    · exact h
    · simp [Array.getElem?_eq_none h] at hg

theorem rv_block {w : World} {cs : Array Value} {t : TypeId} {m size : Nat} (hl : cs.size = m * size) : RV (w.alloc (.cells cs t)) (some ⟨w.heap.size, 0, none⟩) m size cs.toList := by
  refine ⟨by simpa using hl, (fun h => by cases h), fun x hx j u hj => ?_⟩
  cases hx
  exact World.news_of_block (heap_alloc_new w _) j u hj

theorem RV.grown {w w' : World} {a : Option Addr} {len size : Nat} {xs : List Value} {row : Option Nat} (h : RV w a len size xs) (hg : w.grownBy w' row) (hr : ∀ x, a = some x → some x.block ≠ row) : RV w' a len size xs := by
  obtain ⟨h1, h2, h3⟩ := h
  exact ⟨h1, h2, fun x hx j u hj => hg.cell (h3 x hx j u hj) (by have := hr x hx; unfold Addr.add; split <;> simpa using this)⟩

set_option maxHeartbeats 1000000 in
theorem marks_any (a : Option Addr) (len cap : Nat) (bs : List Bool) (w : World) (hl : len ≤ 140737488351232) (h : ReadsB w a len bs) :
    Calls Try.prog 43 #[.slice a len cap] w fun e w' => ∃ g c, e = .returned (.slice (some ⟨g, 0, none⟩) len c) ∧ len + 3 ≤ c ∧ w'.ownsRow w.heap.size 4 1 (.slice (some ⟨g, 0, none⟩) (len + 3) c) (len + 3) ((bs ++ [true, false, true]).map Value.bool) ∧ Below w.heap.size w w' := by
  obtain ⟨i0, hi, hz0, hz1, hz2⟩ := info_parts info4
  have hb0 : Below w.heap.size w (w.alloc (.cells #[] 4)) := (Below.refl _ _).alloc (Nat.le_refl _) _
  have own0 : (w.alloc (.cells #[] 4)).ownsRow w.heap.size 4 1 (.slice (some ⟨w.heap.size, 0, none⟩) 0 0) 0 [] := World.ownsRow_made w #[] 0 (Nat.le_refl _) (by simp [maxLen]) rfl
  have rv0 := (h.below hb0).rv
  go_enter Try.func43, Try.ntmps43
  go_wp2_with (first
    | (at_builtin; refine wpList_append_src rfl (.tmp 4) (.tmp 5) 33 rfl w.heap.size 4 i0 (.bool false) 1 1 Try.underlying33 hi hz0 hz1 hz2 rfl (by decide) _ 0 [] rfl own0 _ _ _ _ rfl rv0 (bools_one _) (by simp [maxLen]; omega) (by omega) (by simp) ?_; intro v1 w1 own1 grow1)
    | (at_builtin; refine wpList_append_src rfl (.tmp 6) (.tmp 7) 33 rfl w.heap.size 4 i0 (.bool false) 1 1 Try.underlying33 hi hz0 hz1 hz2 rfl (by decide) _ _ _ rfl (own1.alloc _) _ 3 _ _ rfl (rv_block (cs := #[.bool true, .bool false, .bool true]) rfl) (bools_one [true, false, true]) (by simp [maxLen]; omega) (by omega) (by have := grow1.size; simp at this; simp; omega) ?_; intro v2 w2 own2 grow2; obtain ⟨g2, c2, rfl, hc2, hm2, hbg, hgl⟩ := own_shape own2 (by omega); have hc3 : ((len : Int) ≤ (c2 : Int)) := (by omega)))
  go_ret
  refine ⟨g2, c2, rfl, by omega, ?_, ?_⟩
  · simpa [Nat.zero_add, List.map_append] using own2
  · have b1 : Below w.heap.size w w1 := hb0.grown grow1 (by simp) (fun k hk => (own0.lt k hk).1)
    exact (b1.alloc b1.size _).grown grow2 (by have := b1.size; simp; omega) (fun k hk => (own1.lt k hk).1)

def tail2 : List Cmd := [⟨71, 0, 0, 0⟩, ⟨72, 0, 0, 0⟩]

set_option maxHeartbeats 1000000 in
theorem trace_any (a : Option Addr) (len cap : Nat) (cs : List Cmd) (w : World) (hl : len * 32 ≤ 140737488355264) (h : ReadsC w a len cs) :
    Calls Try.prog 44 #[.slice a len cap] w fun e w' => ∃ g c, e = .returned (.slice (some ⟨g, 0, none⟩) len c) ∧ len + 2 ≤ c ∧ w'.ownsRow w.heap.size 54 4 (.slice (some ⟨g, 0, none⟩) (len + 2) c) (len + 2) (flat (cs ++ tail2)) ∧ Below w.heap.size w w' := by
  obtain ⟨i0, hi, hz0, hz1, hz2⟩ := info_parts info54
  have hb0 : Below w.heap.size w (w.alloc (.cells #[] 54)) := (Below.refl _ _).alloc (Nat.le_refl _) _
  have own0 : (w.alloc (.cells #[] 54)).ownsRow w.heap.size 54 4 (.slice (some ⟨w.heap.size, 0, none⟩) 0 0) 0 [] := World.ownsRow_made w #[] 0 (Nat.le_refl _) (by simp [maxLen]) rfl
  have rv0 := (h.below hb0).rv
  go_enter Try.func44, Try.ntmps44
  go_wp2_with (first
    | (at_builtin; refine wpList_append_src rfl (.tmp 4) (.tmp 5) 46 rfl w.heap.size 54 i0 _ 4 32 Try.underlying46 hi hz0 hz1 hz2 rfl (by decide) _ 0 [] rfl own0 _ _ _ _ rfl rv0 (flat_one _) (by simp [maxLen]; omega) (by omega) (by simp) ?_; intro v1 w1 own1 grow1)
    | (at_builtin; refine wpList_append_src rfl (.tmp 6) (.tmp 9) 46 rfl w.heap.size 54 i0 _ 4 32 Try.underlying46 hi hz0 hz1 hz2 rfl (by decide) _ _ _ rfl (own1.alloc _) _ 2 _ _ rfl (rv_block (cs := #[.int .i64 71, .int .i64 0, .int .i64 0, .int .i64 0, .int .i64 72, .int .i64 0, .int .i64 0, .int .i64 0]) rfl) (flat_one tail2) (by simp [maxLen]; omega) (by omega) (by have := grow1.size; simp at this; simp; omega) ?_; intro v2 w2 own2 grow2; obtain ⟨g2, c2, rfl, hc2, hm2, hbg, hgl⟩ := own_shape own2 (by omega); have hc3 : ((len : Int) ≤ (c2 : Int)) := (by omega)))
  go_ret
  refine ⟨g2, c2, rfl, by omega, ?_, ?_⟩
  · rw [flat_append]
    have e : flat tail2 = [.int .i64 71, .int .i64 0, .int .i64 0, .int .i64 0, .int .i64 72, .int .i64 0, .int .i64 0, .int .i64 0] := rfl
    rw [e]
    simpa [Nat.zero_add] using own2
  · have b1 : Below w.heap.size w w1 := hb0.grown grow1 (by simp) (fun k hk => (own0.lt k hk).1)
    exact (b1.alloc b1.size _).grown grow2 (by have := b1.size; simp; omega) (fun k hk => (own1.lt k hk).1)

/-- What is owned can be read, its front too. -/
theorem own_readsB {w : World} {B g n c m : Nat} {bs : List Bool} (h : w.ownsRow B 4 1 (.slice (some ⟨g, 0, none⟩) n c) n (bs.map Value.bool)) (hm : m ≤ n) : ReadsB w (some ⟨g, 0, none⟩) m (bs.take m) := by
  have hl : bs.length = n := by have := h.1; simpa using this
  refine ⟨by simp; omega, (fun h => by cases h), fun x hx i hi => ?_⟩
  cases hx
  rw [plain_add, Nat.zero_add, World.ownsRow.cellAt h i (by omega), List.getElem?_map, List.getElem?_eq_getElem (by omega)]
  simp [List.getD_eq_getElem?_getD, hi, List.getElem?_eq_getElem (show i < bs.length by omega)]

theorem own_readsC {w : World} {B g n c m : Nat} {cs : List Cmd} (h : w.ownsRow B 54 4 (.slice (some ⟨g, 0, none⟩) n c) n (flat cs)) (hok : ∀ x ∈ cs, x.Ok) (hm : m ≤ n) : ReadsC w (some ⟨g, 0, none⟩) m (cs.take m) := by
  have hl : cs.length = n := by have := h.1; rw [flat_length] at this; omega
  refine ⟨by simp; omega, fun x hx => hok x (List.mem_of_mem_take hx), (fun h => by cases h), fun x hx i hi j hj => ?_⟩
  cases hx
  rw [plain_add, Nat.zero_add, World.ownsRow.cellAt h (i * 4 + j) (by omega), flat_cell cs i j (by omega) hj]
  simp [List.getD_eq_getElem?_getD, hi]
end Go.Proofs.Ytjhphkfpcpfdnaa.J
namespace Go.Proofs.Ytjhphkfpcpfdnaa.J
open Go.RowKit
set_option linter.unusedVariables false

theorem take_front {α : Type} {xs ys : List α} {n : Nat} (h : xs.length = n) : (xs ++ ys).take n = xs := by subst h; simp

theorem tail2_ok {cs : List Cmd} (h : ∀ c ∈ cs, c.Ok) : ∀ c ∈ cs ++ tail2, c.Ok := by
  intro c hc
  rcases List.mem_append.1 hc with h1 | h1
  · exact h c h1
  · simp [tail2] at h1
    rcases h1 with rfl | rfl <;> exact ⟨⟨by decide, by decide⟩, ⟨by decide, by decide⟩, ⟨by decide, by decide⟩, ⟨by decide, by decide⟩⟩

/-- A copy of marks, of a trace, reads as they do. -/
theorem marksR {w : World} {B g len c : Nat} {bs : List Bool} (hl : bs.length = len) (h : w.ownsRow B 4 1 (.slice (some ⟨g, 0, none⟩) (len + 3) c) (len + 3) ((bs ++ [true, false, true]).map Value.bool)) : ReadsB w (some ⟨g, 0, none⟩) len bs := by
  have := own_readsB h (show len ≤ len + 3 by omega)
  rwa [take_front hl] at this
theorem traceR {w : World} {B g n c : Nat} {cs : List Cmd} (hl : cs.length = n) (hok : ∀ x ∈ cs, x.Ok) (h : w.ownsRow B 54 4 (.slice (some ⟨g, 0, none⟩) (n + 2) c) (n + 2) (flat (cs ++ tail2))) : ReadsC w (some ⟨g, 0, none⟩) n cs := by
  have := own_readsC h (tail2_ok hok) (show n ≤ n + 2 by omega)
  rwa [take_front hl] at this

theorem box_cells {w u : World} {b p s : Int} (h : (w.alloc (.cells #[.int .i64 b, .int .i64 p, .int .i64 s] 23)).grownBy u none) :
    u.cell? ⟨w.heap.size, 0, none⟩ = some (.int .i64 b) ∧ u.cell? ⟨w.heap.size, 1, none⟩ = some (.int .i64 p) ∧ u.cell? ⟨w.heap.size, 2, none⟩ = some (.int .i64 s) := by
  refine ⟨?_, ?_, ?_⟩ <;> exact h.cell (by simp) (by simp)

theorem JudgeAt.far {w w' : World} {gj bm r : Nat} {b p s : Int} {st : List Blk} (h : JudgeAt w gj b p s bm st) (hg : w.grownBy w' (some r)) (h1 : gj ≠ r) (h2 : bm ≠ r) : JudgeAt w' gj b p s bm st :=
  ⟨hg.cell h.c0 (by simpa using h1), hg.cell h.c1 (by simpa using h1), hg.cell h.c2 (by simpa using h1), hg.cell h.c3 (by simpa using h1), h.knows.grown hg (by simpa using h2), h.ne⟩

theorem see_mark0 {P : Int} {st : List Blk} (h : 0 < st.length) : (see P st ⟨3, 0, 0, 0⟩).isSome = true := by
  unfold see
  rw [if_pos ⟨by simp, by simpa using h, rfl, rfl⟩]
  rfl
theorem see_out {P : Int} {st : List Blk} (b : Int) (h : (st.length : Int) = b) : see P st ⟨3, b, 0, 0⟩ = none := by
  unfold see
  rw [if_neg (by simp only; omega)]

/-- The place of the first false, while it is looked for. -/
theorem first_step {P : Int} {st sta : List Blk} {cs : List Cmd} {k : Nat} {c : Cmd} (hk : cs[k]? = some c) {f : Int} (hf : f = chkI (chk P st (cs.take k))) (hr : f < 0 → runs P st (cs.take k) = some sta) :
    (see P sta c = none → f < 0 → chkI (chk P st (cs.take (k + 1))) = k) ∧ (0 ≤ f → chkI (chk P st (cs.take (k + 1))) = f) ∧ (∀ st2, see P sta c = some st2 → f < 0 → chkI (chk P st (cs.take (k + 1))) = f ∧ runs P st (cs.take (k + 1)) = some st2) := by
  obtain ⟨hlt, hget⟩ := List.getElem?_eq_some_iff.1 hk
  have e : cs.take (k + 1) = cs.take k ++ [c] := by rw [List.take_succ_eq_append_getElem hlt, hget]
  refine ⟨fun h1 h2 => ?_, fun h1 => ?_, fun st2 h1 h2 => ?_⟩
  · rw [e, chk_append, hr h2]
    simp [chk, h1, chkI]
    omega
  · rw [e, chk_append]
    cases hru : runs P st (cs.take k) with
    | none => exact hf.symm
    | some st' =>
      have : chk P st (cs.take k) = none := chk_runs.2 (by rw [hru]; rfl)
      rw [this] at hf
      simp [chkI] at hf
      omega
  · have h3 := runs_step hk (hr h2) h1
    refine ⟨?_, h3⟩
    have e1 : chk P st (cs.take (k + 1)) = none := chk_runs.2 (by rw [h3]; rfl)
    have e2 : chk P st (cs.take k) = none := chk_runs.2 (by rw [hr h2]; rfl)
    rw [hf, e1, e2]

theorem see_x (gj bm : Nat) (b p s : Int) (st : List Blk) (k cb cp cs : Int) (w : World) (h : JudgeAt w gj b p s bm st) (hc : (Cmd.mk k cb cp cs).Ok) (hp : 4 ≤ p ∧ p ≤ 256) (hl : st.length < 100000) :
    Calls Try.prog 15 #[.pointer (some ⟨gj, 0, none⟩), .agg #[.int .i64 k, .int .i64 cb, .int .i64 cp, .int .i64 cs]] w fun e w' => e = .returned (.bool (see p st ⟨k, cb, cp, cs⟩).isSome) ∧ JudgeAt w' gj b p s bm ((see p st ⟨k, cb, cp, cs⟩).getD st) ∧ w.grownBy w' (some bm) :=
  see_any gj bm b p s st ⟨k, cb, cp, cs⟩ w h hc hp hl

theorem getD_len {P : Int} {st : List Blk} {c : Cmd} {len : Nat} (h : st.length = len) : ((see P st c).getD st).length = len := by
  cases hs : see P st c with
  | none => simpa using h
  | some st' => simpa [see_length hs] using h

end Go.Proofs.Ytjhphkfpcpfdnaa.J
namespace Go.Proofs.Ytjhphkfpcpfdnaa.J
open Go.RowKit
set_option linter.unusedVariables false

theorem bool_neq (b : Bool) : (b == b) = true := by cases b <;> rfl

set_option maxHeartbeats 1000000 in
theorem marksKept_any (B g c len cap : Nat) (a : Option Addr) (bs : List Bool) (w : World) (hl : len ≤ 140737488351232) (h : ReadsB w a len bs) (hc : len + 3 ≤ c) (own : w.ownsRow B 4 1 (.slice (some ⟨g, 0, none⟩) (len + 3) c) (len + 3) ((bs ++ [true, false, true]).map Value.bool)) :
    Calls Try.prog 46 #[.slice (some ⟨g, 0, none⟩) len c, .slice a len cap] w fun e w' => e = .returned (.bool true) ∧ ∃ k, w' = w.drewN k := by
  have hlen := h.1
  have hcell : ∀ i, i < len → w.cell? ⟨g, i, none⟩ = some (.bool (bs.getD i false)) := fun i hi => by
    rw [World.ownsRow.cellAt own i (by omega), List.getElem?_map, List.getElem?_append_left (by omega)]
    simp [List.getD_eq_getElem?_getD, List.getElem?_eq_getElem (show i < bs.length by omega)]
  have e0 : w.cell? ⟨g, len, none⟩ = some (.bool true) := by
    rw [World.ownsRow.cellAt own len (by omega), List.getElem?_map, List.getElem?_append_right (by omega), hlen]; simp
  have e1 : w.cell? ⟨g, len + 1, none⟩ = some (.bool false) := by
    rw [World.ownsRow.cellAt own (len + 1) (by omega), List.getElem?_map, List.getElem?_append_right (by omega), hlen]; simp
  have e2 : w.cell? ⟨g, len + 2, none⟩ = some (.bool true) := by
    rw [World.ownsRow.cellAt own (len + 2) (by omega), List.getElem?_map, List.getElem?_append_right (by omega), hlen]; simp
  have hc' : (len : Int) + 3 ≤ (c : Int) := by omega
  clear own
  go_enter Try.func46, Try.ntmps46
  go_wp2
  go_loopw [6] (fun i wr => ∃ k m : Nat, k ≤ len ∧ i = .int .i64 k ∧ wr = w.drewN m)
    (fun i _ => len - (intOf i).toNat)
  case atStart => exact ⟨0, 0, Nat.zero_le _, rfl, rfl⟩
  case round =>
    obtain ⟨k, m, hk, rfl, rfl⟩ := hrel
    by_cases hlt : k < len
    · obtain ⟨g', off, rfl, hg', hcell'⟩ := h.pos (by omega)
      obtain ⟨z, hz⟩ : ∃ z, z = bs.getD k false := ⟨_, rfl⟩
      have x1 := hcell k hlt
      have x2 := hcell' k hlt
      rw [← hz] at x1 x2
      have hb := bool_neq z
      have i1 : (k : Int) < (len : Int) := by omega
      have i2 : (k : Int) < (len : Int) + 3 := by omega
      clear hz hcell hcell'
      go_wp2
      go_quiet (fail)
      all_goals go_wp2
      all_goals go_roundw
      case rel => exact ⟨k + 1, _, by omega, by go_num, rfl⟩
      case measure => simp [intOf]; omega
    · have hkl : k = len := by omega
      subst hkl
      have i2 : (k : Int) < (k : Int) + 3 := by omega
      have i3 : (k : Int) + 1 < (k : Int) + 3 := by omega
      have i4 : (k : Int) + 2 < (k : Int) + 3 := by omega
      clear hcell
      go_wp2
      go_ret
      exact ⟨rfl, m, rfl⟩

set_option maxHeartbeats 1000000 in
theorem traceKept_any (B g c len cap : Nat) (a : Option Addr) (cs : List Cmd) (w : World) (hl : len * 32 ≤ 140737488351232) (h : ReadsC w a len cs) (hc : len + 2 ≤ c) (own : w.ownsRow B 54 4 (.slice (some ⟨g, 0, none⟩) (len + 2) c) (len + 2) (flat (cs ++ tail2))) :
    Calls Try.prog 47 #[.slice (some ⟨g, 0, none⟩) len c, .slice a len cap] w fun e w' => e = .returned (.bool true) ∧ ∃ k, w' = w.drewN k := by
  have hlen := h.1
  have hfl : (flat cs).length = len * 4 := by rw [flat_length, hlen]
  have hcell : ∀ i, i < len → w.cell? ⟨g, i * 4, none⟩ = some (.int .i64 (cs.getD i Cmd.none).k) ∧ w.cell? ⟨g, i * 4 + 1, none⟩ = some (.int .i64 (cs.getD i Cmd.none).b) ∧ w.cell? ⟨g, i * 4 + 2, none⟩ = some (.int .i64 (cs.getD i Cmd.none).p) ∧ w.cell? ⟨g, i * 4 + 3, none⟩ = some (.int .i64 (cs.getD i Cmd.none).s) := fun i hi => by
    have hh : ∀ j, j < 4 → w.cell? ⟨g, i * 4 + j, none⟩ = some ((cs.getD i Cmd.none).cell j) := fun j hj => by
      rw [World.ownsRow.cellAt own (i * 4 + j) (by omega), flat_append, List.getElem?_append_left (by omega), flat_cell cs i j (by omega) hj]
    exact ⟨hh 0 (by omega), hh 1 (by omega), hh 2 (by omega), hh 3 (by omega)⟩
  have e0 : w.cell? ⟨g, len * 4, none⟩ = some (.int .i64 71) := by
    rw [World.ownsRow.cellAt own (len * 4) (by omega), flat_append, List.getElem?_append_right (by omega), hfl]
    simp [flat, tail2, Cmd.cells]
  have e1 : w.cell? ⟨g, (len + 1) * 4, none⟩ = some (.int .i64 72) := by
    rw [World.ownsRow.cellAt own ((len + 1) * 4) (by omega), flat_append, List.getElem?_append_right (by omega), hfl, show (len + 1) * 4 - len * 4 = 4 by omega]
    simp [flat, tail2, Cmd.cells]
  have hc' : (len : Int) + 2 ≤ (c : Int) := by omega
  clear own
  go_enter Try.func47, Try.ntmps47
  go_wp2
  go_loopw [6] (fun i wr => ∃ k m : Nat, k ≤ len ∧ i = .int .i64 k ∧ wr = w.drewN m)
    (fun i _ => len - (intOf i).toNat)
  case atStart => exact ⟨0, 0, Nat.zero_le _, rfl, rfl⟩
  case round =>
    obtain ⟨k, m, hk, rfl, rfl⟩ := hrel
    by_cases hlt : k < len
    · obtain ⟨g', off, rfl, hg', hcell'⟩ := h.pos (by omega)
      obtain ⟨z, hz⟩ : ∃ z, z = cs.getD k Cmd.none := ⟨_, rfl⟩
      obtain ⟨x0, x1, x2, x3⟩ := hcell k hlt
      obtain ⟨y0, y1, y2, y3⟩ := hcell' k hlt
      rw [← hz] at x0 x1 x2 x3 y0 y1 y2 y3
      have i1 : (k : Int) < (len : Int) := by omega
      have i2 : (k : Int) < (len : Int) + 2 := by omega
      clear hz hcell hcell'
      obtain ⟨zk, zb, zp, zs⟩ := z
      go_wp2
      go_quiet (fail)
      all_goals go_wp2
      all_goals go_roundw
      case rel => exact ⟨k + 1, _, by omega, by go_num, rfl⟩
      case measure => simp [intOf]; omega
    · have hkl : k = len := by omega
      subst hkl
      have i2 : (k : Int) < (k : Int) + 2 := by omega
      have i3 : (k : Int) + 1 < (k : Int) + 2 := by omega
      clear hcell
      go_wp2
      go_ret
      exact ⟨rfl, m, rfl⟩
end Go.Proofs.Ytjhphkfpcpfdnaa.J
namespace Go.Proofs.Ytjhphkfpcpfdnaa.J
open Go.RowKit
set_option linter.unusedVariables false

/-- What a judge knows that has seen all of a trace. -/
def jfold (P : Int) (st : List Blk) (cs : List Cmd) : List Blk := cs.foldl (fun st c => (see P st c).getD st) st
theorem jfold_snoc (P : Int) (st : List Blk) (cs : List Cmd) (c : Cmd) : jfold P st (cs ++ [c]) = (see P (jfold P st cs) c).getD (jfold P st cs) := by
  unfold jfold
  rw [List.foldl_append]
  rfl
theorem jfold_len (P : Int) (cs : List Cmd) : ∀ st : List Blk, (jfold P st cs).length = st.length := by
  unfold jfold
  induction cs with
  | nil => intro st; rfl
  | cons c r ih =>
    intro st
    rw [List.foldl_cons, ih]
    cases h : see P st c with
    | none => rfl
    | some s => exact see_length h
theorem jfold_take {P : Int} {st : List Blk} {cs : List Cmd} {k : Nat} (h : k < cs.length) : jfold P st (cs.take (k + 1)) = (see P (jfold P st (cs.take k)) (cs.getD k Cmd.none)).getD (jfold P st (cs.take k)) := by
  rw [List.take_succ_eq_append_getElem h, jfold_snoc]
  rw [List.getD_eq_getElem?_getD, List.getElem?_eq_getElem h]
  rfl
set_option maxHeartbeats 2000000 in
set_option maxRecDepth 100000 in
theorem replayed_any (gj bm : Nat) (b p s : Int) (st : List Blk) (a : Option Addr) (n cap : Nat) (cs : List Cmd) (w : World) (h : JudgeAt w gj b p s bm st) (hc : ReadsC w a n cs) (hn : n ≤ 140737488355000) (hp : 4 ≤ p ∧ p ≤ 256) (hl : st.length < 100000) (hne : ∀ x, a = some x → 0 < n → x.block ≠ bm) :
    Calls Try.prog 16 #[.pointer (some ⟨gj, 0, none⟩), .slice a n cap] w fun e w' => e = .returned (.bool true) ∧ JudgeAt w' gj b p s bm (jfold p st cs) ∧ w.grownBy w' (some bm) := by
  have hcl := hc.1
  have HC : Hid (ReadsC w a n cs) := hc
  have HN : Hid (∀ x, a = some x → 0 < n → x.block ≠ bm) := hne
  have HJ0 : Hid (JudgeAt w gj b p s bm (jfold p st (cs.take 0)) ∧ w.grownBy w (some bm)) := ⟨h, ⟨rfl, rfl, rfl, Nat.le_refl _, fun _ _ _ => rfl⟩⟩
  clear h hc hne
  go_enter Try.func16, Try.ntmps16
  go_wp2
  go_loopw [5] (fun s5 wr => ∃ k : Nat, k ≤ n ∧ s5 = .int .i64 k ∧ Hid (JudgeAt wr gj b p s bm (jfold p st (cs.take k)) ∧ w.grownBy wr (some bm))) (fun s5 _ => n - (intOf s5).toNat)
  case atStart => exact ⟨0, Nat.zero_le _, rfl, HJ0⟩
  case round =>
    clear HJ0
    obtain ⟨k, hk, rfl, HJ⟩ := hrel
    by_cases hlt : k < n
    · have dm : decide ((k : Int) < (n : Int)) = true := decide_eq_true (by omega)
      have k1 : (k : Int) < (n : Int) := by omega
      obtain ⟨bb, off, ha, hbb, hcell⟩ := HC.out.pos (by omega)
      subst ha
      have hnb : bb ≠ bm := HN.out _ rfl (by omega)
      obtain ⟨y0, y1, y2, y3⟩ := hcell k hlt
      have y0 := HJ.out.2.cell y0 (by simp; exact hnb)
      have y1 := HJ.out.2.cell y1 (by simp; exact hnb)
      have y2 := HJ.out.2.cell y2 (by simp; exact hnb)
      have y3 := HJ.out.2.cell y3 (by simp; exact hnb)
      clear hcell hnb
      have HO : Hid ((cs.getD k Cmd.none).Ok) := okAt HC.out.2.1 k (by omega)
      obtain ⟨c, hcd⟩ : ∃ c, c = cs.getD k Cmd.none := ⟨_, rfl⟩
      rw [← hcd] at y0 y1 y2 y3 HO
      have HS : Hid (jfold p st (cs.take (k + 1)) = (see p (jfold p st (cs.take k)) c).getD (jfold p st (cs.take k))) := by rw [hcd]; exact jfold_take (by omega)
      clear hcd
      go_wp2_with (first | (go_at_call 15; refine (see_x gj bm b p s _ c.k c.b c.p c.s _ HJ.out.1 HO.out hp (by rw [jfold_len]; exact hl)).mono ?_; rintro e u1 ⟨rfl, hj1, hg1⟩; have HJ1 : Hid (JudgeAt u1 gj b p s bm (jfold p st (cs.take (k + 1))) ∧ w.grownBy u1 (some bm)) := ⟨(by rw [HS.out]; exact hj1), grownBy_trans HJ.out.2 hg1⟩; clear hj1 hg1 y0 y1 y2 y3))
      go_roundw
      case rel => exact ⟨k + 1, by omega, by go_num, HJ1⟩
      case measure => simp [intOf]; omega
    · have dm : decide ((k : Int) < (n : Int)) = false := decide_eq_false (by omega)
      go_wp2
      go_ret
      refine ⟨rfl, ?_, HJ.out.2⟩
      have h9 := HJ.out.1
      rw [List.take_of_length_le (by omega)] at h9
      exact h9
/-- What refusedRight answers. -/
def refR (p : Int) (st : List Blk) (c : Cmd) : Bool := if c.s = 41 ∨ c.s = 43 then !((see p st { c with s := 0 }).isSome) else (see p st c).isSome
set_option maxHeartbeats 2000000 in
set_option maxRecDepth 100000 in
theorem refused_any (gj bm : Nat) (b p s : Int) (st : List Blk) (c : Cmd) (w : World) (h : JudgeAt w gj b p s bm st) (hc : c.Ok) (hp : 4 ≤ p ∧ p ≤ 256) (hl : st.length < 100000) :
    Calls Try.prog 17 #[.pointer (some ⟨gj, 0, none⟩), .agg #[.int .i64 c.k, .int .i64 c.b, .int .i64 c.p, .int .i64 c.s]] w fun e w' => e = .returned (.bool (refR p st c)) ∧ w.grownBy w' (some bm) := by
  have HC : Hid c.Ok := hc
  have HA : ∀ o o' : Obj, Hid (w.grownBy ((w.alloc o).alloc o') none) := fun o o' => gb_alloc (gb_alloc (grown_of (Below.refl _ _) none) o) o'
  have HJ : Hid (JudgeAt w gj b p s bm st) := h
  have HG : ∀ u u' : World, w.grownBy u none → u.grownBy u' (some bm) → w.grownBy u' (some bm) := fun u u' h1 h2 => grownBy_trans ⟨h1.os, h1.tape, h1.output, h1.size, fun k hk _ => h1.block k hk (by simp)⟩ h2
  clear hc h
  have HW0 : Hid (Wf 0) := by unfold Hid Wf; omega
  have HGh : Hid (∀ u u' : World, w.grownBy u none → u.grownBy u' (some bm) → w.grownBy u' (some bm)) := HG
  have HAh : Hid (∀ o o' : Obj, w.grownBy ((w.alloc o).alloc o') none) := fun o o' => (HA o o').out
  clear HG HA
  by_cases h41 : c.s = 41
  · have HR : Hid (refR p st c = (see p st ⟨c.k, c.b, c.p, 0⟩).isNone) := by
      show refR p st c = _
      unfold refR; rw [if_pos (Or.inl h41)]; simp
    have d41 : (c.s == 41) = true := by rw [h41]; rfl
    clear h41
    go_enter Try.func17, Try.ntmps17
    go_wp2_with (first | (go_at_call 15; refine (see_x gj bm b p s st c.k c.b c.p 0 _ (HJ.out.grown (HAh.out _ _)) ⟨HC.out.k, HC.out.b, HC.out.p, HW0.out⟩ hp hl).mono ?_; rintro e u1 ⟨rfl, _, hg1⟩; have HG1 : Hid (w.grownBy u1 (some bm)) := HGh.out _ _ (HAh.out _ _) hg1; clear hg1))
    go_ret
    exact ⟨ret_bool HR.out.symm, HG1.out⟩
  by_cases h43 : c.s = 43
  · have HR : Hid (refR p st c = (see p st ⟨c.k, c.b, c.p, 0⟩).isNone) := by
      show refR p st c = _
      unfold refR; rw [if_pos (Or.inr h43)]; simp
    have d41 : (c.s == 41) = false := by simp [h41]
    have d43 : (c.s == 43) = true := by rw [h43]; rfl
    clear h41 h43
    go_enter Try.func17, Try.ntmps17
    go_wp2_with (first | (go_at_call 15; refine (see_x gj bm b p s st c.k c.b c.p 0 _ (HJ.out.grown (HAh.out _ _)) ⟨HC.out.k, HC.out.b, HC.out.p, HW0.out⟩ hp hl).mono ?_; rintro e u1 ⟨rfl, _, hg1⟩; have HG1 : Hid (w.grownBy u1 (some bm)) := HGh.out _ _ (HAh.out _ _) hg1; clear hg1))
    go_ret
    exact ⟨ret_bool HR.out.symm, HG1.out⟩
  have HR : Hid (refR p st c = (see p st c).isSome) := by
    show refR p st c = _
    unfold refR; rw [if_neg (by omega)]
  have d41 : (c.s == 41) = false := by simp [h41]
  have d43 : (c.s == 43) = false := by simp [h43]
  clear h41 h43
  go_enter Try.func17, Try.ntmps17
  go_wp2_with (first | (go_at_call 15; refine (see_x gj bm b p s st c.k c.b c.p c.s _ (HJ.out.grown (HAh.out _ _)) ⟨HC.out.k, HC.out.b, HC.out.p, HC.out.s⟩ hp hl).mono ?_; rintro e u1 ⟨rfl, _, hg1⟩; have HG1 : Hid (w.grownBy u1 (some bm)) := HGh.out _ _ (HAh.out _ _) hg1; clear hg1))
  go_ret
  exact ⟨ret_bool HR.out.symm, HG1.out⟩
end Go.Proofs.Ytjhphkfpcpfdnaa.J
