/-
  SEAT YtnjcjaaciphcgaaDoor: what a report's text says; the reader's report where its head is not right.
-/
import Derived.Test.YtnjcjaaciphcgaaDoorVg
import Derived.Test.YtnjcjaaciphcgaaDoorUf
namespace Go.Proofs.YtnjcjaaciphcgaaDoor
open Go.RowKit Go.Sort
set_option linter.unusedVariables false

theorem Two.past {q t : Nat} {w a b : World} (h : Two q q w a) (h' : Two q t a b) (ht : w.heap.size ≤ t) : Two q q w b :=
  ⟨h'.os.trans h.os, h'.tape.trans h.tape, h'.output.trans h.output, Nat.le_trans h.size h'.size, fun i hi h1 h2 => (h'.block i (Nat.lt_of_lt_of_le hi h.size) h1 (by omega)).trans (h.block i hi h1 h2)⟩
theorem Two.grow {q : Nat} {r : Option Nat} {w a b : World} (h : Two q q w a) (h' : a.grownBy b r) (ht : ∀ i, r = some i → w.heap.size ≤ i) : Two q q w b :=
  ⟨h'.os.trans h.os, h'.tape.trans h.tape, h'.output.trans h.output, Nat.le_trans h.size h'.size, fun i hi h1 h2 => (h'.block i (Nat.lt_of_lt_of_le hi h.size) (fun e => by have := ht i e.symm; omega)).trans (h.block i hi h1 h2)⟩
theorem grown_tr {a b c : World} {r : Option Nat} (h : a.grownBy b r) (k : b.grownBy c r) : a.grownBy c r :=
  ⟨k.os.trans h.os, k.tape.trans h.tape, k.output.trans h.output, Nat.le_trans h.size k.size, fun i hi hne => (k.block i (Nat.lt_of_lt_of_le hi h.size) hne).trans (h.block i hi hne)⟩
theorem blk7_set {u : World} {i : Nat} {a0 a1 a2 a3 a4 a5 a6 : Value} {t : TypeId} (h : u.heap[i]? = some (.cells #[a0, a1, a2, a3, a4, a5, a6] t (0, 0))) (v0 v1 v2 v3 v4 v5 v6 : Value) :
    (((((((u.setCell ⟨i, 0, none⟩ v0).setCell ⟨i, 1, none⟩ v1).setCell ⟨i, 2, none⟩ v2).setCell ⟨i, 3, none⟩ v3).setCell ⟨i, 4, none⟩ v4).setCell ⟨i, 5, none⟩ v5).setCell ⟨i, 6, none⟩ v6).heap[i]? = some (.cells #[v0, v1, v2, v3, v4, v5, v6] t (0, 0)) := by
  have one : ∀ {u : World} {cs : Array Value} (j : Nat) (v : Value), u.heap[i]? = some (.cells cs t (0, 0)) → (u.setCell ⟨i, j, none⟩ v).heap[i]? = some (.cells (cs.setIfInBounds j v) t (0, 0)) := fun j v h => Joins.block_setCell h v
  have h1 : (u.setCell ⟨i, 0, none⟩ v0).heap[i]? = some (.cells #[v0, a1, a2, a3, a4, a5, a6] t (0, 0)) := one 0 v0 h
  generalize u.setCell ⟨i, 0, none⟩ v0 = u1 at h1 ⊢
  have h2 : (u1.setCell ⟨i, 1, none⟩ v1).heap[i]? = some (.cells #[v0, v1, a2, a3, a4, a5, a6] t (0, 0)) := one 1 v1 h1
  generalize u1.setCell ⟨i, 1, none⟩ v1 = u2 at h2 ⊢
  have h3 : (u2.setCell ⟨i, 2, none⟩ v2).heap[i]? = some (.cells #[v0, v1, v2, a3, a4, a5, a6] t (0, 0)) := one 2 v2 h2
  generalize u2.setCell ⟨i, 2, none⟩ v2 = u3 at h3 ⊢
  have h4 : (u3.setCell ⟨i, 3, none⟩ v3).heap[i]? = some (.cells #[v0, v1, v2, v3, a4, a5, a6] t (0, 0)) := one 3 v3 h3
  generalize u3.setCell ⟨i, 3, none⟩ v3 = u4 at h4 ⊢
  have h5 : (u4.setCell ⟨i, 4, none⟩ v4).heap[i]? = some (.cells #[v0, v1, v2, v3, v4, a5, a6] t (0, 0)) := one 4 v4 h4
  generalize u4.setCell ⟨i, 4, none⟩ v4 = u5 at h5 ⊢
  have h6 : (u5.setCell ⟨i, 5, none⟩ v5).heap[i]? = some (.cells #[v0, v1, v2, v3, v4, v5, a6] t (0, 0)) := one 5 v5 h5
  generalize u5.setCell ⟨i, 5, none⟩ v5 = u6 at h6 ⊢
  exact one 6 v6 h6
theorem grown7 (u : World) (i : Nat) (v0 v1 v2 v3 v4 v5 v6 : Value) : u.grownBy (((((((u.setCell ⟨i, 0, none⟩ v0).setCell ⟨i, 1, none⟩ v1).setCell ⟨i, 2, none⟩ v2).setCell ⟨i, 3, none⟩ v3).setCell ⟨i, 4, none⟩ v4).setCell ⟨i, 5, none⟩ v5).setCell ⟨i, 6, none⟩ v6) (some i) :=
  grown_tr (grown_tr (grown_tr (grown_tr (grown_tr (grown_tr (set_grown u i 0 v0) (set_grown _ i 1 v1)) (set_grown _ i 2 v2)) (set_grown _ i 3 v3)) (set_grown _ i 4 v4)) (set_grown _ i 5 v5)) (set_grown _ i 6 v6)
theorem arr7 {cs : Array Value} (h : cs.size = 7) : ∃ a0 a1 a2 a3 a4 a5 a6, cs = #[a0, a1, a2, a3, a4, a5, a6] := by
  obtain ⟨l⟩ := cs
  match l, h with
  | [a0, a1, a2, a3, a4, a5, a6], _ => exact ⟨a0, a1, a2, a3, a4, a5, a6, rfl⟩
theorem rda_grown {q k i : Nat} {l : List UInt8} {w u : World} (h : RdA w q l k) (hg : w.grownBy u (some i)) (hne : q ≠ i) : RdA u q l k := by
  unfold RdA at *
  rw [hg.block q (Array.getElem?_eq_some_iff.1 h).1 (fun e => hne (Option.some.inj e))]
  exact h

/-- What stands behind the first line. -/
def nx (l : List UInt8) : List UInt8 := (cutN l).2.1
theorem nx_le (l : List UInt8) : (nx l).length ≤ l.length := (cut_len l).2
theorem nx_lt {l : List UInt8} (h : l ≠ []) : (nx l).length < l.length := by
  unfold nx
  rcases cut_index l with ⟨_, h2⟩ | ⟨i, _, h1, h2⟩
  · rw [h2]
    exact List.length_pos_iff.2 h
  · rw [h2]
    simp
    omega

/-- The findings of a text, and how many lines are read. -/
def rowsE (l : List UInt8) : Option (List Fd) × Nat :=
  if h : l = [] then (some [], 0) else
  match fdOf l with
  | none => (none, 1)
  | some f => ((rowsE (nx l)).1.map (f :: ·), (rowsE (nx l)).2 + 1)
termination_by l.length
decreasing_by all_goals exact nx_lt h

def wC : List UInt8 := [99, 111, 117, 110, 116, 101, 100]
def wL : List UInt8 := [108, 105, 118, 101]
def wU : List UInt8 := [117, 115, 101, 100]
def wB : List UInt8 := [98, 97, 100]
/-- The report of a text, and how many lines are read. -/
def rp (l : List UInt8) : Option Rp × Nat :=
  match flr l with
  | none => (none, 1)
  | some f => match nb (nx l) wC with
    | none => (none, 2)
    | some c => match nb (nx (nx l)) wL with
      | none => (none, 3)
      | some v => match nb (nx (nx (nx l))) wU with
        | none => (none, 4)
        | some u => match nb (nx (nx (nx (nx l)))) wB with
          | none => (none, 5)
          | some b => match sv (nx (nx (nx (nx (nx l))))) with
            | none => (none, 6)
            | some s => ((rowsE (nx (nx (nx (nx (nx (nx l))))))).1.map (fun fs => ⟨f, c, v, u, b, s, fs⟩), 6 + (rowsE (nx (nx (nx (nx (nx (nx l))))))).2)

/-- What report answers. -/
def RepR (q k : Nat) (w w' : World) (e : Ending) (x : Option Rp × Nat) : Prop :=
  ∃ (u i1 i2 i3 i4 : Int) (b : Bool) (a : Option Addr) (n c : Nat), e = .returned (.tuple #[.agg #[.int .u64 u, .int .i64 i1, .int .i64 i2, .int .i64 i3, .int .i64 i4, .bool b, .slice a n c], .bool x.1.isSome]) ∧
    (∀ r, x.1 = some r → u = (r.fl : Int) ∧ i1 = r.c ∧ i2 = r.l ∧ i3 = r.u ∧ i4 = r.b ∧ b = r.s ∧ ReadsF w' a n r.fs ∧ w'.ownsRow w.heap.size 29 4 (.slice a n c) n (flatF r.fs)) ∧
    (∃ l', RdA w' q l' (k + x.2)) ∧ Two q q w w'

set_option maxHeartbeats 4000000 in
set_option maxRecDepth 100000 in
theorem rep_bad0 (q k : Nat) (l0 : List UInt8) (w : World) (hR : RdA w q l0 k) (hn0 : l0.length < 4294967281) (hk : k ≤ 100000000000) (ht : P10 w) (hv : EV w) (hq9 : 9 ≤ q) (h0 : flr l0 = none) :
    Calls Tryd.prog 29 #[.pointer (some ⟨q, 0, none⟩)] w fun e w' => RepR q k w w' e (rp l0) := by
  have HF : Hid (rp l0 = (none, 1)) := by unfold Hid rp; simp only [h0]
  have hqw : q < w.heap.size := (Array.getElem?_eq_some_iff.1 hR).1
  have hrb9 : 9 ≤ w.heap.size + 1 := by omega
  have hrbq : w.heap.size + 1 ≠ q := by omega
  have hraq : w.heap.size ≠ q := by omega
  have HBL : Hid (Below w.heap.size w ((w.alloc (.cells #[.int .u64 0, .int .i64 0, .int .i64 0, .int .i64 0, .int .i64 0, .bool false, .slice none 0 0] 25)).alloc (.cells #[.int .u64 0, .int .i64 0, .int .i64 0, .int .i64 0, .int .i64 0, .bool false, .slice none 0 0] 25))) := below_trans (below_alloc' w _) (below_alloc' _ _)
  have HR0 : Hid (RdA ((w.alloc (.cells #[.int .u64 0, .int .i64 0, .int .i64 0, .int .i64 0, .int .i64 0, .bool false, .slice none 0 0] 25)).alloc (.cells #[.int .u64 0, .int .i64 0, .int .i64 0, .int .i64 0, .int .i64 0, .bool false, .slice none 0 0] 25)) q l0 k) := by unfold Hid RdA; rw [HBL.out.block q hqw]; exact hR
  have HP : Hid (P10 ((w.alloc (.cells #[.int .u64 0, .int .i64 0, .int .i64 0, .int .i64 0, .int .i64 0, .bool false, .slice none 0 0] 25)).alloc (.cells #[.int .u64 0, .int .i64 0, .int .i64 0, .int .i64 0, .int .i64 0, .bool false, .slice none 0 0] 25))) := p10_below ht HBL.out
  have HV : Hid (EV ((w.alloc (.cells #[.int .u64 0, .int .i64 0, .int .i64 0, .int .i64 0, .int .i64 0, .bool false, .slice none 0 0] 25)).alloc (.cells #[.int .u64 0, .int .i64 0, .int .i64 0, .int .i64 0, .int .i64 0, .bool false, .slice none 0 0] 25))) := by
    obtain ⟨⟨tp, p, s⟩, ⟨tp', p', r⟩⟩ := hv
    exact ⟨⟨tp, p, var_two (q := q) (t := q) gSyn s (Two.of HBL.out) (by omega) (by omega)⟩, ⟨tp', p', var_two (q := q) (t := q) gRan r (Two.of HBL.out) (by omega) (by omega)⟩⟩
  have HA0 : Hid (((w.alloc (.cells #[.int .u64 0, .int .i64 0, .int .i64 0, .int .i64 0, .int .i64 0, .bool false, .slice none 0 0] 25)).alloc (.cells #[.int .u64 0, .int .i64 0, .int .i64 0, .int .i64 0, .int .i64 0, .bool false, .slice none 0 0] 25)).heap[w.heap.size]? = some (.cells #[.int .u64 0, .int .i64 0, .int .i64 0, .int .i64 0, .int .i64 0, .bool false, .slice none 0 0] 25 (0, 0))) := (Below.heap_alloc _ _ _ (by simp)).trans (heap_alloc_new w _)
  have HB0 : Hid (((w.alloc (.cells #[.int .u64 0, .int .i64 0, .int .i64 0, .int .i64 0, .int .i64 0, .bool false, .slice none 0 0] 25)).alloc (.cells #[.int .u64 0, .int .i64 0, .int .i64 0, .int .i64 0, .int .i64 0, .bool false, .slice none 0 0] 25)).heap[w.heap.size + 1]? = some (.cells #[.int .u64 0, .int .i64 0, .int .i64 0, .int .i64 0, .int .i64 0, .bool false, .slice none 0 0] 25 (0, 0))) := by
    have h9 := heap_alloc_new (w.alloc (.cells #[.int .u64 0, .int .i64 0, .int .i64 0, .int .i64 0, .int .i64 0, .bool false, .slice none 0 0] 25)) (.cells #[.int .u64 0, .int .i64 0, .int .i64 0, .int .i64 0, .int .i64 0, .bool false, .slice none 0 0] 25)
    rw [World.size_alloc] at h9
    exact h9
  have HX0 : Hid (Two q (w.heap.size + 1) ((w.alloc (.cells #[.int .u64 0, .int .i64 0, .int .i64 0, .int .i64 0, .int .i64 0, .bool false, .slice none 0 0] 25)).alloc (.cells #[.int .u64 0, .int .i64 0, .int .i64 0, .int .i64 0, .int .i64 0, .bool false, .slice none 0 0] 25)) ((w.alloc (.cells #[.int .u64 0, .int .i64 0, .int .i64 0, .int .i64 0, .int .i64 0, .bool false, .slice none 0 0] 25)).alloc (.cells #[.int .u64 0, .int .i64 0, .int .i64 0, .int .i64 0, .int .i64 0, .bool false, .slice none 0 0] 25))) := Two.refl _ _ _
  have HLW : Hid (w.heap.size + 2 ≤ ((w.alloc (.cells #[.int .u64 0, .int .i64 0, .int .i64 0, .int .i64 0, .int .i64 0, .bool false, .slice none 0 0] 25)).alloc (.cells #[.int .u64 0, .int .i64 0, .int .i64 0, .int .i64 0, .int .i64 0, .bool false, .slice none 0 0] 25)).heap.size) := by unfold Hid; simp
  obtain ⟨l1, hl1⟩ : ∃ l', nx l0 = l' := ⟨_, rfl⟩
  have hn1 : l1.length < 4294967281 := by have := nx_le l0; rw [hl1] at this; omega
  have HL0 : Hid (nx l0 = l1) := hl1
  have HO0 : Hid (flr l0 = none) := by have h8 := h0; exact h8
  clear hR ht hv h0 hl1
  go_enter Tryd.func29, Tryd.ntmps29
  go_wp2_with (first
    | (go_at_call 37; have zz := HR0; clear zz; refine (floor_any q k (w.heap.size + 1) 0 l0 _ _ _ HR0.out (by omega) (by omega) HB0.out (by simp) (p10_two HP.out HX0.out hq9 hrb9) (HV.out.two HX0.out hq9 hrb9) hrb9 hq9 hrbq).mono ?_; rintro e t1 ⟨v0, he1, hcs, hb, hr, tw⟩
       have he2 : e = .returned (.bool false) := he1.trans (by rw [show flr l0 = _ from HO0.out]; rfl)
       clear he1
       subst he2
       have HB1 : Hid (t1.heap[w.heap.size + 1]? = some (.cells #[.int .u64 v0, .int .i64 0, .int .i64 0, .int .i64 0, .int .i64 0, .bool false, .slice none 0 0] 25 (0, 0))) := hb
       have HR1 : Hid (RdA t1 q l1 (k + 1)) := by unfold Hid; rw [← HL0.out]; exact hr
       have HX1 : Hid (Two q (w.heap.size + 1) ((w.alloc (.cells #[.int .u64 0, .int .i64 0, .int .i64 0, .int .i64 0, .int .i64 0, .bool false, .slice none 0 0] 25)).alloc (.cells #[.int .u64 0, .int .i64 0, .int .i64 0, .int .i64 0, .int .i64 0, .bool false, .slice none 0 0] 25)) t1) := HX0.out.trans tw
       clear hb hr tw hcs
       have HA : Hid (t1.heap[w.heap.size]? = some (.cells #[.int .u64 0, .int .i64 0, .int .i64 0, .int .i64 0, .int .i64 0, .bool false, .slice none 0 0] 25 (0, 0))) := (HX1.out.block _ (Array.getElem?_eq_some_iff.1 HA0.out).1 (by omega) (by omega)).trans HA0.out
       obtain ⟨e0, e1, e2, e3, e4, e5, e6⟩ := cells7 HB1.out
       obtain ⟨r0, r1, r2, r3, r4, r5, r6⟩ := cells7 HA.out
       have rf := frozen7 HA.out
       have rf0 := rf 0
       have rf1 := rf 1
       have rf2 := rf 2
       have rf3 := rf 3
       have rf4 := rf 4
       have rf5 := rf 5
       have rf6 := rf 6
       clear rf))
  go_loopw [5] (fun s5 wr => s5 = .bool false ∧ wr = t1) (fun _ _ => 0)
  case atStart => exact ⟨rfl, rfl⟩
  case round =>
  obtain ⟨rfl, rfl⟩ := hrel
  go_wp2_with fail
  exact bodyPost_ret (v := .tuple #[.agg #[.int .u64 v0, .int .i64 0, .int .i64 0, .int .i64 0, .int .i64 0, .bool false, .slice none 0 0], .bool false]) (by obtain ⟨z0, z1, z2, z3, z4, z5, z6⟩ := cells7 (blk7_set HA.out (.int .u64 v0) (.int .i64 0) (.int .i64 0) (.int .i64 0) (.int .i64 0) (.bool false) (.slice none 0 0)); simp [results, Tryd.results29, go_sem, z0, z1, z2, z3, z4, z5, z6]) rfl ⟨v0, 0, 0, 0, 0, false, none, 0, 0, by rw [HF.out]; rfl, fun r hr => (by rw [HF.out] at hr; cases hr), ⟨l1, by rw [HF.out]; exact rda_grown HR1.out (grown7 _ _ _ _ _ _ _ _ _) (fun h => hraq h.symm)⟩, ((Two.of HBL.out).past HX1.out (by omega)).grow (grown7 _ _ _ _ _ _ _ _ _) (fun i hi => by cases hi; exact Nat.le_refl _)⟩

set_option maxHeartbeats 4000000 in
set_option maxRecDepth 100000 in
theorem rep_bad1 (q k : Nat) (l0 : List UInt8) (w : World) (hR : RdA w q l0 k) (hn0 : l0.length < 4294967281) (hk : k ≤ 100000000000) (ht : P10 w) (hv : EV w) (hq9 : 9 ≤ q) (y0 : Nat) (h0 : flr l0 = some y0) (h1 : nb (nx l0) wC = none) :
    Calls Tryd.prog 29 #[.pointer (some ⟨q, 0, none⟩)] w fun e w' => RepR q k w w' e (rp l0) := by
  have HF : Hid (rp l0 = (none, 2)) := by unfold Hid rp; simp only [h0, h1]
  have hqw : q < w.heap.size := (Array.getElem?_eq_some_iff.1 hR).1
  have hrb9 : 9 ≤ w.heap.size + 1 := by omega
  have hrbq : w.heap.size + 1 ≠ q := by omega
  have hraq : w.heap.size ≠ q := by omega
  have HBL : Hid (Below w.heap.size w ((w.alloc (.cells #[.int .u64 0, .int .i64 0, .int .i64 0, .int .i64 0, .int .i64 0, .bool false, .slice none 0 0] 25)).alloc (.cells #[.int .u64 0, .int .i64 0, .int .i64 0, .int .i64 0, .int .i64 0, .bool false, .slice none 0 0] 25))) := below_trans (below_alloc' w _) (below_alloc' _ _)
  have HR0 : Hid (RdA ((w.alloc (.cells #[.int .u64 0, .int .i64 0, .int .i64 0, .int .i64 0, .int .i64 0, .bool false, .slice none 0 0] 25)).alloc (.cells #[.int .u64 0, .int .i64 0, .int .i64 0, .int .i64 0, .int .i64 0, .bool false, .slice none 0 0] 25)) q l0 k) := by unfold Hid RdA; rw [HBL.out.block q hqw]; exact hR
  have HP : Hid (P10 ((w.alloc (.cells #[.int .u64 0, .int .i64 0, .int .i64 0, .int .i64 0, .int .i64 0, .bool false, .slice none 0 0] 25)).alloc (.cells #[.int .u64 0, .int .i64 0, .int .i64 0, .int .i64 0, .int .i64 0, .bool false, .slice none 0 0] 25))) := p10_below ht HBL.out
  have HV : Hid (EV ((w.alloc (.cells #[.int .u64 0, .int .i64 0, .int .i64 0, .int .i64 0, .int .i64 0, .bool false, .slice none 0 0] 25)).alloc (.cells #[.int .u64 0, .int .i64 0, .int .i64 0, .int .i64 0, .int .i64 0, .bool false, .slice none 0 0] 25))) := by
    obtain ⟨⟨tp, p, s⟩, ⟨tp', p', r⟩⟩ := hv
    exact ⟨⟨tp, p, var_two (q := q) (t := q) gSyn s (Two.of HBL.out) (by omega) (by omega)⟩, ⟨tp', p', var_two (q := q) (t := q) gRan r (Two.of HBL.out) (by omega) (by omega)⟩⟩
  have HA0 : Hid (((w.alloc (.cells #[.int .u64 0, .int .i64 0, .int .i64 0, .int .i64 0, .int .i64 0, .bool false, .slice none 0 0] 25)).alloc (.cells #[.int .u64 0, .int .i64 0, .int .i64 0, .int .i64 0, .int .i64 0, .bool false, .slice none 0 0] 25)).heap[w.heap.size]? = some (.cells #[.int .u64 0, .int .i64 0, .int .i64 0, .int .i64 0, .int .i64 0, .bool false, .slice none 0 0] 25 (0, 0))) := (Below.heap_alloc _ _ _ (by simp)).trans (heap_alloc_new w _)
  have HB0 : Hid (((w.alloc (.cells #[.int .u64 0, .int .i64 0, .int .i64 0, .int .i64 0, .int .i64 0, .bool false, .slice none 0 0] 25)).alloc (.cells #[.int .u64 0, .int .i64 0, .int .i64 0, .int .i64 0, .int .i64 0, .bool false, .slice none 0 0] 25)).heap[w.heap.size + 1]? = some (.cells #[.int .u64 0, .int .i64 0, .int .i64 0, .int .i64 0, .int .i64 0, .bool false, .slice none 0 0] 25 (0, 0))) := by
    have h9 := heap_alloc_new (w.alloc (.cells #[.int .u64 0, .int .i64 0, .int .i64 0, .int .i64 0, .int .i64 0, .bool false, .slice none 0 0] 25)) (.cells #[.int .u64 0, .int .i64 0, .int .i64 0, .int .i64 0, .int .i64 0, .bool false, .slice none 0 0] 25)
    rw [World.size_alloc] at h9
    exact h9
  have HX0 : Hid (Two q (w.heap.size + 1) ((w.alloc (.cells #[.int .u64 0, .int .i64 0, .int .i64 0, .int .i64 0, .int .i64 0, .bool false, .slice none 0 0] 25)).alloc (.cells #[.int .u64 0, .int .i64 0, .int .i64 0, .int .i64 0, .int .i64 0, .bool false, .slice none 0 0] 25)) ((w.alloc (.cells #[.int .u64 0, .int .i64 0, .int .i64 0, .int .i64 0, .int .i64 0, .bool false, .slice none 0 0] 25)).alloc (.cells #[.int .u64 0, .int .i64 0, .int .i64 0, .int .i64 0, .int .i64 0, .bool false, .slice none 0 0] 25))) := Two.refl _ _ _
  have HLW : Hid (w.heap.size + 2 ≤ ((w.alloc (.cells #[.int .u64 0, .int .i64 0, .int .i64 0, .int .i64 0, .int .i64 0, .bool false, .slice none 0 0] 25)).alloc (.cells #[.int .u64 0, .int .i64 0, .int .i64 0, .int .i64 0, .int .i64 0, .bool false, .slice none 0 0] 25)).heap.size) := by unfold Hid; simp
  obtain ⟨l1, hl1⟩ : ∃ l', nx l0 = l' := ⟨_, rfl⟩
  have hn1 : l1.length < 4294967281 := by have := nx_le l0; rw [hl1] at this; omega
  have HL0 : Hid (nx l0 = l1) := hl1
  obtain ⟨l2, hl2⟩ : ∃ l', nx l1 = l' := ⟨_, rfl⟩
  have hn2 : l2.length < 4294967281 := by have := nx_le l1; rw [hl2] at this; omega
  have HL1 : Hid (nx l1 = l2) := hl2
  have HO0 : Hid (flr l0 = some y0) := by have h8 := h0; exact h8
  have HO1 : Hid (nb l1 wC = none) := by have h8 := h1; rw [hl1] at h8; exact h8
  clear hR ht hv h0 h1 hl1 hl2
  go_enter Tryd.func29, Tryd.ntmps29
  go_wp2_with (first
    | (go_at_call 38; have zz := HR1; clear zz; refine (number_any q (k + 1) (w.heap.size + 1) 1 l1 [99, 111, 117, 110, 116, 101, 100] _ _ _ HR1.out (by omega) (by omega) HB1.out (by simp) 0 rfl (p10_two HP.out HX1.out hq9 hrb9) (HV.out.two HX1.out hq9 hrb9) hrb9 hq9 hrbq).mono ?_; rintro e t2 ⟨v1, he1, hcs, hb, hr, tw⟩
       have he2 : e = .returned (.bool false) := he1.trans (by rw [show nb l1 [99, 111, 117, 110, 116, 101, 100] = _ from HO1.out]; rfl)
       clear he1
       subst he2
       have HB2 : Hid (t2.heap[w.heap.size + 1]? = some (.cells #[.int .u64 (y0 : Int), .int .i64 v1, .int .i64 0, .int .i64 0, .int .i64 0, .bool false, .slice none 0 0] 25 (0, 0))) := hb
       have HR2 : Hid (RdA t2 q l2 (k + 2)) := by unfold Hid; rw [← HL1.out]; exact hr
       have HX2 : Hid (Two q (w.heap.size + 1) ((w.alloc (.cells #[.int .u64 0, .int .i64 0, .int .i64 0, .int .i64 0, .int .i64 0, .bool false, .slice none 0 0] 25)).alloc (.cells #[.int .u64 0, .int .i64 0, .int .i64 0, .int .i64 0, .int .i64 0, .bool false, .slice none 0 0] 25)) t2) := HX1.out.trans tw
       clear hb hr tw hcs
       have HA : Hid (t2.heap[w.heap.size]? = some (.cells #[.int .u64 0, .int .i64 0, .int .i64 0, .int .i64 0, .int .i64 0, .bool false, .slice none 0 0] 25 (0, 0))) := (HX2.out.block _ (Array.getElem?_eq_some_iff.1 HA0.out).1 (by omega) (by omega)).trans HA0.out
       obtain ⟨e0, e1, e2, e3, e4, e5, e6⟩ := cells7 HB2.out
       obtain ⟨r0, r1, r2, r3, r4, r5, r6⟩ := cells7 HA.out
       have rf := frozen7 HA.out
       have rf0 := rf 0
       have rf1 := rf 1
       have rf2 := rf 2
       have rf3 := rf 3
       have rf4 := rf 4
       have rf5 := rf 5
       have rf6 := rf 6
       clear rf)
    | (go_at_call 37; have zz := HR0; clear zz; refine (floor_any q k (w.heap.size + 1) 0 l0 _ _ _ HR0.out (by omega) (by omega) HB0.out (by simp) (p10_two HP.out HX0.out hq9 hrb9) (HV.out.two HX0.out hq9 hrb9) hrb9 hq9 hrbq).mono ?_; rintro e t1 ⟨v0, he1, hcs, hb, hr, tw⟩
       have he2 : e = .returned (.bool true) := he1.trans (by rw [show flr l0 = _ from HO0.out]; rfl)
       clear he1
       subst he2
       rw [hcs _ HO0.out] at hb
       clear hcs
       have HB1 : Hid (t1.heap[w.heap.size + 1]? = some (.cells #[.int .u64 (y0 : Int), .int .i64 0, .int .i64 0, .int .i64 0, .int .i64 0, .bool false, .slice none 0 0] 25 (0, 0))) := hb
       have HR1 : Hid (RdA t1 q l1 (k + 1)) := by unfold Hid; rw [← HL0.out]; exact hr
       have HX1 : Hid (Two q (w.heap.size + 1) ((w.alloc (.cells #[.int .u64 0, .int .i64 0, .int .i64 0, .int .i64 0, .int .i64 0, .bool false, .slice none 0 0] 25)).alloc (.cells #[.int .u64 0, .int .i64 0, .int .i64 0, .int .i64 0, .int .i64 0, .bool false, .slice none 0 0] 25)) t1) := HX0.out.trans tw
       clear hb hr tw))
  go_loopw [5] (fun s5 wr => s5 = .bool false ∧ wr = t2) (fun _ _ => 0)
  case atStart => exact ⟨rfl, rfl⟩
  case round =>
  obtain ⟨rfl, rfl⟩ := hrel
  go_wp2_with fail
  exact bodyPost_ret (v := .tuple #[.agg #[.int .u64 (y0 : Int), .int .i64 v1, .int .i64 0, .int .i64 0, .int .i64 0, .bool false, .slice none 0 0], .bool false]) (by obtain ⟨z0, z1, z2, z3, z4, z5, z6⟩ := cells7 (blk7_set HA.out (.int .u64 (y0 : Int)) (.int .i64 v1) (.int .i64 0) (.int .i64 0) (.int .i64 0) (.bool false) (.slice none 0 0)); simp [results, Tryd.results29, go_sem, z0, z1, z2, z3, z4, z5, z6]) rfl ⟨(y0 : Int), v1, 0, 0, 0, false, none, 0, 0, by rw [HF.out]; rfl, fun r hr => (by rw [HF.out] at hr; cases hr), ⟨l2, by rw [HF.out]; exact rda_grown HR2.out (grown7 _ _ _ _ _ _ _ _ _) (fun h => hraq h.symm)⟩, ((Two.of HBL.out).past HX2.out (by omega)).grow (grown7 _ _ _ _ _ _ _ _ _) (fun i hi => by cases hi; exact Nat.le_refl _)⟩

set_option maxHeartbeats 4000000 in
set_option maxRecDepth 100000 in
theorem rep_bad2 (q k : Nat) (l0 : List UInt8) (w : World) (hR : RdA w q l0 k) (hn0 : l0.length < 4294967281) (hk : k ≤ 100000000000) (ht : P10 w) (hv : EV w) (hq9 : 9 ≤ q) (y0 : Nat) (h0 : flr l0 = some y0) (y1 : Int) (h1 : nb (nx l0) wC = some y1) (h2 : nb (nx (nx l0)) wL = none) :
    Calls Tryd.prog 29 #[.pointer (some ⟨q, 0, none⟩)] w fun e w' => RepR q k w w' e (rp l0) := by
  have HF : Hid (rp l0 = (none, 3)) := by unfold Hid rp; simp only [h0, h1, h2]
  have hqw : q < w.heap.size := (Array.getElem?_eq_some_iff.1 hR).1
  have hrb9 : 9 ≤ w.heap.size + 1 := by omega
  have hrbq : w.heap.size + 1 ≠ q := by omega
  have hraq : w.heap.size ≠ q := by omega
  have HBL : Hid (Below w.heap.size w ((w.alloc (.cells #[.int .u64 0, .int .i64 0, .int .i64 0, .int .i64 0, .int .i64 0, .bool false, .slice none 0 0] 25)).alloc (.cells #[.int .u64 0, .int .i64 0, .int .i64 0, .int .i64 0, .int .i64 0, .bool false, .slice none 0 0] 25))) := below_trans (below_alloc' w _) (below_alloc' _ _)
  have HR0 : Hid (RdA ((w.alloc (.cells #[.int .u64 0, .int .i64 0, .int .i64 0, .int .i64 0, .int .i64 0, .bool false, .slice none 0 0] 25)).alloc (.cells #[.int .u64 0, .int .i64 0, .int .i64 0, .int .i64 0, .int .i64 0, .bool false, .slice none 0 0] 25)) q l0 k) := by unfold Hid RdA; rw [HBL.out.block q hqw]; exact hR
  have HP : Hid (P10 ((w.alloc (.cells #[.int .u64 0, .int .i64 0, .int .i64 0, .int .i64 0, .int .i64 0, .bool false, .slice none 0 0] 25)).alloc (.cells #[.int .u64 0, .int .i64 0, .int .i64 0, .int .i64 0, .int .i64 0, .bool false, .slice none 0 0] 25))) := p10_below ht HBL.out
  have HV : Hid (EV ((w.alloc (.cells #[.int .u64 0, .int .i64 0, .int .i64 0, .int .i64 0, .int .i64 0, .bool false, .slice none 0 0] 25)).alloc (.cells #[.int .u64 0, .int .i64 0, .int .i64 0, .int .i64 0, .int .i64 0, .bool false, .slice none 0 0] 25))) := by
    obtain ⟨⟨tp, p, s⟩, ⟨tp', p', r⟩⟩ := hv
    exact ⟨⟨tp, p, var_two (q := q) (t := q) gSyn s (Two.of HBL.out) (by omega) (by omega)⟩, ⟨tp', p', var_two (q := q) (t := q) gRan r (Two.of HBL.out) (by omega) (by omega)⟩⟩
  have HA0 : Hid (((w.alloc (.cells #[.int .u64 0, .int .i64 0, .int .i64 0, .int .i64 0, .int .i64 0, .bool false, .slice none 0 0] 25)).alloc (.cells #[.int .u64 0, .int .i64 0, .int .i64 0, .int .i64 0, .int .i64 0, .bool false, .slice none 0 0] 25)).heap[w.heap.size]? = some (.cells #[.int .u64 0, .int .i64 0, .int .i64 0, .int .i64 0, .int .i64 0, .bool false, .slice none 0 0] 25 (0, 0))) := (Below.heap_alloc _ _ _ (by simp)).trans (heap_alloc_new w _)
  have HB0 : Hid (((w.alloc (.cells #[.int .u64 0, .int .i64 0, .int .i64 0, .int .i64 0, .int .i64 0, .bool false, .slice none 0 0] 25)).alloc (.cells #[.int .u64 0, .int .i64 0, .int .i64 0, .int .i64 0, .int .i64 0, .bool false, .slice none 0 0] 25)).heap[w.heap.size + 1]? = some (.cells #[.int .u64 0, .int .i64 0, .int .i64 0, .int .i64 0, .int .i64 0, .bool false, .slice none 0 0] 25 (0, 0))) := by
    have h9 := heap_alloc_new (w.alloc (.cells #[.int .u64 0, .int .i64 0, .int .i64 0, .int .i64 0, .int .i64 0, .bool false, .slice none 0 0] 25)) (.cells #[.int .u64 0, .int .i64 0, .int .i64 0, .int .i64 0, .int .i64 0, .bool false, .slice none 0 0] 25)
    rw [World.size_alloc] at h9
    exact h9
  have HX0 : Hid (Two q (w.heap.size + 1) ((w.alloc (.cells #[.int .u64 0, .int .i64 0, .int .i64 0, .int .i64 0, .int .i64 0, .bool false, .slice none 0 0] 25)).alloc (.cells #[.int .u64 0, .int .i64 0, .int .i64 0, .int .i64 0, .int .i64 0, .bool false, .slice none 0 0] 25)) ((w.alloc (.cells #[.int .u64 0, .int .i64 0, .int .i64 0, .int .i64 0, .int .i64 0, .bool false, .slice none 0 0] 25)).alloc (.cells #[.int .u64 0, .int .i64 0, .int .i64 0, .int .i64 0, .int .i64 0, .bool false, .slice none 0 0] 25))) := Two.refl _ _ _
  have HLW : Hid (w.heap.size + 2 ≤ ((w.alloc (.cells #[.int .u64 0, .int .i64 0, .int .i64 0, .int .i64 0, .int .i64 0, .bool false, .slice none 0 0] 25)).alloc (.cells #[.int .u64 0, .int .i64 0, .int .i64 0, .int .i64 0, .int .i64 0, .bool false, .slice none 0 0] 25)).heap.size) := by unfold Hid; simp
  obtain ⟨l1, hl1⟩ : ∃ l', nx l0 = l' := ⟨_, rfl⟩
  have hn1 : l1.length < 4294967281 := by have := nx_le l0; rw [hl1] at this; omega
  have HL0 : Hid (nx l0 = l1) := hl1
  obtain ⟨l2, hl2⟩ : ∃ l', nx l1 = l' := ⟨_, rfl⟩
  have hn2 : l2.length < 4294967281 := by have := nx_le l1; rw [hl2] at this; omega
  have HL1 : Hid (nx l1 = l2) := hl2
  obtain ⟨l3, hl3⟩ : ∃ l', nx l2 = l' := ⟨_, rfl⟩
  have hn3 : l3.length < 4294967281 := by have := nx_le l2; rw [hl3] at this; omega
  have HL2 : Hid (nx l2 = l3) := hl3
  have HO0 : Hid (flr l0 = some y0) := by have h8 := h0; exact h8
  have HO1 : Hid (nb l1 wC = some y1) := by have h8 := h1; rw [hl1] at h8; exact h8
  have HO2 : Hid (nb l2 wL = none) := by have h8 := h2; rw [hl1, hl2] at h8; exact h8
  clear hR ht hv h0 h1 h2 hl1 hl2 hl3
  go_enter Tryd.func29, Tryd.ntmps29
  go_wp2_with (first
    | (go_at_call 38; have zz := HR2; clear zz; refine (number_any q (k + 2) (w.heap.size + 1) 2 l2 [108, 105, 118, 101] _ _ _ HR2.out (by omega) (by omega) HB2.out (by simp) 0 rfl (p10_two HP.out HX2.out hq9 hrb9) (HV.out.two HX2.out hq9 hrb9) hrb9 hq9 hrbq).mono ?_; rintro e t3 ⟨v2, he1, hcs, hb, hr, tw⟩
       have he2 : e = .returned (.bool false) := he1.trans (by rw [show nb l2 [108, 105, 118, 101] = _ from HO2.out]; rfl)
       clear he1
       subst he2
       have HB3 : Hid (t3.heap[w.heap.size + 1]? = some (.cells #[.int .u64 (y0 : Int), .int .i64 y1, .int .i64 v2, .int .i64 0, .int .i64 0, .bool false, .slice none 0 0] 25 (0, 0))) := hb
       have HR3 : Hid (RdA t3 q l3 (k + 3)) := by unfold Hid; rw [← HL2.out]; exact hr
       have HX3 : Hid (Two q (w.heap.size + 1) ((w.alloc (.cells #[.int .u64 0, .int .i64 0, .int .i64 0, .int .i64 0, .int .i64 0, .bool false, .slice none 0 0] 25)).alloc (.cells #[.int .u64 0, .int .i64 0, .int .i64 0, .int .i64 0, .int .i64 0, .bool false, .slice none 0 0] 25)) t3) := HX2.out.trans tw
       clear hb hr tw hcs
       have HA : Hid (t3.heap[w.heap.size]? = some (.cells #[.int .u64 0, .int .i64 0, .int .i64 0, .int .i64 0, .int .i64 0, .bool false, .slice none 0 0] 25 (0, 0))) := (HX3.out.block _ (Array.getElem?_eq_some_iff.1 HA0.out).1 (by omega) (by omega)).trans HA0.out
       obtain ⟨e0, e1, e2, e3, e4, e5, e6⟩ := cells7 HB3.out
       obtain ⟨r0, r1, r2, r3, r4, r5, r6⟩ := cells7 HA.out
       have rf := frozen7 HA.out
       have rf0 := rf 0
       have rf1 := rf 1
       have rf2 := rf 2
       have rf3 := rf 3
       have rf4 := rf 4
       have rf5 := rf 5
       have rf6 := rf 6
       clear rf)
    | (go_at_call 38; have zz := HR1; clear zz; refine (number_any q (k + 1) (w.heap.size + 1) 1 l1 [99, 111, 117, 110, 116, 101, 100] _ _ _ HR1.out (by omega) (by omega) HB1.out (by simp) 0 rfl (p10_two HP.out HX1.out hq9 hrb9) (HV.out.two HX1.out hq9 hrb9) hrb9 hq9 hrbq).mono ?_; rintro e t2 ⟨v1, he1, hcs, hb, hr, tw⟩
       have he2 : e = .returned (.bool true) := he1.trans (by rw [show nb l1 [99, 111, 117, 110, 116, 101, 100] = _ from HO1.out]; rfl)
       clear he1
       subst he2
       rw [hcs _ HO1.out] at hb
       clear hcs
       have HB2 : Hid (t2.heap[w.heap.size + 1]? = some (.cells #[.int .u64 (y0 : Int), .int .i64 y1, .int .i64 0, .int .i64 0, .int .i64 0, .bool false, .slice none 0 0] 25 (0, 0))) := hb
       have HR2 : Hid (RdA t2 q l2 (k + 2)) := by unfold Hid; rw [← HL1.out]; exact hr
       have HX2 : Hid (Two q (w.heap.size + 1) ((w.alloc (.cells #[.int .u64 0, .int .i64 0, .int .i64 0, .int .i64 0, .int .i64 0, .bool false, .slice none 0 0] 25)).alloc (.cells #[.int .u64 0, .int .i64 0, .int .i64 0, .int .i64 0, .int .i64 0, .bool false, .slice none 0 0] 25)) t2) := HX1.out.trans tw
       clear hb hr tw)
    | (go_at_call 37; have zz := HR0; clear zz; refine (floor_any q k (w.heap.size + 1) 0 l0 _ _ _ HR0.out (by omega) (by omega) HB0.out (by simp) (p10_two HP.out HX0.out hq9 hrb9) (HV.out.two HX0.out hq9 hrb9) hrb9 hq9 hrbq).mono ?_; rintro e t1 ⟨v0, he1, hcs, hb, hr, tw⟩
       have he2 : e = .returned (.bool true) := he1.trans (by rw [show flr l0 = _ from HO0.out]; rfl)
       clear he1
       subst he2
       rw [hcs _ HO0.out] at hb
       clear hcs
       have HB1 : Hid (t1.heap[w.heap.size + 1]? = some (.cells #[.int .u64 (y0 : Int), .int .i64 0, .int .i64 0, .int .i64 0, .int .i64 0, .bool false, .slice none 0 0] 25 (0, 0))) := hb
       have HR1 : Hid (RdA t1 q l1 (k + 1)) := by unfold Hid; rw [← HL0.out]; exact hr
       have HX1 : Hid (Two q (w.heap.size + 1) ((w.alloc (.cells #[.int .u64 0, .int .i64 0, .int .i64 0, .int .i64 0, .int .i64 0, .bool false, .slice none 0 0] 25)).alloc (.cells #[.int .u64 0, .int .i64 0, .int .i64 0, .int .i64 0, .int .i64 0, .bool false, .slice none 0 0] 25)) t1) := HX0.out.trans tw
       clear hb hr tw))
  go_loopw [5] (fun s5 wr => s5 = .bool false ∧ wr = t3) (fun _ _ => 0)
  case atStart => exact ⟨rfl, rfl⟩
  case round =>
  obtain ⟨rfl, rfl⟩ := hrel
  go_wp2_with fail
  exact bodyPost_ret (v := .tuple #[.agg #[.int .u64 (y0 : Int), .int .i64 y1, .int .i64 v2, .int .i64 0, .int .i64 0, .bool false, .slice none 0 0], .bool false]) (by obtain ⟨z0, z1, z2, z3, z4, z5, z6⟩ := cells7 (blk7_set HA.out (.int .u64 (y0 : Int)) (.int .i64 y1) (.int .i64 v2) (.int .i64 0) (.int .i64 0) (.bool false) (.slice none 0 0)); simp [results, Tryd.results29, go_sem, z0, z1, z2, z3, z4, z5, z6]) rfl ⟨(y0 : Int), y1, v2, 0, 0, false, none, 0, 0, by rw [HF.out]; rfl, fun r hr => (by rw [HF.out] at hr; cases hr), ⟨l3, by rw [HF.out]; exact rda_grown HR3.out (grown7 _ _ _ _ _ _ _ _ _) (fun h => hraq h.symm)⟩, ((Two.of HBL.out).past HX3.out (by omega)).grow (grown7 _ _ _ _ _ _ _ _ _) (fun i hi => by cases hi; exact Nat.le_refl _)⟩

set_option maxHeartbeats 4000000 in
set_option maxRecDepth 100000 in
theorem rep_bad3 (q k : Nat) (l0 : List UInt8) (w : World) (hR : RdA w q l0 k) (hn0 : l0.length < 4294967281) (hk : k ≤ 100000000000) (ht : P10 w) (hv : EV w) (hq9 : 9 ≤ q) (y0 : Nat) (h0 : flr l0 = some y0) (y1 : Int) (h1 : nb (nx l0) wC = some y1) (y2 : Int) (h2 : nb (nx (nx l0)) wL = some y2) (h3 : nb (nx (nx (nx l0))) wU = none) :
    Calls Tryd.prog 29 #[.pointer (some ⟨q, 0, none⟩)] w fun e w' => RepR q k w w' e (rp l0) := by
  have HF : Hid (rp l0 = (none, 4)) := by unfold Hid rp; simp only [h0, h1, h2, h3]
  have hqw : q < w.heap.size := (Array.getElem?_eq_some_iff.1 hR).1
  have hrb9 : 9 ≤ w.heap.size + 1 := by omega
  have hrbq : w.heap.size + 1 ≠ q := by omega
  have hraq : w.heap.size ≠ q := by omega
  have HBL : Hid (Below w.heap.size w ((w.alloc (.cells #[.int .u64 0, .int .i64 0, .int .i64 0, .int .i64 0, .int .i64 0, .bool false, .slice none 0 0] 25)).alloc (.cells #[.int .u64 0, .int .i64 0, .int .i64 0, .int .i64 0, .int .i64 0, .bool false, .slice none 0 0] 25))) := below_trans (below_alloc' w _) (below_alloc' _ _)
  have HR0 : Hid (RdA ((w.alloc (.cells #[.int .u64 0, .int .i64 0, .int .i64 0, .int .i64 0, .int .i64 0, .bool false, .slice none 0 0] 25)).alloc (.cells #[.int .u64 0, .int .i64 0, .int .i64 0, .int .i64 0, .int .i64 0, .bool false, .slice none 0 0] 25)) q l0 k) := by unfold Hid RdA; rw [HBL.out.block q hqw]; exact hR
  have HP : Hid (P10 ((w.alloc (.cells #[.int .u64 0, .int .i64 0, .int .i64 0, .int .i64 0, .int .i64 0, .bool false, .slice none 0 0] 25)).alloc (.cells #[.int .u64 0, .int .i64 0, .int .i64 0, .int .i64 0, .int .i64 0, .bool false, .slice none 0 0] 25))) := p10_below ht HBL.out
  have HV : Hid (EV ((w.alloc (.cells #[.int .u64 0, .int .i64 0, .int .i64 0, .int .i64 0, .int .i64 0, .bool false, .slice none 0 0] 25)).alloc (.cells #[.int .u64 0, .int .i64 0, .int .i64 0, .int .i64 0, .int .i64 0, .bool false, .slice none 0 0] 25))) := by
    obtain ⟨⟨tp, p, s⟩, ⟨tp', p', r⟩⟩ := hv
    exact ⟨⟨tp, p, var_two (q := q) (t := q) gSyn s (Two.of HBL.out) (by omega) (by omega)⟩, ⟨tp', p', var_two (q := q) (t := q) gRan r (Two.of HBL.out) (by omega) (by omega)⟩⟩
  have HA0 : Hid (((w.alloc (.cells #[.int .u64 0, .int .i64 0, .int .i64 0, .int .i64 0, .int .i64 0, .bool false, .slice none 0 0] 25)).alloc (.cells #[.int .u64 0, .int .i64 0, .int .i64 0, .int .i64 0, .int .i64 0, .bool false, .slice none 0 0] 25)).heap[w.heap.size]? = some (.cells #[.int .u64 0, .int .i64 0, .int .i64 0, .int .i64 0, .int .i64 0, .bool false, .slice none 0 0] 25 (0, 0))) := (Below.heap_alloc _ _ _ (by simp)).trans (heap_alloc_new w _)
  have HB0 : Hid (((w.alloc (.cells #[.int .u64 0, .int .i64 0, .int .i64 0, .int .i64 0, .int .i64 0, .bool false, .slice none 0 0] 25)).alloc (.cells #[.int .u64 0, .int .i64 0, .int .i64 0, .int .i64 0, .int .i64 0, .bool false, .slice none 0 0] 25)).heap[w.heap.size + 1]? = some (.cells #[.int .u64 0, .int .i64 0, .int .i64 0, .int .i64 0, .int .i64 0, .bool false, .slice none 0 0] 25 (0, 0))) := by
    have h9 := heap_alloc_new (w.alloc (.cells #[.int .u64 0, .int .i64 0, .int .i64 0, .int .i64 0, .int .i64 0, .bool false, .slice none 0 0] 25)) (.cells #[.int .u64 0, .int .i64 0, .int .i64 0, .int .i64 0, .int .i64 0, .bool false, .slice none 0 0] 25)
    rw [World.size_alloc] at h9
    exact h9
  have HX0 : Hid (Two q (w.heap.size + 1) ((w.alloc (.cells #[.int .u64 0, .int .i64 0, .int .i64 0, .int .i64 0, .int .i64 0, .bool false, .slice none 0 0] 25)).alloc (.cells #[.int .u64 0, .int .i64 0, .int .i64 0, .int .i64 0, .int .i64 0, .bool false, .slice none 0 0] 25)) ((w.alloc (.cells #[.int .u64 0, .int .i64 0, .int .i64 0, .int .i64 0, .int .i64 0, .bool false, .slice none 0 0] 25)).alloc (.cells #[.int .u64 0, .int .i64 0, .int .i64 0, .int .i64 0, .int .i64 0, .bool false, .slice none 0 0] 25))) := Two.refl _ _ _
  have HLW : Hid (w.heap.size + 2 ≤ ((w.alloc (.cells #[.int .u64 0, .int .i64 0, .int .i64 0, .int .i64 0, .int .i64 0, .bool false, .slice none 0 0] 25)).alloc (.cells #[.int .u64 0, .int .i64 0, .int .i64 0, .int .i64 0, .int .i64 0, .bool false, .slice none 0 0] 25)).heap.size) := by unfold Hid; simp
  obtain ⟨l1, hl1⟩ : ∃ l', nx l0 = l' := ⟨_, rfl⟩
  have hn1 : l1.length < 4294967281 := by have := nx_le l0; rw [hl1] at this; omega
  have HL0 : Hid (nx l0 = l1) := hl1
  obtain ⟨l2, hl2⟩ : ∃ l', nx l1 = l' := ⟨_, rfl⟩
  have hn2 : l2.length < 4294967281 := by have := nx_le l1; rw [hl2] at this; omega
  have HL1 : Hid (nx l1 = l2) := hl2
  obtain ⟨l3, hl3⟩ : ∃ l', nx l2 = l' := ⟨_, rfl⟩
  have hn3 : l3.length < 4294967281 := by have := nx_le l2; rw [hl3] at this; omega
  have HL2 : Hid (nx l2 = l3) := hl3
  obtain ⟨l4, hl4⟩ : ∃ l', nx l3 = l' := ⟨_, rfl⟩
  have hn4 : l4.length < 4294967281 := by have := nx_le l3; rw [hl4] at this; omega
  have HL3 : Hid (nx l3 = l4) := hl4
  have HO0 : Hid (flr l0 = some y0) := by have h8 := h0; exact h8
  have HO1 : Hid (nb l1 wC = some y1) := by have h8 := h1; rw [hl1] at h8; exact h8
  have HO2 : Hid (nb l2 wL = some y2) := by have h8 := h2; rw [hl1, hl2] at h8; exact h8
  have HO3 : Hid (nb l3 wU = none) := by have h8 := h3; rw [hl1, hl2, hl3] at h8; exact h8
  clear hR ht hv h0 h1 h2 h3 hl1 hl2 hl3 hl4
  go_enter Tryd.func29, Tryd.ntmps29
  go_wp2_with (first
    | (go_at_call 38; have zz := HR3; clear zz; refine (number_any q (k + 3) (w.heap.size + 1) 3 l3 [117, 115, 101, 100] _ _ _ HR3.out (by omega) (by omega) HB3.out (by simp) 0 rfl (p10_two HP.out HX3.out hq9 hrb9) (HV.out.two HX3.out hq9 hrb9) hrb9 hq9 hrbq).mono ?_; rintro e t4 ⟨v3, he1, hcs, hb, hr, tw⟩
       have he2 : e = .returned (.bool false) := he1.trans (by rw [show nb l3 [117, 115, 101, 100] = _ from HO3.out]; rfl)
       clear he1
       subst he2
       have HB4 : Hid (t4.heap[w.heap.size + 1]? = some (.cells #[.int .u64 (y0 : Int), .int .i64 y1, .int .i64 y2, .int .i64 v3, .int .i64 0, .bool false, .slice none 0 0] 25 (0, 0))) := hb
       have HR4 : Hid (RdA t4 q l4 (k + 4)) := by unfold Hid; rw [← HL3.out]; exact hr
       have HX4 : Hid (Two q (w.heap.size + 1) ((w.alloc (.cells #[.int .u64 0, .int .i64 0, .int .i64 0, .int .i64 0, .int .i64 0, .bool false, .slice none 0 0] 25)).alloc (.cells #[.int .u64 0, .int .i64 0, .int .i64 0, .int .i64 0, .int .i64 0, .bool false, .slice none 0 0] 25)) t4) := HX3.out.trans tw
       clear hb hr tw hcs
       have HA : Hid (t4.heap[w.heap.size]? = some (.cells #[.int .u64 0, .int .i64 0, .int .i64 0, .int .i64 0, .int .i64 0, .bool false, .slice none 0 0] 25 (0, 0))) := (HX4.out.block _ (Array.getElem?_eq_some_iff.1 HA0.out).1 (by omega) (by omega)).trans HA0.out
       obtain ⟨e0, e1, e2, e3, e4, e5, e6⟩ := cells7 HB4.out
       obtain ⟨r0, r1, r2, r3, r4, r5, r6⟩ := cells7 HA.out
       have rf := frozen7 HA.out
       have rf0 := rf 0
       have rf1 := rf 1
       have rf2 := rf 2
       have rf3 := rf 3
       have rf4 := rf 4
       have rf5 := rf 5
       have rf6 := rf 6
       clear rf)
    | (go_at_call 38; have zz := HR2; clear zz; refine (number_any q (k + 2) (w.heap.size + 1) 2 l2 [108, 105, 118, 101] _ _ _ HR2.out (by omega) (by omega) HB2.out (by simp) 0 rfl (p10_two HP.out HX2.out hq9 hrb9) (HV.out.two HX2.out hq9 hrb9) hrb9 hq9 hrbq).mono ?_; rintro e t3 ⟨v2, he1, hcs, hb, hr, tw⟩
       have he2 : e = .returned (.bool true) := he1.trans (by rw [show nb l2 [108, 105, 118, 101] = _ from HO2.out]; rfl)
       clear he1
       subst he2
       rw [hcs _ HO2.out] at hb
       clear hcs
       have HB3 : Hid (t3.heap[w.heap.size + 1]? = some (.cells #[.int .u64 (y0 : Int), .int .i64 y1, .int .i64 y2, .int .i64 0, .int .i64 0, .bool false, .slice none 0 0] 25 (0, 0))) := hb
       have HR3 : Hid (RdA t3 q l3 (k + 3)) := by unfold Hid; rw [← HL2.out]; exact hr
       have HX3 : Hid (Two q (w.heap.size + 1) ((w.alloc (.cells #[.int .u64 0, .int .i64 0, .int .i64 0, .int .i64 0, .int .i64 0, .bool false, .slice none 0 0] 25)).alloc (.cells #[.int .u64 0, .int .i64 0, .int .i64 0, .int .i64 0, .int .i64 0, .bool false, .slice none 0 0] 25)) t3) := HX2.out.trans tw
       clear hb hr tw)
    | (go_at_call 38; have zz := HR1; clear zz; refine (number_any q (k + 1) (w.heap.size + 1) 1 l1 [99, 111, 117, 110, 116, 101, 100] _ _ _ HR1.out (by omega) (by omega) HB1.out (by simp) 0 rfl (p10_two HP.out HX1.out hq9 hrb9) (HV.out.two HX1.out hq9 hrb9) hrb9 hq9 hrbq).mono ?_; rintro e t2 ⟨v1, he1, hcs, hb, hr, tw⟩
       have he2 : e = .returned (.bool true) := he1.trans (by rw [show nb l1 [99, 111, 117, 110, 116, 101, 100] = _ from HO1.out]; rfl)
       clear he1
       subst he2
       rw [hcs _ HO1.out] at hb
       clear hcs
       have HB2 : Hid (t2.heap[w.heap.size + 1]? = some (.cells #[.int .u64 (y0 : Int), .int .i64 y1, .int .i64 0, .int .i64 0, .int .i64 0, .bool false, .slice none 0 0] 25 (0, 0))) := hb
       have HR2 : Hid (RdA t2 q l2 (k + 2)) := by unfold Hid; rw [← HL1.out]; exact hr
       have HX2 : Hid (Two q (w.heap.size + 1) ((w.alloc (.cells #[.int .u64 0, .int .i64 0, .int .i64 0, .int .i64 0, .int .i64 0, .bool false, .slice none 0 0] 25)).alloc (.cells #[.int .u64 0, .int .i64 0, .int .i64 0, .int .i64 0, .int .i64 0, .bool false, .slice none 0 0] 25)) t2) := HX1.out.trans tw
       clear hb hr tw)
    | (go_at_call 37; have zz := HR0; clear zz; refine (floor_any q k (w.heap.size + 1) 0 l0 _ _ _ HR0.out (by omega) (by omega) HB0.out (by simp) (p10_two HP.out HX0.out hq9 hrb9) (HV.out.two HX0.out hq9 hrb9) hrb9 hq9 hrbq).mono ?_; rintro e t1 ⟨v0, he1, hcs, hb, hr, tw⟩
       have he2 : e = .returned (.bool true) := he1.trans (by rw [show flr l0 = _ from HO0.out]; rfl)
       clear he1
       subst he2
       rw [hcs _ HO0.out] at hb
       clear hcs
       have HB1 : Hid (t1.heap[w.heap.size + 1]? = some (.cells #[.int .u64 (y0 : Int), .int .i64 0, .int .i64 0, .int .i64 0, .int .i64 0, .bool false, .slice none 0 0] 25 (0, 0))) := hb
       have HR1 : Hid (RdA t1 q l1 (k + 1)) := by unfold Hid; rw [← HL0.out]; exact hr
       have HX1 : Hid (Two q (w.heap.size + 1) ((w.alloc (.cells #[.int .u64 0, .int .i64 0, .int .i64 0, .int .i64 0, .int .i64 0, .bool false, .slice none 0 0] 25)).alloc (.cells #[.int .u64 0, .int .i64 0, .int .i64 0, .int .i64 0, .int .i64 0, .bool false, .slice none 0 0] 25)) t1) := HX0.out.trans tw
       clear hb hr tw))
  go_loopw [5] (fun s5 wr => s5 = .bool false ∧ wr = t4) (fun _ _ => 0)
  case atStart => exact ⟨rfl, rfl⟩
  case round =>
  obtain ⟨rfl, rfl⟩ := hrel
  go_wp2_with fail
  exact bodyPost_ret (v := .tuple #[.agg #[.int .u64 (y0 : Int), .int .i64 y1, .int .i64 y2, .int .i64 v3, .int .i64 0, .bool false, .slice none 0 0], .bool false]) (by obtain ⟨z0, z1, z2, z3, z4, z5, z6⟩ := cells7 (blk7_set HA.out (.int .u64 (y0 : Int)) (.int .i64 y1) (.int .i64 y2) (.int .i64 v3) (.int .i64 0) (.bool false) (.slice none 0 0)); simp [results, Tryd.results29, go_sem, z0, z1, z2, z3, z4, z5, z6]) rfl ⟨(y0 : Int), y1, y2, v3, 0, false, none, 0, 0, by rw [HF.out]; rfl, fun r hr => (by rw [HF.out] at hr; cases hr), ⟨l4, by rw [HF.out]; exact rda_grown HR4.out (grown7 _ _ _ _ _ _ _ _ _) (fun h => hraq h.symm)⟩, ((Two.of HBL.out).past HX4.out (by omega)).grow (grown7 _ _ _ _ _ _ _ _ _) (fun i hi => by cases hi; exact Nat.le_refl _)⟩

set_option maxHeartbeats 4000000 in
set_option maxRecDepth 100000 in
theorem rep_bad4 (q k : Nat) (l0 : List UInt8) (w : World) (hR : RdA w q l0 k) (hn0 : l0.length < 4294967281) (hk : k ≤ 100000000000) (ht : P10 w) (hv : EV w) (hq9 : 9 ≤ q) (y0 : Nat) (h0 : flr l0 = some y0) (y1 : Int) (h1 : nb (nx l0) wC = some y1) (y2 : Int) (h2 : nb (nx (nx l0)) wL = some y2) (y3 : Int) (h3 : nb (nx (nx (nx l0))) wU = some y3) (h4 : nb (nx (nx (nx (nx l0)))) wB = none) :
    Calls Tryd.prog 29 #[.pointer (some ⟨q, 0, none⟩)] w fun e w' => RepR q k w w' e (rp l0) := by
  have HF : Hid (rp l0 = (none, 5)) := by unfold Hid rp; simp only [h0, h1, h2, h3, h4]
  have hqw : q < w.heap.size := (Array.getElem?_eq_some_iff.1 hR).1
  have hrb9 : 9 ≤ w.heap.size + 1 := by omega
  have hrbq : w.heap.size + 1 ≠ q := by omega
  have hraq : w.heap.size ≠ q := by omega
  have HBL : Hid (Below w.heap.size w ((w.alloc (.cells #[.int .u64 0, .int .i64 0, .int .i64 0, .int .i64 0, .int .i64 0, .bool false, .slice none 0 0] 25)).alloc (.cells #[.int .u64 0, .int .i64 0, .int .i64 0, .int .i64 0, .int .i64 0, .bool false, .slice none 0 0] 25))) := below_trans (below_alloc' w _) (below_alloc' _ _)
  have HR0 : Hid (RdA ((w.alloc (.cells #[.int .u64 0, .int .i64 0, .int .i64 0, .int .i64 0, .int .i64 0, .bool false, .slice none 0 0] 25)).alloc (.cells #[.int .u64 0, .int .i64 0, .int .i64 0, .int .i64 0, .int .i64 0, .bool false, .slice none 0 0] 25)) q l0 k) := by unfold Hid RdA; rw [HBL.out.block q hqw]; exact hR
  have HP : Hid (P10 ((w.alloc (.cells #[.int .u64 0, .int .i64 0, .int .i64 0, .int .i64 0, .int .i64 0, .bool false, .slice none 0 0] 25)).alloc (.cells #[.int .u64 0, .int .i64 0, .int .i64 0, .int .i64 0, .int .i64 0, .bool false, .slice none 0 0] 25))) := p10_below ht HBL.out
  have HV : Hid (EV ((w.alloc (.cells #[.int .u64 0, .int .i64 0, .int .i64 0, .int .i64 0, .int .i64 0, .bool false, .slice none 0 0] 25)).alloc (.cells #[.int .u64 0, .int .i64 0, .int .i64 0, .int .i64 0, .int .i64 0, .bool false, .slice none 0 0] 25))) := by
    obtain ⟨⟨tp, p, s⟩, ⟨tp', p', r⟩⟩ := hv
    exact ⟨⟨tp, p, var_two (q := q) (t := q) gSyn s (Two.of HBL.out) (by omega) (by omega)⟩, ⟨tp', p', var_two (q := q) (t := q) gRan r (Two.of HBL.out) (by omega) (by omega)⟩⟩
  have HA0 : Hid (((w.alloc (.cells #[.int .u64 0, .int .i64 0, .int .i64 0, .int .i64 0, .int .i64 0, .bool false, .slice none 0 0] 25)).alloc (.cells #[.int .u64 0, .int .i64 0, .int .i64 0, .int .i64 0, .int .i64 0, .bool false, .slice none 0 0] 25)).heap[w.heap.size]? = some (.cells #[.int .u64 0, .int .i64 0, .int .i64 0, .int .i64 0, .int .i64 0, .bool false, .slice none 0 0] 25 (0, 0))) := (Below.heap_alloc _ _ _ (by simp)).trans (heap_alloc_new w _)
  have HB0 : Hid (((w.alloc (.cells #[.int .u64 0, .int .i64 0, .int .i64 0, .int .i64 0, .int .i64 0, .bool false, .slice none 0 0] 25)).alloc (.cells #[.int .u64 0, .int .i64 0, .int .i64 0, .int .i64 0, .int .i64 0, .bool false, .slice none 0 0] 25)).heap[w.heap.size + 1]? = some (.cells #[.int .u64 0, .int .i64 0, .int .i64 0, .int .i64 0, .int .i64 0, .bool false, .slice none 0 0] 25 (0, 0))) := by
    have h9 := heap_alloc_new (w.alloc (.cells #[.int .u64 0, .int .i64 0, .int .i64 0, .int .i64 0, .int .i64 0, .bool false, .slice none 0 0] 25)) (.cells #[.int .u64 0, .int .i64 0, .int .i64 0, .int .i64 0, .int .i64 0, .bool false, .slice none 0 0] 25)
    rw [World.size_alloc] at h9
    exact h9
  have HX0 : Hid (Two q (w.heap.size + 1) ((w.alloc (.cells #[.int .u64 0, .int .i64 0, .int .i64 0, .int .i64 0, .int .i64 0, .bool false, .slice none 0 0] 25)).alloc (.cells #[.int .u64 0, .int .i64 0, .int .i64 0, .int .i64 0, .int .i64 0, .bool false, .slice none 0 0] 25)) ((w.alloc (.cells #[.int .u64 0, .int .i64 0, .int .i64 0, .int .i64 0, .int .i64 0, .bool false, .slice none 0 0] 25)).alloc (.cells #[.int .u64 0, .int .i64 0, .int .i64 0, .int .i64 0, .int .i64 0, .bool false, .slice none 0 0] 25))) := Two.refl _ _ _
  have HLW : Hid (w.heap.size + 2 ≤ ((w.alloc (.cells #[.int .u64 0, .int .i64 0, .int .i64 0, .int .i64 0, .int .i64 0, .bool false, .slice none 0 0] 25)).alloc (.cells #[.int .u64 0, .int .i64 0, .int .i64 0, .int .i64 0, .int .i64 0, .bool false, .slice none 0 0] 25)).heap.size) := by unfold Hid; simp
  obtain ⟨l1, hl1⟩ : ∃ l', nx l0 = l' := ⟨_, rfl⟩
  have hn1 : l1.length < 4294967281 := by have := nx_le l0; rw [hl1] at this; omega
  have HL0 : Hid (nx l0 = l1) := hl1
  obtain ⟨l2, hl2⟩ : ∃ l', nx l1 = l' := ⟨_, rfl⟩
  have hn2 : l2.length < 4294967281 := by have := nx_le l1; rw [hl2] at this; omega
  have HL1 : Hid (nx l1 = l2) := hl2
  obtain ⟨l3, hl3⟩ : ∃ l', nx l2 = l' := ⟨_, rfl⟩
  have hn3 : l3.length < 4294967281 := by have := nx_le l2; rw [hl3] at this; omega
  have HL2 : Hid (nx l2 = l3) := hl3
  obtain ⟨l4, hl4⟩ : ∃ l', nx l3 = l' := ⟨_, rfl⟩
  have hn4 : l4.length < 4294967281 := by have := nx_le l3; rw [hl4] at this; omega
  have HL3 : Hid (nx l3 = l4) := hl4
  obtain ⟨l5, hl5⟩ : ∃ l', nx l4 = l' := ⟨_, rfl⟩
  have hn5 : l5.length < 4294967281 := by have := nx_le l4; rw [hl5] at this; omega
  have HL4 : Hid (nx l4 = l5) := hl5
  have HO0 : Hid (flr l0 = some y0) := by have h8 := h0; exact h8
  have HO1 : Hid (nb l1 wC = some y1) := by have h8 := h1; rw [hl1] at h8; exact h8
  have HO2 : Hid (nb l2 wL = some y2) := by have h8 := h2; rw [hl1, hl2] at h8; exact h8
  have HO3 : Hid (nb l3 wU = some y3) := by have h8 := h3; rw [hl1, hl2, hl3] at h8; exact h8
  have HO4 : Hid (nb l4 wB = none) := by have h8 := h4; rw [hl1, hl2, hl3, hl4] at h8; exact h8
  clear hR ht hv h0 h1 h2 h3 h4 hl1 hl2 hl3 hl4 hl5
  go_enter Tryd.func29, Tryd.ntmps29
  go_wp2_with (first
    | (go_at_call 38; have zz := HR4; clear zz; refine (number_any q (k + 4) (w.heap.size + 1) 4 l4 [98, 97, 100] _ _ _ HR4.out (by omega) (by omega) HB4.out (by simp) 0 rfl (p10_two HP.out HX4.out hq9 hrb9) (HV.out.two HX4.out hq9 hrb9) hrb9 hq9 hrbq).mono ?_; rintro e t5 ⟨v4, he1, hcs, hb, hr, tw⟩
       have he2 : e = .returned (.bool false) := he1.trans (by rw [show nb l4 [98, 97, 100] = _ from HO4.out]; rfl)
       clear he1
       subst he2
       have HB5 : Hid (t5.heap[w.heap.size + 1]? = some (.cells #[.int .u64 (y0 : Int), .int .i64 y1, .int .i64 y2, .int .i64 y3, .int .i64 v4, .bool false, .slice none 0 0] 25 (0, 0))) := hb
       have HR5 : Hid (RdA t5 q l5 (k + 5)) := by unfold Hid; rw [← HL4.out]; exact hr
       have HX5 : Hid (Two q (w.heap.size + 1) ((w.alloc (.cells #[.int .u64 0, .int .i64 0, .int .i64 0, .int .i64 0, .int .i64 0, .bool false, .slice none 0 0] 25)).alloc (.cells #[.int .u64 0, .int .i64 0, .int .i64 0, .int .i64 0, .int .i64 0, .bool false, .slice none 0 0] 25)) t5) := HX4.out.trans tw
       clear hb hr tw hcs
       have HA : Hid (t5.heap[w.heap.size]? = some (.cells #[.int .u64 0, .int .i64 0, .int .i64 0, .int .i64 0, .int .i64 0, .bool false, .slice none 0 0] 25 (0, 0))) := (HX5.out.block _ (Array.getElem?_eq_some_iff.1 HA0.out).1 (by omega) (by omega)).trans HA0.out
       obtain ⟨e0, e1, e2, e3, e4, e5, e6⟩ := cells7 HB5.out
       obtain ⟨r0, r1, r2, r3, r4, r5, r6⟩ := cells7 HA.out
       have rf := frozen7 HA.out
       have rf0 := rf 0
       have rf1 := rf 1
       have rf2 := rf 2
       have rf3 := rf 3
       have rf4 := rf 4
       have rf5 := rf 5
       have rf6 := rf 6
       clear rf)
    | (go_at_call 38; have zz := HR3; clear zz; refine (number_any q (k + 3) (w.heap.size + 1) 3 l3 [117, 115, 101, 100] _ _ _ HR3.out (by omega) (by omega) HB3.out (by simp) 0 rfl (p10_two HP.out HX3.out hq9 hrb9) (HV.out.two HX3.out hq9 hrb9) hrb9 hq9 hrbq).mono ?_; rintro e t4 ⟨v3, he1, hcs, hb, hr, tw⟩
       have he2 : e = .returned (.bool true) := he1.trans (by rw [show nb l3 [117, 115, 101, 100] = _ from HO3.out]; rfl)
       clear he1
       subst he2
       rw [hcs _ HO3.out] at hb
       clear hcs
       have HB4 : Hid (t4.heap[w.heap.size + 1]? = some (.cells #[.int .u64 (y0 : Int), .int .i64 y1, .int .i64 y2, .int .i64 y3, .int .i64 0, .bool false, .slice none 0 0] 25 (0, 0))) := hb
       have HR4 : Hid (RdA t4 q l4 (k + 4)) := by unfold Hid; rw [← HL3.out]; exact hr
       have HX4 : Hid (Two q (w.heap.size + 1) ((w.alloc (.cells #[.int .u64 0, .int .i64 0, .int .i64 0, .int .i64 0, .int .i64 0, .bool false, .slice none 0 0] 25)).alloc (.cells #[.int .u64 0, .int .i64 0, .int .i64 0, .int .i64 0, .int .i64 0, .bool false, .slice none 0 0] 25)) t4) := HX3.out.trans tw
       clear hb hr tw)
    | (go_at_call 38; have zz := HR2; clear zz; refine (number_any q (k + 2) (w.heap.size + 1) 2 l2 [108, 105, 118, 101] _ _ _ HR2.out (by omega) (by omega) HB2.out (by simp) 0 rfl (p10_two HP.out HX2.out hq9 hrb9) (HV.out.two HX2.out hq9 hrb9) hrb9 hq9 hrbq).mono ?_; rintro e t3 ⟨v2, he1, hcs, hb, hr, tw⟩
       have he2 : e = .returned (.bool true) := he1.trans (by rw [show nb l2 [108, 105, 118, 101] = _ from HO2.out]; rfl)
       clear he1
       subst he2
       rw [hcs _ HO2.out] at hb
       clear hcs
       have HB3 : Hid (t3.heap[w.heap.size + 1]? = some (.cells #[.int .u64 (y0 : Int), .int .i64 y1, .int .i64 y2, .int .i64 0, .int .i64 0, .bool false, .slice none 0 0] 25 (0, 0))) := hb
       have HR3 : Hid (RdA t3 q l3 (k + 3)) := by unfold Hid; rw [← HL2.out]; exact hr
       have HX3 : Hid (Two q (w.heap.size + 1) ((w.alloc (.cells #[.int .u64 0, .int .i64 0, .int .i64 0, .int .i64 0, .int .i64 0, .bool false, .slice none 0 0] 25)).alloc (.cells #[.int .u64 0, .int .i64 0, .int .i64 0, .int .i64 0, .int .i64 0, .bool false, .slice none 0 0] 25)) t3) := HX2.out.trans tw
       clear hb hr tw)
    | (go_at_call 38; have zz := HR1; clear zz; refine (number_any q (k + 1) (w.heap.size + 1) 1 l1 [99, 111, 117, 110, 116, 101, 100] _ _ _ HR1.out (by omega) (by omega) HB1.out (by simp) 0 rfl (p10_two HP.out HX1.out hq9 hrb9) (HV.out.two HX1.out hq9 hrb9) hrb9 hq9 hrbq).mono ?_; rintro e t2 ⟨v1, he1, hcs, hb, hr, tw⟩
       have he2 : e = .returned (.bool true) := he1.trans (by rw [show nb l1 [99, 111, 117, 110, 116, 101, 100] = _ from HO1.out]; rfl)
       clear he1
       subst he2
       rw [hcs _ HO1.out] at hb
       clear hcs
       have HB2 : Hid (t2.heap[w.heap.size + 1]? = some (.cells #[.int .u64 (y0 : Int), .int .i64 y1, .int .i64 0, .int .i64 0, .int .i64 0, .bool false, .slice none 0 0] 25 (0, 0))) := hb
       have HR2 : Hid (RdA t2 q l2 (k + 2)) := by unfold Hid; rw [← HL1.out]; exact hr
       have HX2 : Hid (Two q (w.heap.size + 1) ((w.alloc (.cells #[.int .u64 0, .int .i64 0, .int .i64 0, .int .i64 0, .int .i64 0, .bool false, .slice none 0 0] 25)).alloc (.cells #[.int .u64 0, .int .i64 0, .int .i64 0, .int .i64 0, .int .i64 0, .bool false, .slice none 0 0] 25)) t2) := HX1.out.trans tw
       clear hb hr tw)
    | (go_at_call 37; have zz := HR0; clear zz; refine (floor_any q k (w.heap.size + 1) 0 l0 _ _ _ HR0.out (by omega) (by omega) HB0.out (by simp) (p10_two HP.out HX0.out hq9 hrb9) (HV.out.two HX0.out hq9 hrb9) hrb9 hq9 hrbq).mono ?_; rintro e t1 ⟨v0, he1, hcs, hb, hr, tw⟩
       have he2 : e = .returned (.bool true) := he1.trans (by rw [show flr l0 = _ from HO0.out]; rfl)
       clear he1
       subst he2
       rw [hcs _ HO0.out] at hb
       clear hcs
       have HB1 : Hid (t1.heap[w.heap.size + 1]? = some (.cells #[.int .u64 (y0 : Int), .int .i64 0, .int .i64 0, .int .i64 0, .int .i64 0, .bool false, .slice none 0 0] 25 (0, 0))) := hb
       have HR1 : Hid (RdA t1 q l1 (k + 1)) := by unfold Hid; rw [← HL0.out]; exact hr
       have HX1 : Hid (Two q (w.heap.size + 1) ((w.alloc (.cells #[.int .u64 0, .int .i64 0, .int .i64 0, .int .i64 0, .int .i64 0, .bool false, .slice none 0 0] 25)).alloc (.cells #[.int .u64 0, .int .i64 0, .int .i64 0, .int .i64 0, .int .i64 0, .bool false, .slice none 0 0] 25)) t1) := HX0.out.trans tw
       clear hb hr tw))
  go_loopw [5] (fun s5 wr => s5 = .bool false ∧ wr = t5) (fun _ _ => 0)
  case atStart => exact ⟨rfl, rfl⟩
  case round =>
  obtain ⟨rfl, rfl⟩ := hrel
  go_wp2_with fail
  exact bodyPost_ret (v := .tuple #[.agg #[.int .u64 (y0 : Int), .int .i64 y1, .int .i64 y2, .int .i64 y3, .int .i64 v4, .bool false, .slice none 0 0], .bool false]) (by obtain ⟨z0, z1, z2, z3, z4, z5, z6⟩ := cells7 (blk7_set HA.out (.int .u64 (y0 : Int)) (.int .i64 y1) (.int .i64 y2) (.int .i64 y3) (.int .i64 v4) (.bool false) (.slice none 0 0)); simp [results, Tryd.results29, go_sem, z0, z1, z2, z3, z4, z5, z6]) rfl ⟨(y0 : Int), y1, y2, y3, v4, false, none, 0, 0, by rw [HF.out]; rfl, fun r hr => (by rw [HF.out] at hr; cases hr), ⟨l5, by rw [HF.out]; exact rda_grown HR5.out (grown7 _ _ _ _ _ _ _ _ _) (fun h => hraq h.symm)⟩, ((Two.of HBL.out).past HX5.out (by omega)).grow (grown7 _ _ _ _ _ _ _ _ _) (fun i hi => by cases hi; exact Nat.le_refl _)⟩

set_option maxHeartbeats 4000000 in
set_option maxRecDepth 100000 in
theorem rep_bad5 (q k : Nat) (l0 : List UInt8) (w : World) (hR : RdA w q l0 k) (hn0 : l0.length < 4294967281) (hk : k ≤ 100000000000) (ht : P10 w) (hv : EV w) (hq9 : 9 ≤ q) (y0 : Nat) (h0 : flr l0 = some y0) (y1 : Int) (h1 : nb (nx l0) wC = some y1) (y2 : Int) (h2 : nb (nx (nx l0)) wL = some y2) (y3 : Int) (h3 : nb (nx (nx (nx l0))) wU = some y3) (y4 : Int) (h4 : nb (nx (nx (nx (nx l0)))) wB = some y4) (h5 : sv (nx (nx (nx (nx (nx l0))))) = none) :
    Calls Tryd.prog 29 #[.pointer (some ⟨q, 0, none⟩)] w fun e w' => RepR q k w w' e (rp l0) := by
  have HF : Hid (rp l0 = (none, 6)) := by unfold Hid rp; simp only [h0, h1, h2, h3, h4, h5]
  have hqw : q < w.heap.size := (Array.getElem?_eq_some_iff.1 hR).1
  have hrb9 : 9 ≤ w.heap.size + 1 := by omega
  have hrbq : w.heap.size + 1 ≠ q := by omega
  have hraq : w.heap.size ≠ q := by omega
  have HBL : Hid (Below w.heap.size w ((w.alloc (.cells #[.int .u64 0, .int .i64 0, .int .i64 0, .int .i64 0, .int .i64 0, .bool false, .slice none 0 0] 25)).alloc (.cells #[.int .u64 0, .int .i64 0, .int .i64 0, .int .i64 0, .int .i64 0, .bool false, .slice none 0 0] 25))) := below_trans (below_alloc' w _) (below_alloc' _ _)
  have HR0 : Hid (RdA ((w.alloc (.cells #[.int .u64 0, .int .i64 0, .int .i64 0, .int .i64 0, .int .i64 0, .bool false, .slice none 0 0] 25)).alloc (.cells #[.int .u64 0, .int .i64 0, .int .i64 0, .int .i64 0, .int .i64 0, .bool false, .slice none 0 0] 25)) q l0 k) := by unfold Hid RdA; rw [HBL.out.block q hqw]; exact hR
  have HP : Hid (P10 ((w.alloc (.cells #[.int .u64 0, .int .i64 0, .int .i64 0, .int .i64 0, .int .i64 0, .bool false, .slice none 0 0] 25)).alloc (.cells #[.int .u64 0, .int .i64 0, .int .i64 0, .int .i64 0, .int .i64 0, .bool false, .slice none 0 0] 25))) := p10_below ht HBL.out
  have HV : Hid (EV ((w.alloc (.cells #[.int .u64 0, .int .i64 0, .int .i64 0, .int .i64 0, .int .i64 0, .bool false, .slice none 0 0] 25)).alloc (.cells #[.int .u64 0, .int .i64 0, .int .i64 0, .int .i64 0, .int .i64 0, .bool false, .slice none 0 0] 25))) := by
    obtain ⟨⟨tp, p, s⟩, ⟨tp', p', r⟩⟩ := hv
    exact ⟨⟨tp, p, var_two (q := q) (t := q) gSyn s (Two.of HBL.out) (by omega) (by omega)⟩, ⟨tp', p', var_two (q := q) (t := q) gRan r (Two.of HBL.out) (by omega) (by omega)⟩⟩
  have HA0 : Hid (((w.alloc (.cells #[.int .u64 0, .int .i64 0, .int .i64 0, .int .i64 0, .int .i64 0, .bool false, .slice none 0 0] 25)).alloc (.cells #[.int .u64 0, .int .i64 0, .int .i64 0, .int .i64 0, .int .i64 0, .bool false, .slice none 0 0] 25)).heap[w.heap.size]? = some (.cells #[.int .u64 0, .int .i64 0, .int .i64 0, .int .i64 0, .int .i64 0, .bool false, .slice none 0 0] 25 (0, 0))) := (Below.heap_alloc _ _ _ (by simp)).trans (heap_alloc_new w _)
  have HB0 : Hid (((w.alloc (.cells #[.int .u64 0, .int .i64 0, .int .i64 0, .int .i64 0, .int .i64 0, .bool false, .slice none 0 0] 25)).alloc (.cells #[.int .u64 0, .int .i64 0, .int .i64 0, .int .i64 0, .int .i64 0, .bool false, .slice none 0 0] 25)).heap[w.heap.size + 1]? = some (.cells #[.int .u64 0, .int .i64 0, .int .i64 0, .int .i64 0, .int .i64 0, .bool false, .slice none 0 0] 25 (0, 0))) := by
    have h9 := heap_alloc_new (w.alloc (.cells #[.int .u64 0, .int .i64 0, .int .i64 0, .int .i64 0, .int .i64 0, .bool false, .slice none 0 0] 25)) (.cells #[.int .u64 0, .int .i64 0, .int .i64 0, .int .i64 0, .int .i64 0, .bool false, .slice none 0 0] 25)
    rw [World.size_alloc] at h9
    exact h9
  have HX0 : Hid (Two q (w.heap.size + 1) ((w.alloc (.cells #[.int .u64 0, .int .i64 0, .int .i64 0, .int .i64 0, .int .i64 0, .bool false, .slice none 0 0] 25)).alloc (.cells #[.int .u64 0, .int .i64 0, .int .i64 0, .int .i64 0, .int .i64 0, .bool false, .slice none 0 0] 25)) ((w.alloc (.cells #[.int .u64 0, .int .i64 0, .int .i64 0, .int .i64 0, .int .i64 0, .bool false, .slice none 0 0] 25)).alloc (.cells #[.int .u64 0, .int .i64 0, .int .i64 0, .int .i64 0, .int .i64 0, .bool false, .slice none 0 0] 25))) := Two.refl _ _ _
  have HLW : Hid (w.heap.size + 2 ≤ ((w.alloc (.cells #[.int .u64 0, .int .i64 0, .int .i64 0, .int .i64 0, .int .i64 0, .bool false, .slice none 0 0] 25)).alloc (.cells #[.int .u64 0, .int .i64 0, .int .i64 0, .int .i64 0, .int .i64 0, .bool false, .slice none 0 0] 25)).heap.size) := by unfold Hid; simp
  obtain ⟨l1, hl1⟩ : ∃ l', nx l0 = l' := ⟨_, rfl⟩
  have hn1 : l1.length < 4294967281 := by have := nx_le l0; rw [hl1] at this; omega
  have HL0 : Hid (nx l0 = l1) := hl1
  obtain ⟨l2, hl2⟩ : ∃ l', nx l1 = l' := ⟨_, rfl⟩
  have hn2 : l2.length < 4294967281 := by have := nx_le l1; rw [hl2] at this; omega
  have HL1 : Hid (nx l1 = l2) := hl2
  obtain ⟨l3, hl3⟩ : ∃ l', nx l2 = l' := ⟨_, rfl⟩
  have hn3 : l3.length < 4294967281 := by have := nx_le l2; rw [hl3] at this; omega
  have HL2 : Hid (nx l2 = l3) := hl3
  obtain ⟨l4, hl4⟩ : ∃ l', nx l3 = l' := ⟨_, rfl⟩
  have hn4 : l4.length < 4294967281 := by have := nx_le l3; rw [hl4] at this; omega
  have HL3 : Hid (nx l3 = l4) := hl4
  obtain ⟨l5, hl5⟩ : ∃ l', nx l4 = l' := ⟨_, rfl⟩
  have hn5 : l5.length < 4294967281 := by have := nx_le l4; rw [hl5] at this; omega
  have HL4 : Hid (nx l4 = l5) := hl5
  obtain ⟨l6, hl6⟩ : ∃ l', nx l5 = l' := ⟨_, rfl⟩
  have hn6 : l6.length < 4294967281 := by have := nx_le l5; rw [hl6] at this; omega
  have HL5 : Hid (nx l5 = l6) := hl6
  have HO0 : Hid (flr l0 = some y0) := by have h8 := h0; exact h8
  have HO1 : Hid (nb l1 wC = some y1) := by have h8 := h1; rw [hl1] at h8; exact h8
  have HO2 : Hid (nb l2 wL = some y2) := by have h8 := h2; rw [hl1, hl2] at h8; exact h8
  have HO3 : Hid (nb l3 wU = some y3) := by have h8 := h3; rw [hl1, hl2, hl3] at h8; exact h8
  have HO4 : Hid (nb l4 wB = some y4) := by have h8 := h4; rw [hl1, hl2, hl3, hl4] at h8; exact h8
  have HO5 : Hid (sv l5 = none) := by have h8 := h5; rw [hl1, hl2, hl3, hl4, hl5] at h8; exact h8
  clear hR ht hv h0 h1 h2 h3 h4 h5 hl1 hl2 hl3 hl4 hl5 hl6
  go_enter Tryd.func29, Tryd.ntmps29
  go_wp2_with (first
    | (go_at_call 39; have zz := HR5; clear zz; refine (saved_any q (k + 5) (w.heap.size + 1) 5 l5 _ _ _ HR5.out (by omega) (by omega) HB5.out (by simp) hrbq).mono ?_; rintro e t6 ⟨v5, he1, hcs, hb, hr, tw⟩
       have he2 : e = .returned (.bool false) := he1.trans (by rw [show sv l5 = _ from HO5.out]; rfl)
       clear he1
       subst he2
       have HB6 : Hid (t6.heap[w.heap.size + 1]? = some (.cells #[.int .u64 (y0 : Int), .int .i64 y1, .int .i64 y2, .int .i64 y3, .int .i64 y4, .bool v5, .slice none 0 0] 25 (0, 0))) := hb
       have HR6 : Hid (RdA t6 q l6 (k + 6)) := by unfold Hid; rw [← HL5.out]; exact hr
       have HX6 : Hid (Two q (w.heap.size + 1) ((w.alloc (.cells #[.int .u64 0, .int .i64 0, .int .i64 0, .int .i64 0, .int .i64 0, .bool false, .slice none 0 0] 25)).alloc (.cells #[.int .u64 0, .int .i64 0, .int .i64 0, .int .i64 0, .int .i64 0, .bool false, .slice none 0 0] 25)) t6) := HX5.out.trans tw
       clear hb hr tw hcs
       have HA : Hid (t6.heap[w.heap.size]? = some (.cells #[.int .u64 0, .int .i64 0, .int .i64 0, .int .i64 0, .int .i64 0, .bool false, .slice none 0 0] 25 (0, 0))) := (HX6.out.block _ (Array.getElem?_eq_some_iff.1 HA0.out).1 (by omega) (by omega)).trans HA0.out
       obtain ⟨e0, e1, e2, e3, e4, e5, e6⟩ := cells7 HB6.out
       obtain ⟨r0, r1, r2, r3, r4, r5, r6⟩ := cells7 HA.out
       have rf := frozen7 HA.out
       have rf0 := rf 0
       have rf1 := rf 1
       have rf2 := rf 2
       have rf3 := rf 3
       have rf4 := rf 4
       have rf5 := rf 5
       have rf6 := rf 6
       clear rf)
    | (go_at_call 38; have zz := HR4; clear zz; refine (number_any q (k + 4) (w.heap.size + 1) 4 l4 [98, 97, 100] _ _ _ HR4.out (by omega) (by omega) HB4.out (by simp) 0 rfl (p10_two HP.out HX4.out hq9 hrb9) (HV.out.two HX4.out hq9 hrb9) hrb9 hq9 hrbq).mono ?_; rintro e t5 ⟨v4, he1, hcs, hb, hr, tw⟩
       have he2 : e = .returned (.bool true) := he1.trans (by rw [show nb l4 [98, 97, 100] = _ from HO4.out]; rfl)
       clear he1
       subst he2
       rw [hcs _ HO4.out] at hb
       clear hcs
       have HB5 : Hid (t5.heap[w.heap.size + 1]? = some (.cells #[.int .u64 (y0 : Int), .int .i64 y1, .int .i64 y2, .int .i64 y3, .int .i64 y4, .bool false, .slice none 0 0] 25 (0, 0))) := hb
       have HR5 : Hid (RdA t5 q l5 (k + 5)) := by unfold Hid; rw [← HL4.out]; exact hr
       have HX5 : Hid (Two q (w.heap.size + 1) ((w.alloc (.cells #[.int .u64 0, .int .i64 0, .int .i64 0, .int .i64 0, .int .i64 0, .bool false, .slice none 0 0] 25)).alloc (.cells #[.int .u64 0, .int .i64 0, .int .i64 0, .int .i64 0, .int .i64 0, .bool false, .slice none 0 0] 25)) t5) := HX4.out.trans tw
       clear hb hr tw)
    | (go_at_call 38; have zz := HR3; clear zz; refine (number_any q (k + 3) (w.heap.size + 1) 3 l3 [117, 115, 101, 100] _ _ _ HR3.out (by omega) (by omega) HB3.out (by simp) 0 rfl (p10_two HP.out HX3.out hq9 hrb9) (HV.out.two HX3.out hq9 hrb9) hrb9 hq9 hrbq).mono ?_; rintro e t4 ⟨v3, he1, hcs, hb, hr, tw⟩
       have he2 : e = .returned (.bool true) := he1.trans (by rw [show nb l3 [117, 115, 101, 100] = _ from HO3.out]; rfl)
       clear he1
       subst he2
       rw [hcs _ HO3.out] at hb
       clear hcs
       have HB4 : Hid (t4.heap[w.heap.size + 1]? = some (.cells #[.int .u64 (y0 : Int), .int .i64 y1, .int .i64 y2, .int .i64 y3, .int .i64 0, .bool false, .slice none 0 0] 25 (0, 0))) := hb
       have HR4 : Hid (RdA t4 q l4 (k + 4)) := by unfold Hid; rw [← HL3.out]; exact hr
       have HX4 : Hid (Two q (w.heap.size + 1) ((w.alloc (.cells #[.int .u64 0, .int .i64 0, .int .i64 0, .int .i64 0, .int .i64 0, .bool false, .slice none 0 0] 25)).alloc (.cells #[.int .u64 0, .int .i64 0, .int .i64 0, .int .i64 0, .int .i64 0, .bool false, .slice none 0 0] 25)) t4) := HX3.out.trans tw
       clear hb hr tw)
    | (go_at_call 38; have zz := HR2; clear zz; refine (number_any q (k + 2) (w.heap.size + 1) 2 l2 [108, 105, 118, 101] _ _ _ HR2.out (by omega) (by omega) HB2.out (by simp) 0 rfl (p10_two HP.out HX2.out hq9 hrb9) (HV.out.two HX2.out hq9 hrb9) hrb9 hq9 hrbq).mono ?_; rintro e t3 ⟨v2, he1, hcs, hb, hr, tw⟩
       have he2 : e = .returned (.bool true) := he1.trans (by rw [show nb l2 [108, 105, 118, 101] = _ from HO2.out]; rfl)
       clear he1
       subst he2
       rw [hcs _ HO2.out] at hb
       clear hcs
       have HB3 : Hid (t3.heap[w.heap.size + 1]? = some (.cells #[.int .u64 (y0 : Int), .int .i64 y1, .int .i64 y2, .int .i64 0, .int .i64 0, .bool false, .slice none 0 0] 25 (0, 0))) := hb
       have HR3 : Hid (RdA t3 q l3 (k + 3)) := by unfold Hid; rw [← HL2.out]; exact hr
       have HX3 : Hid (Two q (w.heap.size + 1) ((w.alloc (.cells #[.int .u64 0, .int .i64 0, .int .i64 0, .int .i64 0, .int .i64 0, .bool false, .slice none 0 0] 25)).alloc (.cells #[.int .u64 0, .int .i64 0, .int .i64 0, .int .i64 0, .int .i64 0, .bool false, .slice none 0 0] 25)) t3) := HX2.out.trans tw
       clear hb hr tw)
    | (go_at_call 38; have zz := HR1; clear zz; refine (number_any q (k + 1) (w.heap.size + 1) 1 l1 [99, 111, 117, 110, 116, 101, 100] _ _ _ HR1.out (by omega) (by omega) HB1.out (by simp) 0 rfl (p10_two HP.out HX1.out hq9 hrb9) (HV.out.two HX1.out hq9 hrb9) hrb9 hq9 hrbq).mono ?_; rintro e t2 ⟨v1, he1, hcs, hb, hr, tw⟩
       have he2 : e = .returned (.bool true) := he1.trans (by rw [show nb l1 [99, 111, 117, 110, 116, 101, 100] = _ from HO1.out]; rfl)
       clear he1
       subst he2
       rw [hcs _ HO1.out] at hb
       clear hcs
       have HB2 : Hid (t2.heap[w.heap.size + 1]? = some (.cells #[.int .u64 (y0 : Int), .int .i64 y1, .int .i64 0, .int .i64 0, .int .i64 0, .bool false, .slice none 0 0] 25 (0, 0))) := hb
       have HR2 : Hid (RdA t2 q l2 (k + 2)) := by unfold Hid; rw [← HL1.out]; exact hr
       have HX2 : Hid (Two q (w.heap.size + 1) ((w.alloc (.cells #[.int .u64 0, .int .i64 0, .int .i64 0, .int .i64 0, .int .i64 0, .bool false, .slice none 0 0] 25)).alloc (.cells #[.int .u64 0, .int .i64 0, .int .i64 0, .int .i64 0, .int .i64 0, .bool false, .slice none 0 0] 25)) t2) := HX1.out.trans tw
       clear hb hr tw)
    | (go_at_call 37; have zz := HR0; clear zz; refine (floor_any q k (w.heap.size + 1) 0 l0 _ _ _ HR0.out (by omega) (by omega) HB0.out (by simp) (p10_two HP.out HX0.out hq9 hrb9) (HV.out.two HX0.out hq9 hrb9) hrb9 hq9 hrbq).mono ?_; rintro e t1 ⟨v0, he1, hcs, hb, hr, tw⟩
       have he2 : e = .returned (.bool true) := he1.trans (by rw [show flr l0 = _ from HO0.out]; rfl)
       clear he1
       subst he2
       rw [hcs _ HO0.out] at hb
       clear hcs
       have HB1 : Hid (t1.heap[w.heap.size + 1]? = some (.cells #[.int .u64 (y0 : Int), .int .i64 0, .int .i64 0, .int .i64 0, .int .i64 0, .bool false, .slice none 0 0] 25 (0, 0))) := hb
       have HR1 : Hid (RdA t1 q l1 (k + 1)) := by unfold Hid; rw [← HL0.out]; exact hr
       have HX1 : Hid (Two q (w.heap.size + 1) ((w.alloc (.cells #[.int .u64 0, .int .i64 0, .int .i64 0, .int .i64 0, .int .i64 0, .bool false, .slice none 0 0] 25)).alloc (.cells #[.int .u64 0, .int .i64 0, .int .i64 0, .int .i64 0, .int .i64 0, .bool false, .slice none 0 0] 25)) t1) := HX0.out.trans tw
       clear hb hr tw))
  go_loopw [5] (fun s5 wr => s5 = .bool false ∧ wr = t6) (fun _ _ => 0)
  case atStart => exact ⟨rfl, rfl⟩
  case round =>
  obtain ⟨rfl, rfl⟩ := hrel
  go_wp2_with fail
  exact bodyPost_ret (v := .tuple #[.agg #[.int .u64 (y0 : Int), .int .i64 y1, .int .i64 y2, .int .i64 y3, .int .i64 y4, .bool v5, .slice none 0 0], .bool false]) (by obtain ⟨z0, z1, z2, z3, z4, z5, z6⟩ := cells7 (blk7_set HA.out (.int .u64 (y0 : Int)) (.int .i64 y1) (.int .i64 y2) (.int .i64 y3) (.int .i64 y4) (.bool v5) (.slice none 0 0)); simp [results, Tryd.results29, go_sem, z0, z1, z2, z3, z4, z5, z6]) rfl ⟨(y0 : Int), y1, y2, y3, y4, v5, none, 0, 0, by rw [HF.out]; rfl, fun r hr => (by rw [HF.out] at hr; cases hr), ⟨l6, by rw [HF.out]; exact rda_grown HR6.out (grown7 _ _ _ _ _ _ _ _ _) (fun h => hraq h.symm)⟩, ((Two.of HBL.out).past HX6.out (by omega)).grow (grown7 _ _ _ _ _ _ _ _ _) (fun i hi => by cases hi; exact Nat.le_refl _)⟩


end Go.Proofs.YtnjcjaaciphcgaaDoor
