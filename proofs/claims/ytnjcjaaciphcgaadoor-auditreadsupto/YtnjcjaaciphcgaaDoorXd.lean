/-
  SEAT YtnjcjaaciphcgaaDoor: AuditReads.
-/
import Derived.Test.YtnjcjaaciphcgaaDoorXc
import Derived.Test.YtnjcjaaciphcgaaDoorXb
import Derived.Test.YtnjcjaaciphcgaaDoorVm
namespace Go.Proofs.YtnjcjaaciphcgaaDoor
open Go.RowKit Go.Sort
set_option linter.unusedVariables false

def rv (x : Option Rp × Nat) : Rp := x.1.getD ⟨0, 0, 0, 0, 0, false, []⟩
def er (x : Option Rp × Nat) : Int := if x.1.isSome then 0 else 200
def nr (x : Option Rp × Nat) : Int := if x.1.isSome then 0 else (x.2 : Int)
theorem rread_u (l : List UInt8) (w : World) (hl : l.length < 4294967281) (ht : P10 w) :
    Calls Tryd.prog 9 #[.string ⟨l.toArray⟩] w fun e w' => ∃ a c, e = .returned (.tuple #[.agg #[.int .u64 ((rv (rp l)).fl : Int), .int .i64 (rv (rp l)).c, .int .i64 (rv (rp l)).l, .int .i64 (rv (rp l)).u, .int .i64 (rv (rp l)).b, .bool (rv (rp l)).s, .slice a (rv (rp l)).fs.length c], .int .i64 (er (rp l)), .int .i64 (nr (rp l))]) ∧ ReadsF w' a (rv (rp l)).fs.length (rv (rp l)).fs ∧ Below w.heap.size w w' := by
  refine (rread_any l w hl ht).mono ?_
  rintro e w' ⟨h, hb⟩
  obtain ⟨x, hx⟩ : ∃ x, rp l = x := ⟨_, rfl⟩
  rw [hx] at h ⊢
  obtain ⟨o, m⟩ := x
  cases o with
  | none => exact ⟨none, 0, h, ⟨rfl, fun _ => rfl, fun _ h => by cases h⟩, hb⟩
  | some r =>
    obtain ⟨a, n, c, he, hr⟩ := h
    have hn := hr.1
    subst hn
    exact ⟨a, c, he, hr, hb⟩
theorem read_u (l : List UInt8) (w : World) (hl : l.length < 4294967281) (ht : P10 w) (hv : EV w) (hkw : KW w) (hw9 : 9 ≤ w.heap.size) :
    Calls Tryd.prog 10 #[.string ⟨l.toArray⟩] w fun e w' => ∃ a c, e = .returned (.tuple #[.agg #[.int .u64 ((rv (rp l)).fl : Int), .int .i64 (rv (rp l)).c, .int .i64 (rv (rp l)).l, .int .i64 (rv (rp l)).u, .int .i64 (rv (rp l)).b, .bool (rv (rp l)).s, .slice a (rv (rp l)).fs.length c], .int .i64 (er (rp l)), .int .i64 (nr (rp l))]) ∧ w'.ownsRow w.heap.size 29 4 (.slice a (rv (rp l)).fs.length c) (rv (rp l)).fs.length (flatF (rv (rp l)).fs) ∧ Below w.heap.size w w' := by
  obtain ⟨x, hx⟩ : ∃ x, rp l = x := ⟨_, rfl⟩
  obtain ⟨o, m⟩ := x
  cases o with
  | none =>
    refine (read_bad l w hl ht hv hkw hw9 m hx).mono ?_
    rintro e w' ⟨rfl, hb⟩
    rw [hx]
    exact ⟨none, 0, rfl, World.ownsRow_nil _ _ _ _, hb⟩
  | some r =>
    refine (read_own l w hl ht hv hkw hw9 m r hx).mono ?_
    rintro e w' ⟨⟨a, n, c, he, hr, ho⟩, hb⟩
    rw [hx]
    have hn := hr.1
    subst hn
    exact ⟨a, c, he, ho, hb⟩

/-- A report in a box. -/
structure Bx (w : World) (p : Nat) (r : Rp) (a : Option Addr) (n c : Nat) : Prop where
  box : w.heap[p]? = some (.cells #[.int .u64 (r.fl : Int), .int .i64 r.c, .int .i64 r.l, .int .i64 r.u, .int .i64 r.b, .bool r.s, .slice a n c] 25 (0, 0))
  rd : ReadsF w a n r.fs
theorem Bx.up {w u : World} {p n c : Nat} {r : Rp} {a : Option Addr} (h : Bx w p r a n c) (hb : Below w.heap.size w u) : Bx u p r a n c := ⟨blk_up h.box hb, h.rd.below hb⟩
structure Ob (w : World) (B p : Nat) (r : Rp) (a : Option Addr) (n c : Nat) : Prop where
  box : w.heap[p]? = some (.cells #[.int .u64 (r.fl : Int), .int .i64 r.c, .int .i64 r.l, .int .i64 r.u, .int .i64 r.b, .bool r.s, .slice a n c] 25 (0, 0))
  own : w.ownsRow B 29 4 (.slice a n c) n (flatF r.fs)
theorem Ob.up {w u : World} {B p n c : Nat} {r : Rp} {a : Option Addr} (h : Ob w B p r a n c) (hb : Below w.heap.size w u) : Ob u B p r a n c := ⟨blk_up h.box hb, ownF_below h.own hb⟩
theorem Ob.rd' {w : World} {B p n c : Nat} {r : Rp} {a : Option Addr} (h : Ob w B p r a n c) : ReadsF w a n r.fs := by
  obtain ⟨a', c', hv, hr⟩ := ownF_reads h.own
  cases hv
  exact hr
/-- Four things. -/
def v4 {α : Type} (x0 x1 x2 x3 : α) : Nat → α
  | 0 => x0
  | 1 => x1
  | 2 => x2
  | _ => x3
theorem apart4 (t : World) (B : Nat) (cs : Array Value) (v0 v1 v2 v3 : Value) (m0 m1 m2 m3 : Nat) (F0 F1 F2 F3 : List Fd) (b0 b1 b2 b3 : Nat)
    (h0 : t.ownsRow b0 29 4 v0 m0 (flatF F0)) (h1 : t.ownsRow b1 29 4 v1 m1 (flatF F1)) (h2 : t.ownsRow b2 29 4 v2 m2 (flatF F2)) (h3 : t.ownsRow b3 29 4 v3 m3 (flatF F3))
    (hb : B ≤ b0 ∧ b0 ≤ b1 ∧ b1 ≤ b2 ∧ b2 ≤ b3) (l0 : ∀ g, v0.ownBlock = some g → g < b1) (l1 : ∀ g, v1.ownBlock = some g → g < b2) (l2 : ∀ g, v2.ownBlock = some g → g < b3)
    (e0 : cs[6]? = some v0) (e1 : cs[13]? = some v1) (e2 : cs[20]? = some v2) (e3 : cs[27]? = some v3) (k0 : m0 ≤ 100000000000) (k1 : m1 ≤ 100000000000) (k2 : m2 ≤ 100000000000) (k3 : m3 ≤ 100000000000) :
    Apart (t.alloc (.cells cs 25)) B t.heap.size 4 (v4 v0 v1 v2 v3) (v4 m0 m1 m2 m3) (v4 F0 F1 F2 F3) := by
  have g0 := fun g h => (h0.lt g h).1
  have g1 := fun g h => (h1.lt g h).1
  have g2 := fun g h => (h2.lt g h).1
  have g3 := fun g h => (h3.lt g h).1
  have z0 := fun g h => (h0.lt g h).2
  have z1 := fun g h => (h1.lt g h).2
  have z2 := fun g h => (h2.lt g h).2
  have z3 := fun g h => (h3.lt g h).2
  refine ⟨fun i hi => ?_, fun i hi => ?_, fun i hi => ?_, fun i j hi hj hne g hg hg2 => ?_, fun i hi hg => ?_, by simp⟩
  · have h9 := heap_alloc_new t (.cells cs 25)
    simp only [World.cell?, h9]
    match i, hi with
    | 0, _ => exact e0
    | 1, _ => exact e1
    | 2, _ => exact e2
    | 3, _ => exact e3
  · match i, hi with
    | 0, _ => exact k0
    | 1, _ => exact k1
    | 2, _ => exact k2
    | 3, _ => exact k3
  · match i, hi with
    | 0, _ => exact (own_low h0 (by omega)).alloc _
    | 1, _ => exact (own_low h1 (by omega)).alloc _
    | 2, _ => exact (own_low h2 (by omega)).alloc _
    | 3, _ => exact (own_low h3 (by omega)).alloc _
  · match i, hi, j, hj with
    | 0, _, 0, _ => exact hne rfl
    | 1, _, 1, _ => exact hne rfl
    | 2, _, 2, _ => exact hne rfl
    | 3, _, 3, _ => exact hne rfl
    | 0, _, 1, _ => have := l0 g hg; have := g1 g hg2; omega
    | 0, _, 2, _ => have := l0 g hg; have := g2 g hg2; omega
    | 0, _, 3, _ => have := l0 g hg; have := g3 g hg2; omega
    | 1, _, 0, _ => have := l0 g hg2; have := g1 g hg; omega
    | 1, _, 2, _ => have := l1 g hg; have := g2 g hg2; omega
    | 1, _, 3, _ => have := l1 g hg; have := g3 g hg2; omega
    | 2, _, 0, _ => have := l0 g hg2; have := g2 g hg; omega
    | 2, _, 1, _ => have := l1 g hg2; have := g2 g hg; omega
    | 2, _, 3, _ => have := l2 g hg; have := g3 g hg2; omega
    | 3, _, 0, _ => have := l0 g hg2; have := g3 g hg; omega
    | 3, _, 1, _ => have := l1 g hg2; have := g3 g hg; omega
    | 3, _, 2, _ => have := l2 g hg2; have := g3 g hg; omega
  · match i, hi with
    | 0, _ => exact Nat.lt_irrefl _ (z0 _ hg)
    | 1, _ => exact Nat.lt_irrefl _ (z1 _ hg)
    | 2, _ => exact Nat.lt_irrefl _ (z2 _ hg)
    | 3, _ => exact Nat.lt_irrefl _ (z3 _ hg)
theorem rp_len {l : List UInt8} (hl : l.length ≤ 1048576) : (rv (rp l)).fs.length ≤ 1048576 := by
  obtain ⟨x, hx⟩ : ∃ x, rp l = x := ⟨_, rfl⟩
  obtain ⟨o, m⟩ := x
  rw [hx]
  cases o with
  | none => exact Nat.zero_le _
  | some r => exact (rp_sound hx hl).2.few

set_option maxHeartbeats 8000000 in
set_option maxRecDepth 100000 in
theorem readsWalk (lA lB : List UInt8) (w : World) (hA : lA.length ≤ 1048576) (hB : lB.length ≤ 1048576) (ht : P10 w) (hkw : KW w) (hv : EV w) (h9 : 9 ≤ w.heap.size) :
    Calls Tryd.prog 4 #[.string ⟨lA.toArray⟩, .string ⟨lB.toArray⟩] w fun e w' => e = .returned (.bool true) ∧ Below w.heap.size w w' := by
  have HV : Hid (∀ u, Below w.heap.size w u → P10 u ∧ KW u ∧ EV u ∧ 9 ≤ u.heap.size) := fun u hu => ⟨p10_below ht hu, hkw.below hu, hv.below hu h9, Nat.le_trans h9 hu.size⟩
  have HB0 : Hid (Below w.heap.size w w) := Below.refl _ _
  have hMA0 := rp_len hA
  have hMB0 := rp_len hB
  have HC1 : Hid (∀ u, Below w.heap.size w u → Calls Tryd.prog 9 #[.string ⟨lA.toArray⟩] u fun e w' => ∃ a c, e = .returned (.tuple #[.agg #[.int .u64 ((rv (rp lA)).fl : Int), .int .i64 (rv (rp lA)).c, .int .i64 (rv (rp lA)).l, .int .i64 (rv (rp lA)).u, .int .i64 (rv (rp lA)).b, .bool (rv (rp lA)).s, .slice a (rv (rp lA)).fs.length c], .int .i64 (er (rp lA)), .int .i64 (nr (rp lA))]) ∧ ReadsF w' a (rv (rp lA)).fs.length (rv (rp lA)).fs ∧ Below u.heap.size u w') := fun u hu => rread_u lA u (by omega) (HV.out u hu).1
  have HC2 : Hid (∀ u, Below w.heap.size w u → Calls Tryd.prog 9 #[.string ⟨lB.toArray⟩] u fun e w' => ∃ a c, e = .returned (.tuple #[.agg #[.int .u64 ((rv (rp lB)).fl : Int), .int .i64 (rv (rp lB)).c, .int .i64 (rv (rp lB)).l, .int .i64 (rv (rp lB)).u, .int .i64 (rv (rp lB)).b, .bool (rv (rp lB)).s, .slice a (rv (rp lB)).fs.length c], .int .i64 (er (rp lB)), .int .i64 (nr (rp lB))]) ∧ ReadsF w' a (rv (rp lB)).fs.length (rv (rp lB)).fs ∧ Below u.heap.size u w') := fun u hu => rread_u lB u (by omega) (HV.out u hu).1
  have HC3 : Hid (∀ u, Below w.heap.size w u → Calls Tryd.prog 10 #[.string ⟨lA.toArray⟩] u fun e w' => ∃ a c, e = .returned (.tuple #[.agg #[.int .u64 ((rv (rp lA)).fl : Int), .int .i64 (rv (rp lA)).c, .int .i64 (rv (rp lA)).l, .int .i64 (rv (rp lA)).u, .int .i64 (rv (rp lA)).b, .bool (rv (rp lA)).s, .slice a (rv (rp lA)).fs.length c], .int .i64 (er (rp lA)), .int .i64 (nr (rp lA))]) ∧ w'.ownsRow u.heap.size 29 4 (.slice a (rv (rp lA)).fs.length c) (rv (rp lA)).fs.length (flatF (rv (rp lA)).fs) ∧ Below u.heap.size u w') := fun u hu => read_u lA u (by omega) (HV.out u hu).1 (HV.out u hu).2.2.1 (HV.out u hu).2.1 (HV.out u hu).2.2.2
  have HC4 : Hid (∀ u, Below w.heap.size w u → Calls Tryd.prog 10 #[.string ⟨lA.toArray⟩] u fun e w' => ∃ a c, e = .returned (.tuple #[.agg #[.int .u64 ((rv (rp lA)).fl : Int), .int .i64 (rv (rp lA)).c, .int .i64 (rv (rp lA)).l, .int .i64 (rv (rp lA)).u, .int .i64 (rv (rp lA)).b, .bool (rv (rp lA)).s, .slice a (rv (rp lA)).fs.length c], .int .i64 (er (rp lA)), .int .i64 (nr (rp lA))]) ∧ w'.ownsRow u.heap.size 29 4 (.slice a (rv (rp lA)).fs.length c) (rv (rp lA)).fs.length (flatF (rv (rp lA)).fs) ∧ Below u.heap.size u w') := fun u hu => read_u lA u (by omega) (HV.out u hu).1 (HV.out u hu).2.2.1 (HV.out u hu).2.1 (HV.out u hu).2.2.2
  have HC5 : Hid (∀ u, Below w.heap.size w u → Calls Tryd.prog 10 #[.string ⟨lB.toArray⟩] u fun e w' => ∃ a c, e = .returned (.tuple #[.agg #[.int .u64 ((rv (rp lB)).fl : Int), .int .i64 (rv (rp lB)).c, .int .i64 (rv (rp lB)).l, .int .i64 (rv (rp lB)).u, .int .i64 (rv (rp lB)).b, .bool (rv (rp lB)).s, .slice a (rv (rp lB)).fs.length c], .int .i64 (er (rp lB)), .int .i64 (nr (rp lB))]) ∧ w'.ownsRow u.heap.size 29 4 (.slice a (rv (rp lB)).fs.length c) (rv (rp lB)).fs.length (flatF (rv (rp lB)).fs) ∧ Below u.heap.size u w') := fun u hu => read_u lB u (by omega) (HV.out u hu).1 (HV.out u hu).2.2.1 (HV.out u hu).2.1 (HV.out u hu).2.2.2
  have HC6 : Hid (∀ u, Below w.heap.size w u → Calls Tryd.prog 10 #[.string ⟨lA.toArray⟩] u fun e w' => ∃ a c, e = .returned (.tuple #[.agg #[.int .u64 ((rv (rp lA)).fl : Int), .int .i64 (rv (rp lA)).c, .int .i64 (rv (rp lA)).l, .int .i64 (rv (rp lA)).u, .int .i64 (rv (rp lA)).b, .bool (rv (rp lA)).s, .slice a (rv (rp lA)).fs.length c], .int .i64 (er (rp lA)), .int .i64 (nr (rp lA))]) ∧ w'.ownsRow u.heap.size 29 4 (.slice a (rv (rp lA)).fs.length c) (rv (rp lA)).fs.length (flatF (rv (rp lA)).fs) ∧ Below u.heap.size u w') := fun u hu => read_u lA u (by omega) (HV.out u hu).1 (HV.out u hu).2.2.1 (HV.out u hu).2.1 (HV.out u hu).2.2.2
  obtain ⟨RA, hRA⟩ : ∃ R, rv (rp lA) = R := ⟨_, rfl⟩
  obtain ⟨EA, hEA⟩ : ∃ E, er (rp lA) = E := ⟨_, rfl⟩
  obtain ⟨NA, hNA⟩ : ∃ N, nr (rp lA) = N := ⟨_, rfl⟩
  rw [hRA] at hMA0
  obtain ⟨RB, hRB⟩ : ∃ R, rv (rp lB) = R := ⟨_, rfl⟩
  obtain ⟨EB, hEB⟩ : ∃ E, er (rp lB) = E := ⟨_, rfl⟩
  obtain ⟨NB, hNB⟩ : ∃ N, nr (rp lB) = N := ⟨_, rfl⟩
  rw [hRB] at hMB0
  rw [hRA, hEA, hNA] at HC1
  rw [hRB, hEB, hNB] at HC2
  rw [hRA, hEA, hNA] at HC3
  rw [hRA, hEA, hNA] at HC4
  rw [hRB, hEB, hNB] at HC5
  rw [hRA, hEA, hNA] at HC6
  obtain ⟨MA, hmA⟩ : ∃ M, RA.fs.length = M := ⟨_, rfl⟩
  rw [hmA] at hMA0
  have hMA : MA ≤ 140737488355000 := by omega
  have hMA' : MA ≤ 100000000000 := by omega
  obtain ⟨MB, hmB⟩ : ∃ M, RB.fs.length = M := ⟨_, rfl⟩
  rw [hmB] at hMB0
  have hMB : MB ≤ 140737488355000 := by omega
  have hMB' : MB ≤ 100000000000 := by omega
  rw [hmA] at HC1
  rw [hmB] at HC2
  rw [hmA] at HC3
  rw [hmA] at HC4
  rw [hmB] at HC5
  rw [hmA] at HC6
  clear hRA hEA hNA hmA hRB hEB hNB hmB
  clear hMA0 hMB0 ht hkw hv hA hB
  have T1 : Hid True := trivial
  go_enter Tryd.func4, Tryd.ntmps4
  go_wp2_with (first
    | (go_at_call 9; have zz := T1; clear T1 zz; refine (HC1.out _ HB0.out).mono ?_; rintro e t1 ⟨a1, c1, rfl, h1, bl⟩
       have bl9 : Below t1.heap.size t1 (t1.alloc (.cells #[.int .u64 (RA.fl : Int), .int .i64 RA.c, .int .i64 RA.l, .int .i64 RA.u, .int .i64 RA.b, .bool RA.s, .slice a1 MA c1] 25)) := below_alloc' _ _
       have HB1 : Hid (Below w.heap.size w (t1.alloc (.cells #[.int .u64 (RA.fl : Int), .int .i64 RA.c, .int .i64 RA.l, .int .i64 RA.u, .int .i64 RA.b, .bool RA.s, .slice a1 MA c1] 25))) := below_trans (below_trans HB0.out bl) bl9
       have F1 : Hid (Bx (t1.alloc (.cells #[.int .u64 (RA.fl : Int), .int .i64 RA.c, .int .i64 RA.l, .int .i64 RA.u, .int .i64 RA.b, .bool RA.s, .slice a1 MA c1] 25)) t1.heap.size RA a1 MA c1) := ⟨heap_alloc_new _ _, h1.below bl9⟩
       have T2 : Hid True := trivial
       clear h1 bl bl9)
    | (go_at_call 9; have zz := T2; clear T2 zz; refine (HC2.out _ HB1.out).mono ?_; rintro e t2 ⟨a2, c2, rfl, h2, bl⟩
       have bl9 : Below t2.heap.size t2 (t2.alloc (.cells #[.int .u64 (RB.fl : Int), .int .i64 RB.c, .int .i64 RB.l, .int .i64 RB.u, .int .i64 RB.b, .bool RB.s, .slice a2 MB c2] 25)) := below_alloc' _ _
       have HB2 : Hid (Below w.heap.size w (t2.alloc (.cells #[.int .u64 (RB.fl : Int), .int .i64 RB.c, .int .i64 RB.l, .int .i64 RB.u, .int .i64 RB.b, .bool RB.s, .slice a2 MB c2] 25))) := below_trans (below_trans HB1.out bl) bl9
       have F2 : Hid (Bx (t2.alloc (.cells #[.int .u64 (RB.fl : Int), .int .i64 RB.c, .int .i64 RB.l, .int .i64 RB.u, .int .i64 RB.b, .bool RB.s, .slice a2 MB c2] 25)) t2.heap.size RB a2 MB c2) := ⟨heap_alloc_new _ _, h2.below bl9⟩
       have F1x : Hid (Bx (t2.alloc (.cells #[.int .u64 (RB.fl : Int), .int .i64 RB.c, .int .i64 RB.l, .int .i64 RB.u, .int .i64 RB.b, .bool RB.s, .slice a2 MB c2] 25)) t1.heap.size RA a1 MA c1) := (F1.out.up bl).up bl9
       clear F1
       have F1 := F1x
       clear F1x
       have T3 : Hid True := trivial
       clear h2 bl bl9)
    | (go_at_call 10; have zz := T3; clear T3 zz; refine (HC3.out _ HB2.out).mono ?_; rintro e t3 ⟨a3, c3, rfl, h3, bl⟩
       have bl9 : Below t3.heap.size t3 (t3.alloc (.cells #[.int .u64 (RA.fl : Int), .int .i64 RA.c, .int .i64 RA.l, .int .i64 RA.u, .int .i64 RA.b, .bool RA.s, .slice a3 MA c3] 25)) := below_alloc' _ _
       have HB3 : Hid (Below w.heap.size w (t3.alloc (.cells #[.int .u64 (RA.fl : Int), .int .i64 RA.c, .int .i64 RA.l, .int .i64 RA.u, .int .i64 RA.b, .bool RA.s, .slice a3 MA c3] 25))) := below_trans (below_trans HB2.out bl) bl9
       have F3 : Hid (Ob (t3.alloc (.cells #[.int .u64 (RA.fl : Int), .int .i64 RA.c, .int .i64 RA.l, .int .i64 RA.u, .int .i64 RA.b, .bool RA.s, .slice a3 MA c3] 25)) (t2.alloc (.cells #[.int .u64 (RB.fl : Int), .int .i64 RB.c, .int .i64 RB.l, .int .i64 RB.u, .int .i64 RB.b, .bool RB.s, .slice a2 MB c2] 25)).heap.size t3.heap.size RA a3 MA c3) := ⟨heap_alloc_new _ _, h3.alloc _⟩
       have F1x : Hid (Bx (t3.alloc (.cells #[.int .u64 (RA.fl : Int), .int .i64 RA.c, .int .i64 RA.l, .int .i64 RA.u, .int .i64 RA.b, .bool RA.s, .slice a3 MA c3] 25)) t1.heap.size RA a1 MA c1) := (F1.out.up bl).up bl9
       clear F1
       have F1 := F1x
       clear F1x
       have F2x : Hid (Bx (t3.alloc (.cells #[.int .u64 (RA.fl : Int), .int .i64 RA.c, .int .i64 RA.l, .int .i64 RA.u, .int .i64 RA.b, .bool RA.s, .slice a3 MA c3] 25)) t2.heap.size RB a2 MB c2) := (F2.out.up bl).up bl9
       clear F2
       have F2 := F2x
       clear F2x
       have T4 : Hid True := trivial
       have L3 : Hid (∀ g, (Value.slice a3 MA c3).ownBlock = some g → g < (t3.alloc (.cells #[.int .u64 (RA.fl : Int), .int .i64 RA.c, .int .i64 RA.l, .int .i64 RA.u, .int .i64 RA.b, .bool RA.s, .slice a3 MA c3] 25)).heap.size) := fun g hg => Nat.lt_of_lt_of_le (h3.lt g hg).2 bl9.size
       have Z3 : Hid ((t2.alloc (.cells #[.int .u64 (RB.fl : Int), .int .i64 RB.c, .int .i64 RB.l, .int .i64 RB.u, .int .i64 RB.b, .bool RB.s, .slice a2 MB c2] 25)).heap.size ≤ (t3.alloc (.cells #[.int .u64 (RA.fl : Int), .int .i64 RA.c, .int .i64 RA.l, .int .i64 RA.u, .int .i64 RA.b, .bool RA.s, .slice a3 MA c3] 25)).heap.size) := Nat.le_trans bl.size bl9.size
       clear h3 bl bl9)
    | (go_at_call 10; have zz := T4; clear T4 zz; refine (HC4.out _ HB3.out).mono ?_; rintro e t4 ⟨a4, c4, rfl, h4, bl⟩
       have bl9 : Below t4.heap.size t4 (t4.alloc (.cells #[.int .u64 (RA.fl : Int), .int .i64 RA.c, .int .i64 RA.l, .int .i64 RA.u, .int .i64 RA.b, .bool RA.s, .slice a4 MA c4] 25)) := below_alloc' _ _
       have HB4 : Hid (Below w.heap.size w (t4.alloc (.cells #[.int .u64 (RA.fl : Int), .int .i64 RA.c, .int .i64 RA.l, .int .i64 RA.u, .int .i64 RA.b, .bool RA.s, .slice a4 MA c4] 25))) := below_trans (below_trans HB3.out bl) bl9
       have F4 : Hid (Ob (t4.alloc (.cells #[.int .u64 (RA.fl : Int), .int .i64 RA.c, .int .i64 RA.l, .int .i64 RA.u, .int .i64 RA.b, .bool RA.s, .slice a4 MA c4] 25)) (t3.alloc (.cells #[.int .u64 (RA.fl : Int), .int .i64 RA.c, .int .i64 RA.l, .int .i64 RA.u, .int .i64 RA.b, .bool RA.s, .slice a3 MA c3] 25)).heap.size t4.heap.size RA a4 MA c4) := ⟨heap_alloc_new _ _, h4.alloc _⟩
       have F1x : Hid (Bx (t4.alloc (.cells #[.int .u64 (RA.fl : Int), .int .i64 RA.c, .int .i64 RA.l, .int .i64 RA.u, .int .i64 RA.b, .bool RA.s, .slice a4 MA c4] 25)) t1.heap.size RA a1 MA c1) := (F1.out.up bl).up bl9
       clear F1
       have F1 := F1x
       clear F1x
       have F2x : Hid (Bx (t4.alloc (.cells #[.int .u64 (RA.fl : Int), .int .i64 RA.c, .int .i64 RA.l, .int .i64 RA.u, .int .i64 RA.b, .bool RA.s, .slice a4 MA c4] 25)) t2.heap.size RB a2 MB c2) := (F2.out.up bl).up bl9
       clear F2
       have F2 := F2x
       clear F2x
       have F3x : Hid (Ob (t4.alloc (.cells #[.int .u64 (RA.fl : Int), .int .i64 RA.c, .int .i64 RA.l, .int .i64 RA.u, .int .i64 RA.b, .bool RA.s, .slice a4 MA c4] 25)) (t2.alloc (.cells #[.int .u64 (RB.fl : Int), .int .i64 RB.c, .int .i64 RB.l, .int .i64 RB.u, .int .i64 RB.b, .bool RB.s, .slice a2 MB c2] 25)).heap.size t3.heap.size RA a3 MA c3) := (F3.out.up bl).up bl9
       clear F3
       have F3 := F3x
       clear F3x
       have T5 : Hid True := trivial
       have L4 : Hid (∀ g, (Value.slice a4 MA c4).ownBlock = some g → g < (t4.alloc (.cells #[.int .u64 (RA.fl : Int), .int .i64 RA.c, .int .i64 RA.l, .int .i64 RA.u, .int .i64 RA.b, .bool RA.s, .slice a4 MA c4] 25)).heap.size) := fun g hg => Nat.lt_of_lt_of_le (h4.lt g hg).2 bl9.size
       have Z4 : Hid ((t3.alloc (.cells #[.int .u64 (RA.fl : Int), .int .i64 RA.c, .int .i64 RA.l, .int .i64 RA.u, .int .i64 RA.b, .bool RA.s, .slice a3 MA c3] 25)).heap.size ≤ (t4.alloc (.cells #[.int .u64 (RA.fl : Int), .int .i64 RA.c, .int .i64 RA.l, .int .i64 RA.u, .int .i64 RA.b, .bool RA.s, .slice a4 MA c4] 25)).heap.size) := Nat.le_trans bl.size bl9.size
       clear h4 bl bl9)
    | (go_at_call 10; have zz := T5; clear T5 zz; refine (HC5.out _ HB4.out).mono ?_; rintro e t5 ⟨a5, c5, rfl, h5, bl⟩
       have bl9 : Below t5.heap.size t5 (t5.alloc (.cells #[.int .u64 (RB.fl : Int), .int .i64 RB.c, .int .i64 RB.l, .int .i64 RB.u, .int .i64 RB.b, .bool RB.s, .slice a5 MB c5] 25)) := below_alloc' _ _
       have HB5 : Hid (Below w.heap.size w (t5.alloc (.cells #[.int .u64 (RB.fl : Int), .int .i64 RB.c, .int .i64 RB.l, .int .i64 RB.u, .int .i64 RB.b, .bool RB.s, .slice a5 MB c5] 25))) := below_trans (below_trans HB4.out bl) bl9
       have F5 : Hid (Ob (t5.alloc (.cells #[.int .u64 (RB.fl : Int), .int .i64 RB.c, .int .i64 RB.l, .int .i64 RB.u, .int .i64 RB.b, .bool RB.s, .slice a5 MB c5] 25)) (t4.alloc (.cells #[.int .u64 (RA.fl : Int), .int .i64 RA.c, .int .i64 RA.l, .int .i64 RA.u, .int .i64 RA.b, .bool RA.s, .slice a4 MA c4] 25)).heap.size t5.heap.size RB a5 MB c5) := ⟨heap_alloc_new _ _, h5.alloc _⟩
       have F1x : Hid (Bx (t5.alloc (.cells #[.int .u64 (RB.fl : Int), .int .i64 RB.c, .int .i64 RB.l, .int .i64 RB.u, .int .i64 RB.b, .bool RB.s, .slice a5 MB c5] 25)) t1.heap.size RA a1 MA c1) := (F1.out.up bl).up bl9
       clear F1
       have F1 := F1x
       clear F1x
       have F2x : Hid (Bx (t5.alloc (.cells #[.int .u64 (RB.fl : Int), .int .i64 RB.c, .int .i64 RB.l, .int .i64 RB.u, .int .i64 RB.b, .bool RB.s, .slice a5 MB c5] 25)) t2.heap.size RB a2 MB c2) := (F2.out.up bl).up bl9
       clear F2
       have F2 := F2x
       clear F2x
       have F3x : Hid (Ob (t5.alloc (.cells #[.int .u64 (RB.fl : Int), .int .i64 RB.c, .int .i64 RB.l, .int .i64 RB.u, .int .i64 RB.b, .bool RB.s, .slice a5 MB c5] 25)) (t2.alloc (.cells #[.int .u64 (RB.fl : Int), .int .i64 RB.c, .int .i64 RB.l, .int .i64 RB.u, .int .i64 RB.b, .bool RB.s, .slice a2 MB c2] 25)).heap.size t3.heap.size RA a3 MA c3) := (F3.out.up bl).up bl9
       clear F3
       have F3 := F3x
       clear F3x
       have F4x : Hid (Ob (t5.alloc (.cells #[.int .u64 (RB.fl : Int), .int .i64 RB.c, .int .i64 RB.l, .int .i64 RB.u, .int .i64 RB.b, .bool RB.s, .slice a5 MB c5] 25)) (t3.alloc (.cells #[.int .u64 (RA.fl : Int), .int .i64 RA.c, .int .i64 RA.l, .int .i64 RA.u, .int .i64 RA.b, .bool RA.s, .slice a3 MA c3] 25)).heap.size t4.heap.size RA a4 MA c4) := (F4.out.up bl).up bl9
       clear F4
       have F4 := F4x
       clear F4x
       have T6 : Hid True := trivial
       have L5 : Hid (∀ g, (Value.slice a5 MB c5).ownBlock = some g → g < (t5.alloc (.cells #[.int .u64 (RB.fl : Int), .int .i64 RB.c, .int .i64 RB.l, .int .i64 RB.u, .int .i64 RB.b, .bool RB.s, .slice a5 MB c5] 25)).heap.size) := fun g hg => Nat.lt_of_lt_of_le (h5.lt g hg).2 bl9.size
       have Z5 : Hid ((t4.alloc (.cells #[.int .u64 (RA.fl : Int), .int .i64 RA.c, .int .i64 RA.l, .int .i64 RA.u, .int .i64 RA.b, .bool RA.s, .slice a4 MA c4] 25)).heap.size ≤ (t5.alloc (.cells #[.int .u64 (RB.fl : Int), .int .i64 RB.c, .int .i64 RB.l, .int .i64 RB.u, .int .i64 RB.b, .bool RB.s, .slice a5 MB c5] 25)).heap.size) := Nat.le_trans bl.size bl9.size
       clear h5 bl bl9)
    | (go_at_call 10; have zz := T6; clear T6 zz; refine (HC6.out _ HB5.out).mono ?_; rintro e t6 ⟨a6, c6, rfl, h6, bl⟩
       have bl9 : Below t6.heap.size t6 (t6.alloc (.cells #[.int .u64 (RA.fl : Int), .int .i64 RA.c, .int .i64 RA.l, .int .i64 RA.u, .int .i64 RA.b, .bool RA.s, .slice a6 MA c6] 25)) := below_alloc' _ _
       have HB6 : Hid (Below w.heap.size w (t6.alloc (.cells #[.int .u64 (RA.fl : Int), .int .i64 RA.c, .int .i64 RA.l, .int .i64 RA.u, .int .i64 RA.b, .bool RA.s, .slice a6 MA c6] 25))) := below_trans (below_trans HB5.out bl) bl9
       have F6 : Hid (Ob (t6.alloc (.cells #[.int .u64 (RA.fl : Int), .int .i64 RA.c, .int .i64 RA.l, .int .i64 RA.u, .int .i64 RA.b, .bool RA.s, .slice a6 MA c6] 25)) (t5.alloc (.cells #[.int .u64 (RB.fl : Int), .int .i64 RB.c, .int .i64 RB.l, .int .i64 RB.u, .int .i64 RB.b, .bool RB.s, .slice a5 MB c5] 25)).heap.size t6.heap.size RA a6 MA c6) := ⟨heap_alloc_new _ _, h6.alloc _⟩
       have F1x : Hid (Bx (t6.alloc (.cells #[.int .u64 (RA.fl : Int), .int .i64 RA.c, .int .i64 RA.l, .int .i64 RA.u, .int .i64 RA.b, .bool RA.s, .slice a6 MA c6] 25)) t1.heap.size RA a1 MA c1) := (F1.out.up bl).up bl9
       clear F1
       have F1 := F1x
       clear F1x
       have F2x : Hid (Bx (t6.alloc (.cells #[.int .u64 (RA.fl : Int), .int .i64 RA.c, .int .i64 RA.l, .int .i64 RA.u, .int .i64 RA.b, .bool RA.s, .slice a6 MA c6] 25)) t2.heap.size RB a2 MB c2) := (F2.out.up bl).up bl9
       clear F2
       have F2 := F2x
       clear F2x
       have F3x : Hid (Ob (t6.alloc (.cells #[.int .u64 (RA.fl : Int), .int .i64 RA.c, .int .i64 RA.l, .int .i64 RA.u, .int .i64 RA.b, .bool RA.s, .slice a6 MA c6] 25)) (t2.alloc (.cells #[.int .u64 (RB.fl : Int), .int .i64 RB.c, .int .i64 RB.l, .int .i64 RB.u, .int .i64 RB.b, .bool RB.s, .slice a2 MB c2] 25)).heap.size t3.heap.size RA a3 MA c3) := (F3.out.up bl).up bl9
       clear F3
       have F3 := F3x
       clear F3x
       have F4x : Hid (Ob (t6.alloc (.cells #[.int .u64 (RA.fl : Int), .int .i64 RA.c, .int .i64 RA.l, .int .i64 RA.u, .int .i64 RA.b, .bool RA.s, .slice a6 MA c6] 25)) (t3.alloc (.cells #[.int .u64 (RA.fl : Int), .int .i64 RA.c, .int .i64 RA.l, .int .i64 RA.u, .int .i64 RA.b, .bool RA.s, .slice a3 MA c3] 25)).heap.size t4.heap.size RA a4 MA c4) := (F4.out.up bl).up bl9
       clear F4
       have F4 := F4x
       clear F4x
       have F5x : Hid (Ob (t6.alloc (.cells #[.int .u64 (RA.fl : Int), .int .i64 RA.c, .int .i64 RA.l, .int .i64 RA.u, .int .i64 RA.b, .bool RA.s, .slice a6 MA c6] 25)) (t4.alloc (.cells #[.int .u64 (RA.fl : Int), .int .i64 RA.c, .int .i64 RA.l, .int .i64 RA.u, .int .i64 RA.b, .bool RA.s, .slice a4 MA c4] 25)).heap.size t5.heap.size RB a5 MB c5) := (F5.out.up bl).up bl9
       clear F5
       have F5 := F5x
       clear F5x
       have S1 : Hid True := trivial
       obtain ⟨q0, q1, q2, q3, q4, q5, q6⟩ := cells7 F3.out.box
       obtain ⟨r0, r1, r2, r3, r4, r5, r6⟩ := cells7 F1.out.box
       clear h6 bl bl9)
    | (go_at_call 8; have zz := S1; clear S1 zz; refine (same_any _ _ _ _ _ _ _ _ _ _ _ RA.fs _ (F3.out.rd') F1.out.rd hMA).mono ?_; rintro e s1 ⟨rfl, bl⟩
       have HC1s : Hid (Below w.heap.size w s1) := below_trans HB6.out bl
       have F1x : Hid (Bx s1 t1.heap.size RA a1 MA c1) := F1.out.up bl
       clear F1
       have F1 := F1x
       clear F1x
       have F2x : Hid (Bx s1 t2.heap.size RB a2 MB c2) := F2.out.up bl
       clear F2
       have F2 := F2x
       clear F2x
       have F3x : Hid (Ob s1 (t2.alloc (.cells #[.int .u64 (RB.fl : Int), .int .i64 RB.c, .int .i64 RB.l, .int .i64 RB.u, .int .i64 RB.b, .bool RB.s, .slice a2 MB c2] 25)).heap.size t3.heap.size RA a3 MA c3) := F3.out.up bl
       clear F3
       have F3 := F3x
       clear F3x
       have F4x : Hid (Ob s1 (t3.alloc (.cells #[.int .u64 (RA.fl : Int), .int .i64 RA.c, .int .i64 RA.l, .int .i64 RA.u, .int .i64 RA.b, .bool RA.s, .slice a3 MA c3] 25)).heap.size t4.heap.size RA a4 MA c4) := F4.out.up bl
       clear F4
       have F4 := F4x
       clear F4x
       have F5x : Hid (Ob s1 (t4.alloc (.cells #[.int .u64 (RA.fl : Int), .int .i64 RA.c, .int .i64 RA.l, .int .i64 RA.u, .int .i64 RA.b, .bool RA.s, .slice a4 MA c4] 25)).heap.size t5.heap.size RB a5 MB c5) := F5.out.up bl
       clear F5
       have F5 := F5x
       clear F5x
       have F6x : Hid (Ob s1 (t5.alloc (.cells #[.int .u64 (RB.fl : Int), .int .i64 RB.c, .int .i64 RB.l, .int .i64 RB.u, .int .i64 RB.b, .bool RB.s, .slice a5 MB c5] 25)).heap.size t6.heap.size RA a6 MA c6) := F6.out.up bl
       clear F6
       have F6 := F6x
       clear F6x
       clear bl q0 q1 q2 q3 q4 q5 q6 r0 r1 r2 r3 r4 r5 r6
       have S2 : Hid True := trivial
       obtain ⟨q0, q1, q2, q3, q4, q5, q6⟩ := cells7 F4.out.box
       obtain ⟨r0, r1, r2, r3, r4, r5, r6⟩ := cells7 F1.out.box)
    | (go_at_call 8; have zz := S2; clear S2 zz; refine (same_any _ _ _ _ _ _ _ _ _ _ _ RA.fs _ (F4.out.rd') F1.out.rd hMA).mono ?_; rintro e s2 ⟨rfl, bl⟩
       have HC2s : Hid (Below w.heap.size w s2) := below_trans HC1s.out bl
       have F1x : Hid (Bx s2 t1.heap.size RA a1 MA c1) := F1.out.up bl
       clear F1
       have F1 := F1x
       clear F1x
       have F2x : Hid (Bx s2 t2.heap.size RB a2 MB c2) := F2.out.up bl
       clear F2
       have F2 := F2x
       clear F2x
       have F3x : Hid (Ob s2 (t2.alloc (.cells #[.int .u64 (RB.fl : Int), .int .i64 RB.c, .int .i64 RB.l, .int .i64 RB.u, .int .i64 RB.b, .bool RB.s, .slice a2 MB c2] 25)).heap.size t3.heap.size RA a3 MA c3) := F3.out.up bl
       clear F3
       have F3 := F3x
       clear F3x
       have F4x : Hid (Ob s2 (t3.alloc (.cells #[.int .u64 (RA.fl : Int), .int .i64 RA.c, .int .i64 RA.l, .int .i64 RA.u, .int .i64 RA.b, .bool RA.s, .slice a3 MA c3] 25)).heap.size t4.heap.size RA a4 MA c4) := F4.out.up bl
       clear F4
       have F4 := F4x
       clear F4x
       have F5x : Hid (Ob s2 (t4.alloc (.cells #[.int .u64 (RA.fl : Int), .int .i64 RA.c, .int .i64 RA.l, .int .i64 RA.u, .int .i64 RA.b, .bool RA.s, .slice a4 MA c4] 25)).heap.size t5.heap.size RB a5 MB c5) := F5.out.up bl
       clear F5
       have F5 := F5x
       clear F5x
       have F6x : Hid (Ob s2 (t5.alloc (.cells #[.int .u64 (RB.fl : Int), .int .i64 RB.c, .int .i64 RB.l, .int .i64 RB.u, .int .i64 RB.b, .bool RB.s, .slice a5 MB c5] 25)).heap.size t6.heap.size RA a6 MA c6) := F6.out.up bl
       clear F6
       have F6 := F6x
       clear F6x
       clear bl q0 q1 q2 q3 q4 q5 q6 r0 r1 r2 r3 r4 r5 r6
       have S3 : Hid True := trivial
       obtain ⟨q0, q1, q2, q3, q4, q5, q6⟩ := cells7 F6.out.box
       obtain ⟨r0, r1, r2, r3, r4, r5, r6⟩ := cells7 F1.out.box)
    | (go_at_call 8; have zz := S3; clear S3 zz; refine (same_any _ _ _ _ _ _ _ _ _ _ _ RA.fs _ (F6.out.rd') F1.out.rd hMA).mono ?_; rintro e s3 ⟨rfl, bl⟩
       have HC3s : Hid (Below w.heap.size w s3) := below_trans HC2s.out bl
       have F1x : Hid (Bx s3 t1.heap.size RA a1 MA c1) := F1.out.up bl
       clear F1
       have F1 := F1x
       clear F1x
       have F2x : Hid (Bx s3 t2.heap.size RB a2 MB c2) := F2.out.up bl
       clear F2
       have F2 := F2x
       clear F2x
       have F3x : Hid (Ob s3 (t2.alloc (.cells #[.int .u64 (RB.fl : Int), .int .i64 RB.c, .int .i64 RB.l, .int .i64 RB.u, .int .i64 RB.b, .bool RB.s, .slice a2 MB c2] 25)).heap.size t3.heap.size RA a3 MA c3) := F3.out.up bl
       clear F3
       have F3 := F3x
       clear F3x
       have F4x : Hid (Ob s3 (t3.alloc (.cells #[.int .u64 (RA.fl : Int), .int .i64 RA.c, .int .i64 RA.l, .int .i64 RA.u, .int .i64 RA.b, .bool RA.s, .slice a3 MA c3] 25)).heap.size t4.heap.size RA a4 MA c4) := F4.out.up bl
       clear F4
       have F4 := F4x
       clear F4x
       have F5x : Hid (Ob s3 (t4.alloc (.cells #[.int .u64 (RA.fl : Int), .int .i64 RA.c, .int .i64 RA.l, .int .i64 RA.u, .int .i64 RA.b, .bool RA.s, .slice a4 MA c4] 25)).heap.size t5.heap.size RB a5 MB c5) := F5.out.up bl
       clear F5
       have F5 := F5x
       clear F5x
       have F6x : Hid (Ob s3 (t5.alloc (.cells #[.int .u64 (RB.fl : Int), .int .i64 RB.c, .int .i64 RB.l, .int .i64 RB.u, .int .i64 RB.b, .bool RB.s, .slice a5 MB c5] 25)).heap.size t6.heap.size RA a6 MA c6) := F6.out.up bl
       clear F6
       have F6 := F6x
       clear F6x
       clear bl q0 q1 q2 q3 q4 q5 q6 r0 r1 r2 r3 r4 r5 r6
       have S4 : Hid True := trivial
       obtain ⟨q0, q1, q2, q3, q4, q5, q6⟩ := cells7 F5.out.box
       obtain ⟨r0, r1, r2, r3, r4, r5, r6⟩ := cells7 F2.out.box)
    | (go_at_call 8; have zz := S4; clear S4 zz; refine (same_any _ _ _ _ _ _ _ _ _ _ _ RB.fs _ (F5.out.rd') F2.out.rd hMB).mono ?_; rintro e s4 ⟨rfl, bl⟩
       have HC4s : Hid (Below w.heap.size w s4) := below_trans HC3s.out bl
       have F1x : Hid (Bx s4 t1.heap.size RA a1 MA c1) := F1.out.up bl
       clear F1
       have F1 := F1x
       clear F1x
       have F2x : Hid (Bx s4 t2.heap.size RB a2 MB c2) := F2.out.up bl
       clear F2
       have F2 := F2x
       clear F2x
       have F3x : Hid (Ob s4 (t2.alloc (.cells #[.int .u64 (RB.fl : Int), .int .i64 RB.c, .int .i64 RB.l, .int .i64 RB.u, .int .i64 RB.b, .bool RB.s, .slice a2 MB c2] 25)).heap.size t3.heap.size RA a3 MA c3) := F3.out.up bl
       clear F3
       have F3 := F3x
       clear F3x
       have F4x : Hid (Ob s4 (t3.alloc (.cells #[.int .u64 (RA.fl : Int), .int .i64 RA.c, .int .i64 RA.l, .int .i64 RA.u, .int .i64 RA.b, .bool RA.s, .slice a3 MA c3] 25)).heap.size t4.heap.size RA a4 MA c4) := F4.out.up bl
       clear F4
       have F4 := F4x
       clear F4x
       have F5x : Hid (Ob s4 (t4.alloc (.cells #[.int .u64 (RA.fl : Int), .int .i64 RA.c, .int .i64 RA.l, .int .i64 RA.u, .int .i64 RA.b, .bool RA.s, .slice a4 MA c4] 25)).heap.size t5.heap.size RB a5 MB c5) := F5.out.up bl
       clear F5
       have F5 := F5x
       clear F5x
       have F6x : Hid (Ob s4 (t5.alloc (.cells #[.int .u64 (RB.fl : Int), .int .i64 RB.c, .int .i64 RB.l, .int .i64 RB.u, .int .i64 RB.b, .bool RB.s, .slice a5 MB c5] 25)).heap.size t6.heap.size RA a6 MA c6) := F6.out.up bl
       clear F6
       have F6 := F6x
       clear F6x
       clear bl q0 q1 q2 q3 q4 q5 q6 r0 r1 r2 r3 r4 r5 r6
       obtain ⟨q0, q1, q2, q3, q4, q5, q6⟩ := cells7 F3.out.box
       obtain ⟨r0, r1, r2, r3, r4, r5, r6⟩ := cells7 F4.out.box
       obtain ⟨x0, x1, x2, x3, x4, x5, x6⟩ := cells7 F5.out.box
       obtain ⟨y0, y1, y2, y3, y4, y5, y6⟩ := cells7 F6.out.box
       skip)
    | (go_at_call 11
       refine (own_any _ w.heap.size s4.heap.size 4 4 (v4 (.slice a3 MA c3) (.slice a4 MA c4) (.slice a5 MB c5) (.slice a6 MA c6)) (v4 MA MA MB MA) (v4 RA.fs RA.fs RB.fs RA.fs) (apart4 s4 w.heap.size #[.int .u64 (RA.fl : Int), .int .i64 RA.c, .int .i64 RA.l, .int .i64 RA.u, .int .i64 RA.b, .bool RA.s, .slice a3 MA c3, .int .u64 (RA.fl : Int), .int .i64 RA.c, .int .i64 RA.l, .int .i64 RA.u, .int .i64 RA.b, .bool RA.s, .slice a4 MA c4, .int .u64 (RB.fl : Int), .int .i64 RB.c, .int .i64 RB.l, .int .i64 RB.u, .int .i64 RB.b, .bool RB.s, .slice a5 MB c5, .int .u64 (RA.fl : Int), .int .i64 RA.c, .int .i64 RA.l, .int .i64 RA.u, .int .i64 RA.b, .bool RA.s, .slice a6 MA c6] _ _ _ _ _ _ _ _ _ _ _ _ _ _ _ _ F3.out.own F4.out.own F5.out.own F6.out.own ⟨HB2.out.size, Z3.out, Z4.out, Z5.out⟩ L3.out L4.out L5.out rfl rfl rfl rfl hMA' hMA' hMB' hMA') (by omega) (by have := HC4s.out.size; simp; omega)).mono ?_
       rintro e s5 ⟨rfl, bl⟩
       have HD : Hid (Below w.heap.size w s5) := (below_trans HC4s.out (below_alloc' s4 (.cells #[.int .u64 (RA.fl : Int), .int .i64 RA.c, .int .i64 RA.l, .int .i64 RA.u, .int .i64 RA.b, .bool RA.s, .slice a3 MA c3, .int .u64 (RA.fl : Int), .int .i64 RA.c, .int .i64 RA.l, .int .i64 RA.u, .int .i64 RA.b, .bool RA.s, .slice a4 MA c4, .int .u64 (RB.fl : Int), .int .i64 RB.c, .int .i64 RB.l, .int .i64 RB.u, .int .i64 RB.b, .bool RB.s, .slice a5 MB c5, .int .u64 (RA.fl : Int), .int .i64 RA.c, .int .i64 RA.l, .int .i64 RA.u, .int .i64 RA.b, .bool RA.s, .slice a6 MA c6] 25))).trans bl
       clear bl))
  go_ret
  exact ⟨by first | rfl | simp, HD.out⟩

end Go.Proofs.YtnjcjaaciphcgaaDoor
