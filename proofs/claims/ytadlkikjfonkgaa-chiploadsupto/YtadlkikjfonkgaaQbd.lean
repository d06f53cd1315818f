/-
  SEAT Ytadlkikjfonkgaa: Xn.
-/
import Derived.Test.YtadlkikjfonkgaaQbb
import Derived.Test.YtadlkikjfonkgaaQq
namespace Go.Proofs.Ytadlkikjfonkgaa
open Go.RowKit Go.Conc
set_option linter.unusedVariables false
set_option maxRecDepth 100000
set_option maxHeartbeats 4000000
theorem owns_low {w : World} {B e size n : Nat} {v : Value} {xs : List Value} (h : w.ownsRow B e size v n xs) : w.ownsRow 0 e size v n xs := ⟨h.1, h.2.imp id fun ⟨g, cap, cur, h1, h2, rest⟩ => ⟨g, cap, cur, h1, Nat.zero_le _, rest⟩⟩
def Nws (w u : World) : Nat → Prop := fun k => w.heap.size ≤ k ∧ k < u.heap.size
structure RowsS (w u : World) (L P : Nat) (rv : Value) (rs : List Rc) : Prop where
 bel : Below w.heap.size w u
 row : u.ownsRow w.heap.size 142 4 rv rs.length (rs.flatMap Rc.cells)
 rok : ∀ r ∈ rs, RcOk u (Nws w u) L P r
 gs : rs.Pairwise (fun b c => b.g ≠ c.g)
 nf : ∀ r ∈ rs, ∀ l ∈ r.ls, l.fs = .slice none 0 0 ∧ l.xs = []
structure LeavesS (w u : World) (L : Nat) (rs : List Rc) (lv : Value) (ls : List Lc) : Prop where
 row : u.ownsRow w.heap.size 144 3 lv ls.length (ls.flatMap Lc.cells)
 lok : ∀ l ∈ ls, LcOk u (Nws w u) L l
 nf : ∀ l ∈ ls, l.fs = .slice none 0 0 ∧ l.xs = []
 far : ∀ r ∈ rs, lv.ownBlock ≠ some r.g
section
variable {w u v : World} {L P : Nat} {rv lv : Value} {rs : List Rc} {ls : List Lc}
theorem LcOk.nws {l : Lc} (h : LcOk u (Nws w u) L l) (hn : l.fs = .slice none 0 0) (hs : u.heap.size ≤ v.heap.size) (hk : ∀ g, Is5 u g → v.heap[g]? = u.heap[g]?) : LcOk v (Nws w v) L l := by
 obtain ⟨g, h1, h2, h3', h4, h5', cs, fr, h6⟩ := h.sl
 have hg : v.heap[g]? = u.heap[g]? := hk g ⟨cs, fr, h6⟩
 refine ⟨h.len, h.byt, ⟨g, h1, ⟨h2.1, Nat.lt_of_lt_of_le h2.2 hs⟩, h3', h4, reads_keep h5' (fun y hy _ => by rw [h1] at hy; cases hy; exact hg), ⟨cs, fr, hg.trans h6⟩⟩, ?_, fun g hg => by rw [hn] at hg; cases hg⟩
 refine owns_keep h.row (fun g hg => by rw [hn] at hg; cases hg)
theorem RowsS.keep (h : RowsS w u L P rv rs) (hb : Below w.heap.size w v) (hs : u.heap.size ≤ v.heap.size) (h1 : ∀ g, rv.ownBlock = some g → v.heap[g]? = u.heap[g]?) (h2 : ∀ r ∈ rs, v.heap[r.g]? = u.heap[r.g]?) (h5 : ∀ g, Is5 u g → v.heap[g]? = u.heap[g]?) : RowsS w v L P rv rs :=
 ⟨hb, owns_keep h.row h1, fun r hr => ⟨owns_keep (h.rok r hr).row (fun g hg => by cases hg; exact h2 r hr), ⟨(h.rok r hr).fg.1, Nat.lt_of_lt_of_le (h.rok r hr).fg.2 hs⟩, (h.rok r hr).np, fun l hl => ((h.rok r hr).lf l hl).nws (h.nf r hr l hl).1 hs h5⟩, h.gs, h.nf⟩
theorem RowsS.below (h : RowsS w u L P rv rs) (hb : Below u.heap.size u v) : RowsS w v L P rv rs :=
 h.keep (below_trans h.bel hb) hb.size (fun g hg => hb.block _ (h.row.lt g hg).2) (fun r hr => hb.block _ (h.rok r hr).fg.2) (fun g ⟨_, _, hc⟩ => hb.block _ (lt_of_block hc))
theorem LeavesS.keep (h : LeavesS w u L rs lv ls) (hs : u.heap.size ≤ v.heap.size) (h1 : ∀ g, lv.ownBlock = some g → v.heap[g]? = u.heap[g]?) (h5 : ∀ g, Is5 u g → v.heap[g]? = u.heap[g]?) : LeavesS w v L rs lv ls :=
 ⟨owns_keep h.row h1, fun l hl => (h.lok l hl).nws (h.nf l hl).1 hs h5, h.nf, h.far⟩
theorem LeavesS.below (h : LeavesS w u L rs lv ls) (hb : Below u.heap.size u v) : LeavesS w v L rs lv ls :=
 h.keep hb.size (fun g hg => hb.block _ (h.row.lt g hg).2) (fun g ⟨_, _, hc⟩ => hb.block _ (lt_of_block hc))
end
structure Nw0 (w u : World) (B P S L c : Nat) (go : Array Value) (gt : Nat) (fv rv : Value) (rs : List Rc) : Prop where
 rows : RowsS w u L P rv rs
 gb : u.heap[w.heap.size]? = some (.cells go gt (0, 0))
 gk : gt ≠ 5 ∧ gt ≠ 142 ∧ gt ≠ 144 ∧ gt ≠ 135
 box : u.heap[c]? = some (.cells #[.int .i64 (B : Int), .int .i64 (P : Int), .int .i64 (S : Int), rv, fv, .bool false, .int .i64 0, .slice none 0 0] 135 (0, 0))
 cge : w.heap.size ≤ c
structure Nw1 (w u : World) (B P S L c : Nat) (go : Array Value) (gt : Nat) (fv rv : Value) (rs : List Rc) (q : Nat) (mm rr : Bool) (lv : Value) (ls : List Lc) : Prop where
 n0 : Nw0 w u B P S L c go gt fv rv rs
 lvs : LeavesS w u L rs lv ls
 qb : u.heap[q]? = some (.cells #[lv, .bool mm, .bool rr, .int .i64 0] 142 (0, 0))
 qne : rv.ownBlock ≠ some q
 qge : w.heap.size ≤ q
section
variable {w u v Y : World} {B P S L c gt q : Nat} {go : Array Value} {fv rv lv : Value} {rs : List Rc} {ls : List Lc} {mm rr : Bool}
theorem Nw0.below (h : Nw0 w u B P S L c go gt fv rv rs) (hb : Below u.heap.size u v) : Nw0 w v B P S L c go gt fv rv rs :=
 ⟨h.rows.below hb, (hb.block _ (lt_of_block h.gb)).trans h.gb, h.gk, (hb.block _ (lt_of_block h.box)).trans h.box, h.cge⟩
theorem Nw1.below (h : Nw1 w u B P S L c go gt fv rv rs q mm rr lv ls) (hb : Below u.heap.size u v) : Nw1 w v B P S L c go gt fv rv rs q mm rr lv ls :=
 ⟨h.n0.below hb, h.lvs.below hb, (hb.block _ (lt_of_block h.qb)).trans h.qb, h.qne, h.qge⟩
theorem Nw0.begin (h : Nw0 w u B P S L c go gt fv rv rs) (mm rr : Bool) : Nw1 w (u.alloc (.cells #[.slice none 0 0, .bool mm, .bool rr, .int .i64 0] 142)) B P S L c go gt fv rv rs u.heap.size mm rr (.slice none 0 0) [] :=
 ⟨h.below (below_alloc _ _), ⟨World.ownsRow_nil _ _ _ _, (fun l hl => by cases hl), (fun l hl => by cases hl), (fun r hr e => by cases e)⟩, alloc_new _ _, fun e => by have := (h.rows.row.lt _ e).2; omega, h.rows.bel.size⟩
theorem Nw1.push (h : Nw1 w u B P S L c go gt fv rv rs q mm rr lv ls) {g gn nc cg : Nat} {bits : List Int} (hbit : Own u w.heap.size g L cg bits) (hr : ∀ z ∈ bits, (0 : Int) ≤ z ∧ z ≤ 255)
  (own : Y.ownsRow w.heap.size 144 3 (.slice (some ⟨gn, 0, none⟩) (ls.length + 1) nc) (ls.length + 1) (ls.flatMap Lc.cells ++ [.slice (some ⟨g, 0, none⟩) L cg, .slice none 0 0, .bool false])) (grow : u.grownBy Y lv.ownBlock) (lies : lv.ownBlock = some gn ∨ gn = u.heap.size) :
  Nw1 w (Y.setCell ⟨q, 0, none⟩ (.slice (some ⟨gn, 0, none⟩) (ls.length + 1) nc)) B P S L c go gt fv rv rs q mm rr (.slice (some ⟨gn, 0, none⟩) (ls.length + 1) nc) (ls ++ [⟨some ⟨g, 0, none⟩, L, cg, none, 0, 0, bits, [], false⟩]) ∧ Y.cell? ⟨q, 0, none⟩ = some lv ∧ Y.frozen? ⟨q, 0, none⟩ = false ∧ Below w.heap.size w Y ∧ Y.heap[w.heap.size]? = some (.cells go gt (0, 0)) ∧ Y.heap[q]? = some (.cells #[lv, .bool mm, .bool rr, .int .i64 0] 142 (0, 0)) := by
 have lvt : ∀ a, lv.ownBlock = some a → ∃ cs : Array Value, u.heap[a]? = some (Obj.cells cs 144 (0, 0)) := fun a ha => own_tag h.lvs.row ha
 have kY : ∀ {a : Nat} {cs : Array Value} {t : TypeId} {fr : Nat × Nat}, u.heap[a]? = some (Obj.cells cs t fr) → t ≠ 144 → Y.heap[a]? = u.heap[a]? := fun {a cs t fr} ha ht => grow.block a (lt_of_block ha) (fun e => by
  obtain ⟨c2, h2⟩ := lvt a e.symm
  rw [ha] at h2
  cases h2
  exact ht rfl)
 have hbY : Below w.heap.size w Y := h.n0.rows.bel.grown grow h.n0.rows.bel.size (fun a ha => (h.lvs.row.lt a ha).1)
 have hq := (kY h.qb (by decide)).trans h.qb
 have o2 := Only.setCell (· = q) Y q 0 (.slice (some ⟨gn, 0, none⟩) (ls.length + 1) nc) rfl
 have hqs : Below w.heap.size w (Y.setCell ⟨q, 0, none⟩ (.slice (some ⟨gn, 0, none⟩) (ls.length + 1) nc)) := hbY.setCell (p := ⟨q, 0, none⟩) h.qge _
 have kk : ∀ {a : Nat}, a ≠ q → a < u.heap.size → Y.heap[a]? = u.heap[a]? → (Y.setCell ⟨q, 0, none⟩ (.slice (some ⟨gn, 0, none⟩) (ls.length + 1) nc)).heap[a]? = u.heap[a]? := fun hne hlt O => (o2.block _ (Nat.lt_of_lt_of_le hlt grow.size) hne).trans O
 have nq : ∀ {a : Nat} {cs : Array Value} {t : TypeId} {fr : Nat × Nat}, u.heap[a]? = some (Obj.cells cs t fr) → t ≠ 142 → a ≠ q := fun {a cs t fr} ha ht e => by
  rw [e, h.qb] at ha
  cases ha
  exact ht rfl
 have k5 : ∀ g, Is5 u g → (Y.setCell ⟨q, 0, none⟩ (.slice (some ⟨gn, 0, none⟩) (ls.length + 1) nc)).heap[g]? = u.heap[g]? := fun g ⟨cs, fr, hc⟩ => kk (nq hc (by decide)) (lt_of_block hc) (kY hc (by decide))
 have hsz : u.heap.size ≤ (Y.setCell ⟨q, 0, none⟩ (.slice (some ⟨gn, 0, none⟩) (ls.length + 1) nc)).heap.size := Nat.le_trans grow.size o2.size
 have hrow : ∀ r ∈ rs, (Y.setCell ⟨q, 0, none⟩ (.slice (some ⟨gn, 0, none⟩) (ls.length + 1) nc)).heap[r.g]? = u.heap[r.g]? := fun r hr9 => by
  obtain ⟨cs, hc⟩ := own_tag (h.n0.rows.rok r hr9).row rfl
  exact kk (nq hc (by decide)) (lt_of_block hc) (grow.block _ (lt_of_block hc) (fun e => h.lvs.far r hr9 e.symm))
 have hrv : ∀ a, rv.ownBlock = some a → (Y.setCell ⟨q, 0, none⟩ (.slice (some ⟨gn, 0, none⟩) (ls.length + 1) nc)).heap[a]? = u.heap[a]? := fun a ha => by
  obtain ⟨cs, hc⟩ := own_tag h.n0.rows.row ha
  exact kk (fun e => h.qne (e ▸ ha)) (lt_of_block hc) (kY hc (by decide))
 obtain ⟨cb, hcb⟩ := own_tag hbit rfl
 obtain ⟨cn, hcn⟩ := own_tag own rfl
 have hgq : gn ≠ q := fun e => by rw [e, hq] at hcn; cases hcn
 refine ⟨⟨⟨h.n0.rows.keep hqs hsz hrv hrow k5, ?_, h.n0.gk, ?_, h.n0.cge⟩, ⟨?_, ?_, ?_, ?_⟩, heap_setCell_same Y q 0 _ 142 _ hq, h.qne, h.qge⟩, by simp [World.cell?, hq], frozen_of_row _ q 0 _ 142 hq, hbY, (kY h.n0.gb h.n0.gk.2.2.1).trans h.n0.gb, hq⟩
 ·exact (kk (nq h.n0.gb h.n0.gk.2.1) (lt_of_block h.n0.gb) (kY h.n0.gb h.n0.gk.2.2.1)).trans h.n0.gb
 ·exact (kk (nq h.n0.box (by decide)) (lt_of_block h.n0.box) (kY h.n0.box (by decide))).trans h.n0.box
 ·rw [List.flatMap_append, List.length_append]
  exact owns_keep own (fun a ha => by cases ha; exact o2.block _ (lt_of_block hcn) hgq)
 ·intro l hl
  rcases List.mem_append.1 hl with h1 | h1
  ·exact (h.lvs.lok l h1).nws (h.lvs.nf l h1).1 hsz k5
  ·have e : l = ⟨some ⟨g, 0, none⟩, L, cg, none, 0, 0, bits, [], false⟩ := by simpa using h1
   subst e
   have hg5 := k5 g ⟨cb, (0, 0), hcb⟩
   exact ⟨hbit.len, hr, ⟨g, rfl, ⟨hbit.lt.1, Nat.lt_of_lt_of_le hbit.lt.2 hsz⟩, rfl, own_cap hbit, reads_keep (own_reads'' hbit hr) (fun y hy _ => by cases hy; exact hg5), ⟨cb, (0, 0), hg5.trans hcb⟩⟩, World.ownsRow_nil _ _ _ _, fun a ha => by cases ha⟩
 ·intro l hl
  rcases List.mem_append.1 hl with h1 | h1
  ·exact h.lvs.nf l h1
  ·have e : l = ⟨some ⟨g, 0, none⟩, L, cg, none, 0, 0, bits, [], false⟩ := by simpa using h1
   subst e
   exact ⟨rfl, rfl⟩
 ·intro r hr9 e
  have e2 : gn = r.g := Option.some.inj e
  rcases lies with h1 | h1
  ·exact h.lvs.far r hr9 (e2 ▸ h1)
  ·have := (h.n0.rows.rok r hr9).fg.2
   omega
theorem Nw1.done (h : Nw1 w u B P S L c go gt fv rv rs q mm rr lv ls) (hp : ls.length = P) {lg cap : Nat} (hlv : lv = .slice (some ⟨lg, 0, none⟩) ls.length cap) {gn nc : Nat}
  (own : Y.ownsRow w.heap.size 142 4 (.slice (some ⟨gn, 0, none⟩) (rs.length + 1) nc) (rs.length + 1) (rs.flatMap Rc.cells ++ [lv, .bool mm, .bool rr, .int .i64 0])) (grow : u.grownBy Y rv.ownBlock) :
  Nw0 w (Y.setCell ⟨c, 3, none⟩ (.slice (some ⟨gn, 0, none⟩) (rs.length + 1) nc)) B P S L c go gt fv (.slice (some ⟨gn, 0, none⟩) (rs.length + 1) nc) (rs ++ [⟨lg, cap, mm, rr, 0, ls⟩]) ∧ Y.cell? ⟨c, 3, none⟩ = some rv ∧ Y.frozen? ⟨c, 3, none⟩ = false ∧ Y.heap[q]? = some (.cells #[lv, .bool mm, .bool rr, .int .i64 0] 142 (0, 0)) := by
 have rvt : ∀ a, rv.ownBlock = some a → ∃ cs : Array Value, u.heap[a]? = some (Obj.cells cs 142 (0, 0)) := fun a ha => own_tag h.n0.rows.row ha
 have kY : ∀ {a : Nat} {cs : Array Value} {t : TypeId} {fr : Nat × Nat}, u.heap[a]? = some (Obj.cells cs t fr) → t ≠ 142 → Y.heap[a]? = u.heap[a]? := fun {a cs t fr} ha ht => grow.block a (lt_of_block ha) (fun e => by
  obtain ⟨c2, h2⟩ := rvt a e.symm
  rw [ha] at h2
  cases h2
  exact ht rfl)
 have hbY : Below w.heap.size w Y := h.n0.rows.bel.grown grow h.n0.rows.bel.size (fun a ha => (h.n0.rows.row.lt a ha).1)
 have hc3 := (kY h.n0.box (by decide)).trans h.n0.box
 have o2 := Only.setCell (· = c) Y c 3 (.slice (some ⟨gn, 0, none⟩) (rs.length + 1) nc) rfl
 have nc' : ∀ {a : Nat} {cs : Array Value} {t : TypeId} {fr : Nat × Nat}, u.heap[a]? = some (Obj.cells cs t fr) → t ≠ 135 → a ≠ c := fun {a cs t fr} ha ht e => by
  rw [e, h.n0.box] at ha
  cases ha
  exact ht rfl
 have kk : ∀ {a : Nat}, a ≠ c → a < u.heap.size → Y.heap[a]? = u.heap[a]? → (Y.setCell ⟨c, 3, none⟩ (.slice (some ⟨gn, 0, none⟩) (rs.length + 1) nc)).heap[a]? = u.heap[a]? := fun hne hlt O => (o2.block _ (Nat.lt_of_lt_of_le hlt grow.size) hne).trans O
 have k5 : ∀ g, Is5 u g → (Y.setCell ⟨c, 3, none⟩ (.slice (some ⟨gn, 0, none⟩) (rs.length + 1) nc)).heap[g]? = u.heap[g]? := fun g ⟨cs, fr, hc⟩ => kk (nc' hc (by decide)) (lt_of_block hc) (kY hc (by decide))
 have hsz : u.heap.size ≤ (Y.setCell ⟨c, 3, none⟩ (.slice (some ⟨gn, 0, none⟩) (rs.length + 1) nc)).heap.size := Nat.le_trans grow.size o2.size
 have k144 : ∀ {a : Nat} {cs : Array Value}, u.heap[a]? = some (Obj.cells cs 144 (0, 0)) → (Y.setCell ⟨c, 3, none⟩ (.slice (some ⟨gn, 0, none⟩) (rs.length + 1) nc)).heap[a]? = u.heap[a]? := fun hc => kk (nc' hc (by decide)) (lt_of_block hc) (kY hc (by decide))
 obtain ⟨cn, hcn⟩ := own_tag own rfl
 have hgc : gn ≠ c := fun e => by rw [e, hc3] at hcn; cases hcn
 have hqY : Y.heap[q]? = u.heap[q]? := grow.block q (lt_of_block h.qb) (fun e => h.qne e.symm)
 refine ⟨⟨⟨hbY.setCell (p := ⟨c, 3, none⟩) h.n0.cge _, ?_, ?_, ?_, ?_⟩, ?_, h.n0.gk, heap_setCell_same Y c 3 _ 135 _ hc3, h.n0.cge⟩, by simp [World.cell?, hc3], frozen_of_row _ c 3 _ 135 hc3, hqY.trans h.qb⟩
 ·rw [List.flatMap_append, List.length_append]
  have e : [(⟨lg, cap, mm, rr, 0, ls⟩ : Rc)].flatMap Rc.cells = [lv, .bool mm, .bool rr, .int .i64 0] := by rw [hlv]; rfl
  rw [e]
  exact owns_keep own (fun a ha => by cases ha; exact o2.block _ (lt_of_block hcn) hgc)
 ·intro r hr
  rcases List.mem_append.1 hr with h1 | h1
  ·have h9 := h.n0.rows.rok r h1
   obtain ⟨cs, hcs⟩ := own_tag h9.row rfl
   exact ⟨owns_keep h9.row (fun g hg => by cases hg; exact k144 hcs), ⟨h9.fg.1, Nat.lt_of_lt_of_le h9.fg.2 hsz⟩, h9.np, fun l hl => (h9.lf l hl).nws (h.n0.rows.nf r h1 l hl).1 hsz k5⟩
  ·have e : r = ⟨lg, cap, mm, rr, 0, ls⟩ := by simpa using h1
   subst e
   have hrow := h.lvs.row
   rw [hlv] at hrow
   obtain ⟨cs, hcs⟩ := own_tag hrow rfl
   have hge := (hrow.lt lg rfl)
   exact ⟨owns_keep (owns_low hrow) (fun g hg => by cases hg; exact k144 hcs), ⟨hge.1, Nat.lt_of_lt_of_le hge.2 hsz⟩, hp, fun l hl => (h.lvs.lok l hl).nws (h.lvs.nf l hl).1 hsz k5⟩
 ·rw [List.pairwise_append]
  refine ⟨h.n0.rows.gs, List.pairwise_singleton _ _, fun r hr s hs => ?_⟩
  have e : s = ⟨lg, cap, mm, rr, 0, ls⟩ := by simpa using hs
  subst e
  intro e9
  exact h.lvs.far r hr (by rw [hlv]; show some lg = some r.g; rw [e9])
 ·intro r hr l hl
  rcases List.mem_append.1 hr with h1 | h1
  ·exact h.n0.rows.nf r h1 l hl
  ·have e : r = ⟨lg, cap, mm, rr, 0, ls⟩ := by simpa using h1
   subst e
   exact h.lvs.nf l hl
 ·exact (kk (nc' h.n0.gb h.n0.gk.2.2.2) (lt_of_block h.n0.gb) (kY h.n0.gb h.n0.gk.2.1)).trans h.n0.gb
theorem Nw0.ref {fs : List Fc} {fa : Option Addr} {fn fc gr cr : Nat} (h : Nw0 w u B P S L c go gt (.slice fa fn fc) rv rs) (hL : L = pgB S) (hn : rs.length = B) (hrv : rv = .slice (some ⟨gr, 0, none⟩) rs.length cr) (hF : ReadsF w fa fn fs) (hfb : faultsB fs = true) :
  RAt w u c (Nws w u) ⟨B, P, S, rs.map Rc.v, fun _ _ => [], fs.map Fc.t, false, 0, []⟩ fs ⟨B, P, S, gr, rs.length, cr, fa, fn, fc, false, 0, none, 0, 0⟩ rs := by
 subst hL
 have hrow := h.rows.row
 have hbox := h.box
 rw [hrv] at hrow hbox
 refine ⟨h.rows.bel, fun k hk => hk.1, hF, hbox, ⟨h.cge, lt_of_block h.box⟩, rfl, rfl, rfl, rfl, rfl, rfl, owns_low hrow, ⟨(hrow.lt gr rfl).1, (hrow.lt gr rfl).2⟩, rfl, h.rows.rok, h.rows.gs, ?_, ?_, ?_, World.ownsRow_nil _ _ _ _, rfl, fun g hg => (by cases hg), fun k hk => hk.2⟩
 ·refine List.pairwise_of_forall_mem_list (fun l hl m hm k hk => ?_)
  obtain ⟨r, hr, hlr⟩ := List.mem_flatMap.1 hl
  rw [(h.rows.nf r hr l hlr).1] at hk
  cases hk
 ·intro i k r l h1 h2
  exact (h.rows.nf r (List.mem_of_getElem? h1) l (List.mem_of_getElem? h2)).2
 ·unfold faultsB at hfb
  rw [Bool.and_eq_true] at hfb
  show fs.map Fc.t = _
  symm
  refine List.filter_eq_self.2 (fun f hf => ?_)
  obtain ⟨d, hd, rfl⟩ := List.mem_map.1 hf
  have := (fmb_low fs (-1) hfb.2 d hd).1
  exact decide_eq_true (show ((0 : Nat) : Int) ≤ d.a by omega)
end
end Go.Proofs.Ytadlkikjfonkgaa
