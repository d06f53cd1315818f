/-
  SEAT YtdiifegljonojaaDoor: a tree opened.
-/
import Derived.Test.YtdiifegljonojaaDoorXh
import Derived.Test.YtdiifegljonojaaDoorCards
import Derived.Deep.Strs
import Derived.Deep.Grids
import Derived.ChangeOld
import Derived.SizedLaws
import Derived.Lib.LaidTab
namespace Go.Proofs.YtdiifegljonojaaDoor
open Go.ChangeShapes Go.WideShapes Go.ChangeAt Go.RowKit Go.Joins
set_option linter.unusedVariables false

theorem cells41 : Tryd.prog.cellsOf 41 = 6 := by kernel_rfl
theorem cells9 : Tryd.prog.cellsOf 9 = 1 := by kernel_rfl
theorem cells3 : Tryd.prog.cellsOf 3 = 1 := by kernel_rfl
theorem cells39 : Tryd.prog.cellsOf 39 = 1 := by kernel_rfl
theorem cells22 : Tryd.prog.cellsOf 22 = 1 := by kernel_rfl
theorem some_bulk {H : Type} (d : DataW H) : 0 < Rows.uptoBulk d := by
  rcases d with l | _ | _ | _ | _ | _ | _ | _
  · cases l <;> simp [Rows.uptoBulk]
  all_goals simp [Rows.uptoBulk]
theorem many_bulk {H : Type} : ∀ l : List (DataW H), l.length ≤ Rows.uptoBulkAll l
  | [] => Nat.zero_le _
  | d :: r => by
    have h1 := many_bulk r
    have h2 := some_bulk d
    simp only [Rows.uptoBulkAll, List.length_cons]
    omega
theorem bulk_mem {H : Type} : ∀ (l : List (DataW H)) (d : DataW H), d ∈ l → Rows.uptoBulk d ≤ Rows.uptoBulkAll l
  | [], _, h => by cases h
  | x :: r, d, h => by
    simp only [Rows.uptoBulkAll]
    rcases List.mem_cons.1 h with rfl | h
    · omega
    · have := bulk_mem r d h
      omega
theorem cell_lt {W : World} {b o : Nat} {v : Value} (h : W.cell? ⟨b, o, none⟩ = some v) : b < W.heap.size := by
  cases hh : W.heap[b]? with
  | none => simp [World.cell?, hh] at h
  | some z => exact (Array.getElem?_eq_some_iff.1 hh).1
theorem cell_none {W : World} {x : Addr} {v : Value} (h : W.cell? (x.add 0) = some v) : x = ⟨x.block, x.off, none⟩ := by
  obtain ⟨b, o, e⟩ := x
  cases e with
  | none => rfl
  | some e =>
    exfalso
    simp [World.cell?, Addr.add] at h
    split at h <;> simp at h

section
variable {H : Type} {enc : TypeId × Value → H} {W : World}
theorem open_data {fuel : Nat} {v : Value} {y : DataW H × List MemPlace} (h : DataW.trod enc Tryd.prog W 0 (fun _ => true) true fuel 22 [v] = some y) :
    ∃ a n c zs, v = .slice a n c ∧ Reads W a n zs ∧ n ≤ c ∧ c ≤ 9223372036854775807 ∧ (∀ x, a = some x → 0 < n → x.block < W.heap.size) ∧ zs.length + 1 ≤ Rows.uptoBulk y.1 := by
  rcases open_ints Tryd.underlying22 Tryd.underlying5 (by kernel_rfl) h with ⟨hcs, hy⟩ | ⟨x, l, c, zs, hcs, _, hl, hm, hz, hx, hcell, hwz⟩
  · injection hcs with hcs
    subst hcs
    exact ⟨none, 0, 0, [], rfl, ⟨rfl, by simp, fun _ => rfl, fun _ h => by cases h⟩, by omega, by omega, (fun _ h => by cases h), some_bulk _⟩
  · injection hcs with hcs
    subst hcs
    have hz' : zs.length = c := by simpa using hz
    refine ⟨some x, l, c, zs.take l, rfl, ⟨by simp; omega, fun n hn => bounds_u8 (hwz n (List.mem_of_mem_take hn)), (fun h => by cases h), fun y hy i hi => ?_⟩, hl, by unfold maxLen at hm; omega, ?_, ?_⟩
    · cases hy
      rw [hcell i (by omega)]
      simp [List.getD, hi]
    · intro y hy hn
      cases hy
      have h9 := hcell 0 (by omega)
      have hxn := cell_none h9
      rw [hxn] at h9
      rw [Pt.add_zero] at h9
      exact cell_lt h9
    · have hd := congrArg Prod.fst hx
      rw [hd]
      simp only [Rows.uptoBulk]
      have := many_bulk (H := H) (lits .u8 (zs.take l))
      simp [lits] at this ⊢
      omega

/-- A leaf opened. -/
structure LfOk (W : World) (q : Le) (b : Nat) : Prop where
  data : ∃ da dn dc, q.d = .slice da dn dc ∧ Reads W da dn q.l.data ∧ dn ≤ dc ∧ dc ≤ 9223372036854775807 ∧ ∀ y, da = some y → 0 < dn → y.block < W.heap.size
  stamp : 0 ≤ q.l.stamp ∧ q.l.stamp < 18446744073709551616
  bulk : 7 + q.l.path.size + q.l.target.size + q.l.data.length ≤ b
set_option maxRecDepth 100000 in
theorem open_leaf {fuel : Nat} {cs : List Value} {y : DataW H × List MemPlace} (hl : cs.length = 6) (h : DataW.trod enc Tryd.prog W 0 (fun _ => true) true fuel 41 cs = some y) :
    ∃ q : Le, cs = q.cells ∧ LfOk W q (Rows.uptoBulk y.1) := by
  obtain ⟨xs, k, _, hx, _, hxl, hg⟩ := DataW.trod_struct Tryd.underlying41 h
  match cs, hl with
  | [v0, v1, v2, v3, v4, v5], _ =>
    match xs, hxl with
    | [y0, y1, y2, y3, y4, y5], _ =>
      have g0 : DataW.trod enc Tryd.prog W 0 (fun _ => true) true k 9 [v0] = some y0 := by simpa [cells9] using hg 0 _ rfl
      have g1 : DataW.trod enc Tryd.prog W 0 (fun _ => true) true k 3 [v1] = some y1 := by simpa [cells3] using hg 1 _ rfl
      have g2 : DataW.trod enc Tryd.prog W 0 (fun _ => true) true k 3 [v2] = some y2 := by simpa [cells3] using hg 2 _ rfl
      have g3 : DataW.trod enc Tryd.prog W 0 (fun _ => true) true k 39 [v3] = some y3 := by simpa [cells39] using hg 3 _ rfl
      have g4 : DataW.trod enc Tryd.prog W 0 (fun _ => true) true k 22 [v4] = some y4 := by simpa [cells22] using hg 4 _ rfl
      have g5 : DataW.trod enc Tryd.prog W 0 (fun _ => true) true k 9 [v5] = some y5 := by simpa [cells9] using hg 5 _ rfl
      obtain ⟨z0, e0, d0, _⟩ := DataW.trod_string Tryd.underlying9 g0
      obtain ⟨z1, e1, d1, w1⟩ := DataW.trod_int Tryd.underlying3 g1
      obtain ⟨z2, e2, d2, w2⟩ := DataW.trod_int Tryd.underlying3 g2
      obtain ⟨z3, e3, d3, w3⟩ := DataW.trod_int Tryd.underlying39 g3
      obtain ⟨a, n, c, zs, e4, hr, hnc, hc, hlow, hb4⟩ := open_data g4
      obtain ⟨z5, e5, d5, _⟩ := DataW.trod_string Tryd.underlying9 g5
      injection e0 with e0
      injection e1 with e1
      injection e2 with e2
      injection e3 with e3
      injection e5 with e5
      subst e0 e1 e2 e3 e4 e5
      have b3 := bounds_u64 w3
      refine ⟨⟨⟨z0, z1, z2, z3, zs, z5⟩, .slice a n c⟩, rfl, ⟨a, n, c, rfl, hr, hnc, hc, hlow⟩, ⟨b3.1, by have := b3.2; simp only; omega⟩, ?_⟩
      have hd : y.1 = .agg [y0.1, y1.1, y2.1, y3.1, y4.1, y5.1] := by
        have := congrArg Prod.fst hx
        simpa using this
      rw [hd]
      simp only [Rows.uptoBulk, Rows.uptoBulkAll]
      have q1 := some_bulk y1.1
      have q2 := some_bulk y2.1
      have q3 := some_bulk y3.1
      have q0 : Rows.uptoBulk y0.1 = z0.size + 1 := by rw [d0]; simp [Rows.uptoBulk]
      have q5 : Rows.uptoBulk y5.1 = z5.size + 1 := by rw [d5]; simp [Rows.uptoBulk]
      rw [q0, q5]
      omega
/-- Sums over all leaves. -/
theorem range_bulk (D : Nat → DataW H) (f : Nat → Nat) : ∀ l, (∀ i, i < l → f i ≤ Rows.uptoBulk (D i)) → ((List.range l).map f).sum ≤ Rows.uptoBulkAll ((List.range l).map D) := by
  have key : ∀ L : List Nat, (∀ i ∈ L, f i ≤ Rows.uptoBulk (D i)) → (L.map f).sum ≤ Rows.uptoBulkAll (L.map D) := by
    intro L
    induction L with
    | nil => intro _; exact Nat.le_refl _
    | cons i r ih =>
      intro h
      have h1 := h i List.mem_cons_self
      have h2 := ih (fun j hj => h j (List.mem_cons_of_mem _ hj))
      simp only [List.map_cons, List.sum_cons, Rows.uptoBulkAll]
      omega
  intro l h
  exact key _ (fun i hi => h i (List.mem_range.1 hi))
def wt (l : Lf) : Nat := 7 + l.path.size + l.target.size + l.data.length
theorem most_wt : ∀ es : List Lf, 7 * mostS es ≤ 22 * (es.map wt).sum
  | [] => Nat.le_refl _
  | l :: r => by
    have h1 := most_wt r
    have h2 := tlF_le l.path.data.toList 0
    have h3 : l.path.data.toList.length = l.path.size := rfl
    have h4 : wt l = 7 + l.path.size + l.target.size + l.data.length := rfl
    rw [mostS, List.map_cons, List.sum_cons, h4]
    unfold mostF
    omega
theorem sz_wt : ∀ es : List Lf, szL es ≤ 300 * (es.map wt).sum
  | [] => Nat.le_refl _
  | l :: r => by
    have h1 := sz_wt r
    have h4 : wt l = 7 + l.path.size + l.target.size + l.data.length := rfl
    rw [szL, List.map_cons, List.sum_cons, h4]
    omega
theorem wt_mem : ∀ (es : List Lf) (l : Lf), l ∈ es → wt l ≤ (es.map wt).sum
  | x :: r, l, h => by
    rw [List.map_cons, List.sum_cons]
    rcases List.mem_cons.1 h with rfl | h
    · omega
    · have := wt_mem r l h; omega
set_option maxRecDepth 100000 in
theorem open_leavesB {fuel : Nat} {v : Value} {y : DataW H × List MemPlace} (h : DataW.trod enc Tryd.prog W 0 (fun _ => true) true fuel 26 [v] = some y) (hb : Rows.uptoBulk y.1 ≤ 1048576) :
    ∃ es : List Le, RdL W W.heap.size v es ∧ ((es.map Le.l).map wt).sum ≤ Rows.uptoBulk y.1 := by
  rcases Deep.open_slice Tryd.underlying26 h with ⟨hcs, _⟩ | ⟨x, l, c, m, n, D, Pl, hcs, _, hl, hm, hmm, hx, hcell⟩
  · injection hcs with hcs
    subst hcs
    exact ⟨[], ⟨⟨none, 0, rfl, Nat.le_refl _, Nat.zero_le _, (fun h => absurd h (by decide))⟩, (fun _ h => by cases h), (fun _ h => by cases h), (fun _ h => by cases h)⟩, by simp⟩
  · injection hcs with hcs
    subst hcs
    have each : ∀ i, i < l → ∃ q : Le, LfOk W q (Rows.uptoBulk (D i)) ∧ ∀ j, j < 6 → W.cell? (x.add (i * 6 + j)) = q.cells[j]? := by
      intro i hi
      obtain ⟨cs', h1, h2⟩ := hcell i (by rw [hmm]; simp; omega)
      rw [cells41] at h1
      obtain ⟨_, hlen, hc⟩ := World.cells?_some h1
      obtain ⟨q, hq, hok⟩ := open_leaf hlen h2
      refine ⟨q, hok, fun j hj => ?_⟩
      have h9 := hc j hj
      rw [Deep.add_add] at h9
      rw [← hq, h9]
    have : Inhabited Le := ⟨⟨⟨⟨#[]⟩, 0, 0, 0, [], ⟨#[]⟩⟩, .slice none 0 0⟩⟩
    obtain ⟨q, hq⟩ := Deep.choose_lt each
    have hd := (Prod.mk.inj hx).1
    have hsum : (((List.range l).map q).map (fun e => wt e.l)).sum ≤ Rows.uptoBulk y.1 := by
      have h1 := range_bulk D (fun i => wt (q i).l) l (fun i hi => by have := (hq i hi).1.bulk; unfold wt; omega)
      rw [List.map_map]
      rw [hd]
      simp only [Rows.uptoBulk]
      have h2 : ((fun e : Le => wt e.l) ∘ q) = fun i => wt (q i).l := rfl
      rw [h2]
      omega
    have hmem : ∀ e ∈ (List.range l).map q, ∃ b, LfOk W e b := by
      intro e he
      obtain ⟨i, hi, rfl⟩ := List.mem_map.1 he
      exact ⟨_, (hq i (List.mem_range.1 hi)).1⟩
    have hwt : (((List.range l).map q).map Le.l).map wt = ((List.range l).map q).map (fun e => wt e.l) := by rw [List.map_map]; rfl
    refine ⟨(List.range l).map q, ⟨?_, ?_, ?_, ?_⟩, by rw [hwt]; exact hsum⟩
    · refine ⟨some x, c, by simp, by simpa using hl, by unfold maxLen at hm; omega, fun h0 => ?_⟩
      have hl0 : 0 < l := by simpa using h0
      have h00 := (hq 0 hl0).2 0 (by omega)
      have hxn : x = ⟨x.block, x.off, none⟩ := cell_none (v := .string (q 0).l.path) h00
      refine ⟨x.block, x.off, congrArg some hxn, ?_, fun k hk j hj => ?_⟩
      · rw [hxn, Pt.add_zero] at h00
        exact cell_lt (v := .string (q 0).l.path) h00
      · have hk' : k < l := by simpa using hk
        have h9 := (hq k hk').2 j hj
        rw [hxn, Pt.add_zero] at h9
        rw [Nat.add_assoc, h9]
        simp [hk']
    · intro e he
      obtain ⟨b, h9⟩ := hmem e he
      exact h9.data
    · intro e he
      obtain ⟨b, h9⟩ := hmem e he
      exact h9.stamp
    · intro e he
      have h9 := wt_mem (((List.range l).map q).map Le.l) e.l (List.mem_map_of_mem he)
      have h4 : wt e.l = 7 + e.l.path.size + e.l.target.size + e.l.data.length := rfl
      rw [hwt, h4] at h9
      omega
theorem open_leaves {fuel : Nat} {v : Value} {y : DataW H × List MemPlace} (h : DataW.trod enc Tryd.prog W 0 (fun _ => true) true fuel 26 [v] = some y) (hb : Rows.uptoBulk y.1 ≤ 1048576) :
    ∃ es : List Le, RdL W W.heap.size v es ∧ ((es.map Le.l).map wt).sum ≤ 1048576 := by
  obtain ⟨es, h1, h2⟩ := open_leavesB h hb
  exact ⟨es, h1, by omega⟩
end
theorem mostS_tail (l : List Lf) : mostS l.tail ≤ mostS l := by
  cases l with
  | nil => exact Nat.le_refl _
  | cons x r => rw [List.tail_cons, mostS]; omega
theorem backWalk (v : Value) (es : List Le) (w : World) (h : RdL w w.heap.size v es) (hs : ((es.map Le.l).map wt).sum ≤ 1048576) (hT : Tab w) :
    Calls Tryd.prog 4 #[v] w fun e w' => e = .returned (.bool true) ∧ Below w.heap.size w w' := by
  have h1 := most_wt (es.map Le.l)
  have h2 := sz_wt (es.map Le.l)
  have h3 := mostS_tail (es.map Le.l)
  cases hp : packM (es.map Le.l) with
  | error x => exact back_err v es x w h hT (by omega) hp
  | ok row => exact back_ok v es row w h hT (by omega) hp (by omega)
end Go.Proofs.YtdiifegljonojaaDoor
