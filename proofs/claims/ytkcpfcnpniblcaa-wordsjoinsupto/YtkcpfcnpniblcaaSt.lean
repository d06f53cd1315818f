/-
  SEAT Ytkcpfcnpniblcaa: rows of the call's own, all at once; how all stands while WordsJoins goes on.
-/
import Derived.Test.YtkcpfcnpniblcaaApD
import Derived.Test.YtkcpfcnpniblcaaKitG
namespace Go.Proofs.Ytkcpfcnpniblcaa
open Go.RowKit
set_option linter.unusedVariables false

def Far (p q : Value × List Int) : Prop := ∀ g, p.1.ownBlock = some g → q.1.ownBlock ≠ some g
theorem Far.symm {p q : Value × List Int} (h : Far p q) : Far q p := fun g h1 h2 => h g h2 h1

/-- Rows, each in a block of its own. -/
structure Live (w : World) (B : Nat) (R : List (Value × List Int)) : Prop where
  rows : ∀ p ∈ R, w.ownsRow B 5 1 p.1 p.2.length (p.2.map (Value.int .u8))
  far : R.Pairwise Far

theorem own_of_below {w w' : World} {B n : Nat} {v : Value} {xs : List Value} {e : TypeId} (h : w.ownsRow B e 1 v n xs) (hb : Below w.heap.size w w') : w'.ownsRow B e 1 v n xs := by
  obtain ⟨h1, h2⟩ := h
  refine ⟨h1, ?_⟩
  rcases h2 with h2 | ⟨g', cap', cur, hv, hg, hh, r⟩
  · exact Or.inl h2
  · refine Or.inr ⟨g', cap', cur, hv, hg, ?_, r⟩
    rw [hb.block g' ?_]
    · exact hh
    · rcases Nat.lt_or_ge g' w.heap.size with h | h
      · exact h
      · simp [Array.getElem?_eq_none h] at hh

theorem Live.below {w w' : World} {B : Nat} {R : List (Value × List Int)} (h : Live w B R) (hb : Below w.heap.size w w') : Live w' B R :=
  ⟨fun p hp => own_of_below (h.rows p hp) hb, h.far⟩

theorem own_base {w : World} {B B' n : Nat} {v : Value} {xs : List Value} (h : w.ownsRow B 5 1 v n xs) (hb : B' ≤ B) : w.ownsRow B' 5 1 v n xs :=
  ⟨h.1, h.2.imp id fun ⟨g, c, cur, h1, h2, h3⟩ => ⟨g, c, cur, h1, Nat.le_trans hb h2, h3⟩⟩

theorem Live.add {w w' : World} {B n : Nat} {R : List (Value × List Int)} {v : Value} {xs : List Int} (h : Live w B R) (hb : Below w.heap.size w w') (hB : B ≤ w.heap.size) (hl : xs.length = n)
    (hr : w'.ownsRow w.heap.size 5 1 v n (xs.map (Value.int .u8))) : Live w' B ((v, xs) :: R) := by
  subst hl
  refine ⟨fun p hp => ?_, List.pairwise_cons.2 ⟨fun q hq g h1 h2 => ?_, h.far⟩⟩
  · rcases List.mem_cons.1 hp with rfl | hp
    · exact own_base hr hB
    · exact (h.below hb).rows p hp
  · have := (hr.lt g h1).1
    have := ((h.rows q hq).lt g h2).2
    omega

theorem Live.set {w w' : World} {B n : Nat} (R1 R2 : List (Value × List Int)) {v : Value} {xs ys : List Int} (h : Live w B (R1 ++ (v, xs) :: R2)) (hg : w.grownBy w' v.ownBlock) (hl : ys.length = n)
    (hr : w'.ownsRow B 5 1 v n (ys.map (Value.int .u8))) : Live w' B (R1 ++ (v, ys) :: R2) := by
  subst hl
  have hf := h.far
  rw [List.pairwise_append, List.pairwise_cons] at hf
  obtain ⟨f1, ⟨f2, f3⟩, f4⟩ := hf
  have sep : ∀ p ∈ R1 ++ (v, xs) :: R2, Far p (v, xs) → w'.ownsRow B 5 1 p.1 p.2.length (p.2.map (Value.int .u8)) := fun p hp hfar => by
    refine (h.rows p hp).kept hg ?_
    cases hb : p.1.ownBlock with
    | none => exact Or.inl rfl
    | some g => exact Or.inr fun e => hfar g hb e.symm
  refine ⟨fun p hp => ?_, ?_⟩
  · rcases List.mem_append.1 hp with hp | hp
    · exact sep p (by simp [hp]) (f4 p hp (v, xs) (by simp))
    · rcases List.mem_cons.1 hp with rfl | hp
      · exact hr
      · exact sep p (by simp [hp]) (f2 p hp).symm
  · rw [List.pairwise_append, List.pairwise_cons]
    exact ⟨f1, ⟨fun q hq => f2 q hq, f3⟩, fun p hp q hq => by
      rcases List.mem_cons.1 hq with rfl | hq
      · exact f4 p hp (v, xs) (by simp)
      · exact f4 p hp q (by simp [hq])⟩

theorem Live.drewN {w : World} {B : Nat} {R : List (Value × List Int)} (h : Live w B R) (k : Nat) : Live (w.drewN k) B R := ⟨fun p hp => h.rows p hp, h.far⟩

theorem Live.own {w : World} {B n : Nat} {R : List (Value × List Int)} {v : Value} {xs : List Int} (h : Live w B R) (hm : (v, xs) ∈ R) (hl : xs.length = n) : w.ownsRow B 5 1 v n (xs.map (Value.int .u8)) := by
  subst hl
  exact h.rows _ hm

theorem reads_of {w : World} {B n c : Nat} {a : Option Addr} {xs : List Int} (h : w.ownsRow B 5 1 (.slice a n c) n (xs.map (Value.int .u8))) (hr : ∀ x ∈ xs, 0 ≤ x ∧ x ≤ 255) : Reads w a n xs := by
  obtain ⟨a', c', e, hrd⟩ := own_any h hr
  cases e
  exact hrd

theorem Live.reads {w : World} {B n c : Nat} {R : List (Value × List Int)} {a : Option Addr} {xs : List Int} (h : Live w B R) (hm : (.slice a n c, xs) ∈ R) (hl : xs.length = n) (hr : ∀ x ∈ xs, 0 ≤ x ∧ x ≤ 255) : Reads w a n xs :=
  reads_of (h.own hm hl) hr


theorem rows_at {w : World} {B : Nat} {R : List (Value × List Int)} (h : Live w B R) (idx : List Nat) (hn : idx.Nodup) (hlt : ∀ i ∈ idx, i < R.length) (P : List (Value × List Int)) (hP : P = idx.map (fun i => R.getD i (.slice none 0 0, []))) (hsm : ∀ p ∈ P, p.2.length ≤ 140737488355000) (m : Nat) (hm : P.length = m) (cs : Array Value) (hcs : cs.toList = P.map (·.1)) :
    Apart (w.alloc (.cells cs 22)) B w.heap.size m (fun i => (P.getD i (.slice none 0 0, [])).1) (fun i => (P.getD i (.slice none 0 0, [])).2.length) (fun i => (P.getD i (.slice none 0 0, [])).2) := by
  subst hm
  have hget : ∀ i, (hi : i < P.length) → P.getD i (.slice none 0 0, []) = P[i] := fun i hi => by rw [List.getD_eq_getElem?_getD, List.getElem?_eq_getElem hi]; rfl
  have hRget : ∀ i, (hi : i < R.length) → R.getD i (.slice none 0 0, []) = R[i] := fun i hi => by rw [List.getD_eq_getElem?_getD, List.getElem?_eq_getElem hi]; rfl
  have hmem : ∀ i, (hi : i < P.length) → P[i] ∈ R := fun i hi => by
    have h1 : P[i] ∈ idx.map (fun i => R.getD i (.slice none 0 0, [])) := by rw [← hP]; exact List.getElem_mem hi
    obtain ⟨j, hj, e⟩ := List.mem_map.1 h1
    rw [hRget j (hlt j hj)] at e
    rw [← e]
    exact List.getElem_mem _
  have hfar := List.pairwise_iff_getElem.1 h.far
  have hpw : P.Pairwise Far := by
    rw [hP, List.pairwise_map]
    refine List.Pairwise.imp_of_mem (R := fun a b => a ≠ b) ?_ hn
    intro a b ha hb hne
    rw [hRget a (hlt a ha), hRget b (hlt b hb)]
    rcases Nat.lt_or_gt_of_ne hne with h1 | h1
    · exact hfar a b (hlt a ha) (hlt b hb) h1
    · exact (hfar b a (hlt b hb) (hlt a ha) h1).symm
  rw [List.pairwise_iff_getElem] at hpw
  refine ⟨fun i hi => ?_, fun i hi => ?_, fun i hi => ?_, fun i j hi hj hne g hb => ?_, fun i hi => ?_, by simp⟩
  · rw [hget i hi]
    have : cs[i]? = some P[i].1 := by rw [← Array.getElem?_toList, hcs, List.getElem?_map, List.getElem?_eq_getElem hi]; rfl
    have key : ∀ (u : World) (g : Nat), u.heap[g]? = some (.cells cs 22 (0, 0)) → u.cell? ⟨g, i, none⟩ = some P[i].1 := fun u g h => by simp [World.cell?, h, this]
    exact key _ _ (heap_alloc_new w (.cells cs 22))
  · rw [hget i hi]; exact hsm _ (List.getElem_mem hi)
  · rw [hget i hi]; exact (h.rows _ (hmem i hi)).alloc _
  · rw [hget i hi] at hb
    rw [hget j hj]
    rcases Nat.lt_or_gt_of_ne hne with h1 | h1
    · exact hpw i j hi hj h1 g hb
    · exact (hpw j i hj hi h1).symm g hb
  · rw [hget i hi]
    intro e
    have := ((h.rows _ (hmem i hi)).lt _ e).2
    omega


theorem Own.apart {w w' : World} {B g n cap g' : Nat} {xs : List Int} (h : Own w B g n cap xs) (hg : w.grownBy w' (some g')) (hne : g ≠ g') : Own w' B g n cap xs :=
  World.ownsRow.kept h hg (Or.inr (by simp [Value.ownBlock]; exact hne))

theorem Own.under {w w' : World} {B0 B g n cap : Nat} {xs : List Int} (h : Own w B0 g n cap xs) (hb : Below B w w') (hg : g < B) : Own w' B0 g n cap xs := by
  obtain ⟨h1, h2⟩ := h
  refine ⟨h1, ?_⟩
  rcases h2 with h2 | ⟨g', cap', cur, hv, hg', hh, r⟩
  · exact Or.inl h2
  · have : g' = g := by cases hv; rfl
    subst this
    exact Or.inr ⟨g', cap', cur, hv, hg', by rw [hb.block g' hg]; exact hh, r⟩

/-- Three rows with marks behind them, each in its block below B; above it all that was told since. -/
structure St (w0 w : World) (B gx cx gy cy gz cz : Nat) (x y z : List Int) (R : List (Value × List Int)) : Prop where
  ox : Own w w0.heap.size gx (x.length + 3) cx (x ++ [161, 178, 195])
  oy : Own w w0.heap.size gy (y.length + 3) cy (y ++ [161, 178, 195])
  oz : Own w w0.heap.size gz (z.length + 3) cz (z ++ [161, 178, 195])
  lv : Live w B R
  bel : Below w0.heap.size w0 w
  hB : B ≤ w.heap.size
  lx : gx < B
  ly : gy < B
  lz : gz < B
  xy : gx ≠ gy
  xz : gx ≠ gz
  yz : gy ≠ gz

theorem own_down {w : World} {B B' g n c : Nat} {xs : List Int} (h : Own w B g n c xs) (hb : B' ≤ B) : Own w B' g n c xs := own_base h hb

theorem St.start {w0 u1 u2 u3 : World} {gx cx gy cy gz cz : Nat} {x y z : List Int} (o1 : Own u1 w0.heap.size gx (x.length + 3) cx (x ++ [161, 178, 195])) (b1 : Below w0.heap.size w0 u1)
    (o2 : Own u2 u1.heap.size gy (y.length + 3) cy (y ++ [161, 178, 195])) (b2 : Below u1.heap.size u1 u2) (o3 : Own u3 u2.heap.size gz (z.length + 3) cz (z ++ [161, 178, 195])) (b3 : Below u2.heap.size u2 u3) :
    St w0 u3 u3.heap.size gx cx gy cy gz cz x y z [] := by
  have s1 := b1.size
  have s2 := b2.size
  have s3 := b3.size
  have l1 := o1.lt
  have l2 := o2.lt
  have l3 := o3.lt
  exact ⟨(o1.below b2).below b3, own_down (o2.below b3) s1, own_down o3 (by omega), ⟨by simp, List.Pairwise.nil⟩, (b1.trans (b2.mono s1)).trans (b3.mono (by omega)), Nat.le_refl _, by omega, by omega, by omega, by omega, by omega, by omega⟩

section
variable {w0 w w' : World} {B gx cx gy cy gz cz : Nat} {x y z : List Int} {R : List (Value × List Int)}

theorem St.below (h : St w0 w B gx cx gy cy gz cz x y z R) (hb : Below w.heap.size w w') : St w0 w' B gx cx gy cy gz cz x y z R :=
  ⟨h.ox.below hb, h.oy.below hb, h.oz.below hb, h.lv.below hb, h.bel.trans (hb.mono h.bel.size), Nat.le_trans h.hB hb.size, h.lx, h.ly, h.lz, h.xy, h.xz, h.yz⟩

theorem St.add {n : Nat} {v : Value} {xs : List Int} (h : St w0 w B gx cx gy cy gz cz x y z R) (hb : Below w.heap.size w w') (hl : xs.length = n) (hr : w'.ownsRow w.heap.size 5 1 v n (xs.map (Value.int .u8))) :
    St w0 w' B gx cx gy cy gz cz x y z ((v, xs) :: R) :=
  ⟨h.ox.below hb, h.oy.below hb, h.oz.below hb, h.lv.add hb h.hB hl hr, h.bel.trans (hb.mono h.bel.size), Nat.le_trans h.hB hb.size, h.lx, h.ly, h.lz, h.xy, h.xz, h.yz⟩

theorem St.drewN (h : St w0 w B gx cx gy cy gz cz x y z R) (k : Nat) : St w0 (w.drewN k) B gx cx gy cy gz cz x y z R :=
  ⟨h.ox.drewN k, h.oy.drewN k, h.oz.drewN k, h.lv.drewN k, below_drewN h.bel k, by simpa using h.hB, h.lx, h.ly, h.lz, h.xy, h.xz, h.yz⟩

theorem Own.mreads {u : World} {B g l c : Nat} {xs : List Int} (h : Own u B g (xs.length + 3) c (xs ++ [161, 178, 195])) (hl : xs.length = l) (hr : ∀ x ∈ xs, 0 ≤ x ∧ x ≤ 255) : Reads u (some ⟨g, 0, none⟩) l xs := by
  subst hl
  have h1 := h.reads (marks_range xs hr) xs.length (by omega)
  rwa [List.take_left' rfl] at h1

theorem St.rx {l : Nat} (h : St w0 w B gx cx gy cy gz cz x y z R) (hl : x.length = l) (hr : ∀ q ∈ x, 0 ≤ q ∧ q ≤ 255) : Reads w (some ⟨gx, 0, none⟩) l x := h.ox.mreads hl hr
theorem St.ry {l : Nat} (h : St w0 w B gx cx gy cy gz cz x y z R) (hl : y.length = l) (hr : ∀ q ∈ y, 0 ≤ q ∧ q ≤ 255) : Reads w (some ⟨gy, 0, none⟩) l y := h.oy.mreads hl hr
theorem St.rz {l : Nat} (h : St w0 w B gx cx gy cy gz cz x y z R) (hl : z.length = l) (hr : ∀ q ∈ z, 0 ≤ q ∧ q ≤ 255) : Reads w (some ⟨gz, 0, none⟩) l z := h.oz.mreads hl hr

theorem St.kx {l : Nat} (h : St w0 w B gx cx gy cy gz cz x y z R) (hl : x.length = l) : Own w w0.heap.size gx (l + 3) cx (x ++ [161, 178, 195]) := hl ▸ h.ox
theorem St.ky {l : Nat} (h : St w0 w B gx cx gy cy gz cz x y z R) (hl : y.length = l) : Own w w0.heap.size gy (l + 3) cy (y ++ [161, 178, 195]) := hl ▸ h.oy
theorem St.kz {l : Nat} (h : St w0 w B gx cx gy cy gz cz x y z R) (hl : z.length = l) : Own w w0.heap.size gz (l + 3) cz (z ++ [161, 178, 195]) := hl ▸ h.oz

theorem Live.outside {g : Nat} (h : Live w B R) (hg : w.grownBy w' (some g)) (hlt : g < B) : Live w' B R := by
  refine ⟨fun p hp => (h.rows p hp).kept hg ?_, h.far⟩
  cases hb : p.1.ownBlock with
  | none => exact Or.inl rfl
  | some q =>
    refine Or.inr fun e => ?_
    have := ((h.rows p hp).lt q hb).1
    cases e
    omega

theorem St.setx {x' : List Int} (h : St w0 w B gx cx gy cy gz cz x y z R) (hg : w.grownBy w' (some gx)) (hl : x'.length = x.length) (ho : Own w' w0.heap.size gx (x.length + 3) cx (x' ++ [161, 178, 195])) : St w0 w' B gx cx gy cy gz cz x' y z R :=
  ⟨by rw [hl]; exact ho, h.oy.apart hg h.xy.symm, h.oz.apart hg h.xz.symm, h.lv.outside hg h.lx, h.bel.grown hg h.bel.size (fun k hk => by cases hk; exact h.ox.lt.1), Nat.le_trans h.hB hg.size, h.lx, h.ly, h.lz, h.xy, h.xz, h.yz⟩
theorem St.sety {y' : List Int} (h : St w0 w B gx cx gy cy gz cz x y z R) (hg : w.grownBy w' (some gy)) (hl : y'.length = y.length) (ho : Own w' w0.heap.size gy (y.length + 3) cy (y' ++ [161, 178, 195])) : St w0 w' B gx cx gy cy gz cz x y' z R :=
  ⟨h.ox.apart hg h.xy, by rw [hl]; exact ho, h.oz.apart hg h.yz.symm, h.lv.outside hg h.ly, h.bel.grown hg h.bel.size (fun k hk => by cases hk; exact h.oy.lt.1), Nat.le_trans h.hB hg.size, h.lx, h.ly, h.lz, h.xy, h.xz, h.yz⟩
theorem St.setz {z' : List Int} (h : St w0 w B gx cx gy cy gz cz x y z R) (hg : w.grownBy w' (some gz)) (hl : z'.length = z.length) (ho : Own w' w0.heap.size gz (z.length + 3) cz (z' ++ [161, 178, 195])) : St w0 w' B gx cx gy cy gz cz x y z' R :=
  ⟨h.ox.apart hg h.xz, h.oy.apart hg h.yz, by rw [hl]; exact ho, h.lv.outside hg h.lz, h.bel.grown hg h.bel.size (fun k hk => by cases hk; exact h.oz.lt.1), Nat.le_trans h.hB hg.size, h.lx, h.ly, h.lz, h.xy, h.xz, h.yz⟩

theorem St.under (h : St w0 w B gx cx gy cy gz cz x y z R) (hb : Below B w w') (hB0 : w0.heap.size ≤ B) : St w0 w' B gx cx gy cy gz cz x y z [] :=
  ⟨h.ox.under hb h.lx, h.oy.under hb h.ly, h.oz.under hb h.lz, ⟨by simp, List.Pairwise.nil⟩, h.bel.trans (hb.mono hB0), Nat.le_trans h.hB hb.size, h.lx, h.ly, h.lz, h.xy, h.xz, h.yz⟩
theorem St.base (h : St w0 w B gx cx gy cy gz cz x y z R) : w0.heap.size ≤ B := by have := h.ox.lt.1; have := h.lx; omega
theorem St.row {n c : Nat} {a : Option Addr} {xs : List Int} (h : St w0 w B gx cx gy cy gz cz x y z R) (hm : (.slice a n c, xs) ∈ R) (hl : xs.length = n) (hr : ∀ x ∈ xs, 0 ≤ x ∧ x ≤ 255) : Reads w a n xs := h.lv.reads hm hl hr
theorem St.str {n c : Nat} {a : Option Addr} {xs : List Int} (h : St w0 w B gx cx gy cy gz cz x y z R) (hm : (.slice a n c, xs) ∈ R) (hl : xs.length = n) (hr : ∀ x ∈ xs, 0 ≤ x ∧ x ≤ 255) :
    (convert 22 9 (.slice a n c)).run Try.prog w = .ok (.string (strOfNums xs)) w := conv a n c xs w (h.row hm hl hr)
end

theorem lit2 (w : World) (p q : Int) (hp : 0 ≤ p ∧ p ≤ 255) (hq : 0 ≤ q ∧ q ≤ 255) : Reads (w.alloc (.cells #[.int .u8 p, .int .u8 q] 5)) (some ⟨w.heap.size, 0, none⟩) 2 [p, q] := by
  refine ⟨rfl, by simp; omega, (fun h => by cases h), fun x hx i hi => ?_⟩
  cases hx
  rcases (show i = 0 ∨ i = 1 by omega) with rfl | rfl
  · simp [Addr.add]
  · simp [Addr.add]

end Go.Proofs.Ytkcpfcnpniblcaa
