/-
  SEAT Ytkcpfcnpniblcab: how all stands while WordsFalls goes on.
-/
import Derived.Test.YtkcpfcnpniblcabFl
namespace Go.Proofs.Ytkcpfcnpniblcab
open Go.RowKit
set_option linter.unusedVariables false

theorem Own.apart {w w' : World} {B g n cap g' : Nat} {xs : List Int} (h : Own w B g n cap xs) (hg : w.grownBy w' (some g')) (hne : g ≠ g') : Own w' B g n cap xs :=
  World.ownsRow.kept h hg (Or.inr (by simp [Value.ownBlock]; exact hne))

theorem Own.under {w w' : World} {B0 B g n cap : Nat} {xs : List Int} (h : Own w B0 g n cap xs) (hb : Below B w w') (hg : g < B) : Own w' B0 g n cap xs := by
  obtain ⟨h1, h2⟩ := h
  refine ⟨h1, ?_⟩
  rcases h2 with h2 | ⟨g', cap', cur, hv, hg', hh, r⟩
  · exact Or.inl h2
  · have : g' = g := by cases hv; rfl
    subst this
    exact Or.inr ⟨g', cap', cur, hv, hg', by rw [hb.block g' hg]; exact hh, r⟩

/-- Three rows with marks behind them, each in its block below B; above it all that was told since. -/
structure St (w0 w : World) (B gx cx gy cy gz cz : Nat) (x y z : List Int) (R : List (Value × List Int)) : Prop where
  ox : Own w w0.heap.size gx (x.length + 3) cx (x ++ [161, 178, 195])
  oy : Own w w0.heap.size gy (y.length + 3) cy (y ++ [161, 178, 195])
  oz : Own w w0.heap.size gz (z.length + 3) cz (z ++ [161, 178, 195])
  lv : Live w B R
  bel : Below w0.heap.size w0 w
  hB : B ≤ w.heap.size
  lx : gx < B
  ly : gy < B
  lz : gz < B
  xy : gx ≠ gy
  xz : gx ≠ gz
  yz : gy ≠ gz

theorem own_down {w : World} {B B' g n c : Nat} {xs : List Int} (h : Own w B g n c xs) (hb : B' ≤ B) : Own w B' g n c xs := own_base h hb

theorem St.start {w0 u1 u2 u3 : World} {gx cx gy cy gz cz : Nat} {x y z : List Int} (o1 : Own u1 w0.heap.size gx (x.length + 3) cx (x ++ [161, 178, 195])) (b1 : Below w0.heap.size w0 u1)
    (o2 : Own u2 u1.heap.size gy (y.length + 3) cy (y ++ [161, 178, 195])) (b2 : Below u1.heap.size u1 u2) (o3 : Own u3 u2.heap.size gz (z.length + 3) cz (z ++ [161, 178, 195])) (b3 : Below u2.heap.size u2 u3) :
    St w0 u3 u3.heap.size gx cx gy cy gz cz x y z [] := by
  have s1 := b1.size
  have s2 := b2.size
  have s3 := b3.size
  have l1 := o1.lt
  have l2 := o2.lt
  have l3 := o3.lt
  exact ⟨(o1.below b2).below b3, own_down (o2.below b3) s1, own_down o3 (by omega), ⟨by simp, List.Pairwise.nil⟩, (b1.trans (b2.mono s1)).trans (b3.mono (by omega)), Nat.le_refl _, by omega, by omega, by omega, by omega, by omega, by omega⟩

section
variable {w0 w w' : World} {B gx cx gy cy gz cz : Nat} {x y z : List Int} {R : List (Value × List Int)}

theorem St.below (h : St w0 w B gx cx gy cy gz cz x y z R) (hb : Below w.heap.size w w') : St w0 w' B gx cx gy cy gz cz x y z R :=
  ⟨h.ox.below hb, h.oy.below hb, h.oz.below hb, h.lv.below hb, h.bel.trans (hb.mono h.bel.size), Nat.le_trans h.hB hb.size, h.lx, h.ly, h.lz, h.xy, h.xz, h.yz⟩

theorem St.add {n : Nat} {v : Value} {xs : List Int} (h : St w0 w B gx cx gy cy gz cz x y z R) (hb : Below w.heap.size w w') (hl : xs.length = n) (hr : w'.ownsRow w.heap.size 5 1 v n (xs.map (Value.int .u8))) :
    St w0 w' B gx cx gy cy gz cz x y z ((v, xs) :: R) :=
  ⟨h.ox.below hb, h.oy.below hb, h.oz.below hb, h.lv.add hb h.hB hl hr, h.bel.trans (hb.mono h.bel.size), Nat.le_trans h.hB hb.size, h.lx, h.ly, h.lz, h.xy, h.xz, h.yz⟩

theorem St.drewN (h : St w0 w B gx cx gy cy gz cz x y z R) (k : Nat) : St w0 (w.drewN k) B gx cx gy cy gz cz x y z R :=
  ⟨h.ox.drewN k, h.oy.drewN k, h.oz.drewN k, h.lv.drewN k, below_drewN h.bel k, by simpa using h.hB, h.lx, h.ly, h.lz, h.xy, h.xz, h.yz⟩

theorem Own.mreads {u : World} {B g l c : Nat} {xs : List Int} (h : Own u B g (xs.length + 3) c (xs ++ [161, 178, 195])) (hl : xs.length = l) (hr : ∀ x ∈ xs, 0 ≤ x ∧ x ≤ 255) : Reads u (some ⟨g, 0, none⟩) l xs := by
  subst hl
  have h1 := h.reads (marks_range xs hr) xs.length (by omega)
  rwa [List.take_left' rfl] at h1

theorem St.rx {l : Nat} (h : St w0 w B gx cx gy cy gz cz x y z R) (hl : x.length = l) (hr : ∀ q ∈ x, 0 ≤ q ∧ q ≤ 255) : Reads w (some ⟨gx, 0, none⟩) l x := h.ox.mreads hl hr
theorem St.ry {l : Nat} (h : St w0 w B gx cx gy cy gz cz x y z R) (hl : y.length = l) (hr : ∀ q ∈ y, 0 ≤ q ∧ q ≤ 255) : Reads w (some ⟨gy, 0, none⟩) l y := h.oy.mreads hl hr
theorem St.rz {l : Nat} (h : St w0 w B gx cx gy cy gz cz x y z R) (hl : z.length = l) (hr : ∀ q ∈ z, 0 ≤ q ∧ q ≤ 255) : Reads w (some ⟨gz, 0, none⟩) l z := h.oz.mreads hl hr

theorem St.kx {l : Nat} (h : St w0 w B gx cx gy cy gz cz x y z R) (hl : x.length = l) : Own w w0.heap.size gx (l + 3) cx (x ++ [161, 178, 195]) := hl ▸ h.ox
theorem St.ky {l : Nat} (h : St w0 w B gx cx gy cy gz cz x y z R) (hl : y.length = l) : Own w w0.heap.size gy (l + 3) cy (y ++ [161, 178, 195]) := hl ▸ h.oy
theorem St.kz {l : Nat} (h : St w0 w B gx cx gy cy gz cz x y z R) (hl : z.length = l) : Own w w0.heap.size gz (l + 3) cz (z ++ [161, 178, 195]) := hl ▸ h.oz

theorem Live.outside {g : Nat} (h : Live w B R) (hg : w.grownBy w' (some g)) (hlt : g < B) : Live w' B R := by
  refine ⟨fun p hp => (h.rows p hp).kept hg ?_, h.far⟩
  cases hb : p.1.ownBlock with
  | none => exact Or.inl rfl
  | some q =>
    refine Or.inr fun e => ?_
    have := ((h.rows p hp).lt q hb).1
    cases e
    omega

theorem St.setx {x' : List Int} (h : St w0 w B gx cx gy cy gz cz x y z R) (hg : w.grownBy w' (some gx)) (hl : x'.length = x.length) (ho : Own w' w0.heap.size gx (x.length + 3) cx (x' ++ [161, 178, 195])) : St w0 w' B gx cx gy cy gz cz x' y z R :=
  ⟨by rw [hl]; exact ho, h.oy.apart hg h.xy.symm, h.oz.apart hg h.xz.symm, h.lv.outside hg h.lx, h.bel.grown hg h.bel.size (fun k hk => by cases hk; exact h.ox.lt.1), Nat.le_trans h.hB hg.size, h.lx, h.ly, h.lz, h.xy, h.xz, h.yz⟩
theorem St.sety {y' : List Int} (h : St w0 w B gx cx gy cy gz cz x y z R) (hg : w.grownBy w' (some gy)) (hl : y'.length = y.length) (ho : Own w' w0.heap.size gy (y.length + 3) cy (y' ++ [161, 178, 195])) : St w0 w' B gx cx gy cy gz cz x y' z R :=
  ⟨h.ox.apart hg h.xy, by rw [hl]; exact ho, h.oz.apart hg h.yz.symm, h.lv.outside hg h.ly, h.bel.grown hg h.bel.size (fun k hk => by cases hk; exact h.oy.lt.1), Nat.le_trans h.hB hg.size, h.lx, h.ly, h.lz, h.xy, h.xz, h.yz⟩
theorem St.setz {z' : List Int} (h : St w0 w B gx cx gy cy gz cz x y z R) (hg : w.grownBy w' (some gz)) (hl : z'.length = z.length) (ho : Own w' w0.heap.size gz (z.length + 3) cz (z' ++ [161, 178, 195])) : St w0 w' B gx cx gy cy gz cz x y z' R :=
  ⟨h.ox.apart hg h.xz, h.oy.apart hg h.yz, by rw [hl]; exact ho, h.lv.outside hg h.lz, h.bel.grown hg h.bel.size (fun k hk => by cases hk; exact h.oz.lt.1), Nat.le_trans h.hB hg.size, h.lx, h.ly, h.lz, h.xy, h.xz, h.yz⟩

theorem St.under (h : St w0 w B gx cx gy cy gz cz x y z R) (hb : Below B w w') (hB0 : w0.heap.size ≤ B) : St w0 w' B gx cx gy cy gz cz x y z [] :=
  ⟨h.ox.under hb h.lx, h.oy.under hb h.ly, h.oz.under hb h.lz, ⟨by simp, List.Pairwise.nil⟩, h.bel.trans (hb.mono hB0), Nat.le_trans h.hB hb.size, h.lx, h.ly, h.lz, h.xy, h.xz, h.yz⟩
theorem St.base (h : St w0 w B gx cx gy cy gz cz x y z R) : w0.heap.size ≤ B := by have := h.ox.lt.1; have := h.lx; omega
theorem St.row {n c : Nat} {a : Option Addr} {xs : List Int} (h : St w0 w B gx cx gy cy gz cz x y z R) (hm : (.slice a n c, xs) ∈ R) (hl : xs.length = n) (hr : ∀ x ∈ xs, 0 ≤ x ∧ x ≤ 255) : Reads w a n xs := h.lv.reads hm hl hr
theorem St.str {n c : Nat} {a : Option Addr} {xs : List Int} (h : St w0 w B gx cx gy cy gz cz x y z R) (hm : (.slice a n c, xs) ∈ R) (hl : xs.length = n) (hr : ∀ x ∈ xs, 0 ≤ x ∧ x ≤ 255) :
    (convert 22 9 (.slice a n c)).run Try.prog w = .ok (.string (strOfNums xs)) w := conv a n c xs w (h.row hm hl hr)
end

theorem lit2 (w : World) (p q : Int) (hp : 0 ≤ p ∧ p ≤ 255) (hq : 0 ≤ q ∧ q ≤ 255) : Reads (w.alloc (.cells #[.int .u8 p, .int .u8 q] 5)) (some ⟨w.heap.size, 0, none⟩) 2 [p, q] := by
  refine ⟨rfl, by simp; omega, (fun h => by cases h), fun x hx i hi => ?_⟩
  cases hx
  rcases (show i = 0 ∨ i = 1 by omega) with rfl | rfl
  · simp [Addr.add]
  · simp [Addr.add]

theorem fall_lit (u : World) : Calls Try.prog 7 #[.slice (some ⟨u.heap.size, 0, none⟩) 2 2, .slice (some ⟨u.heap.size + 1, 0, none⟩) 2 2, .slice (some ⟨u.heap.size + 1 + 1, 0, none⟩) 1 1, .int .u8 255] (((u.alloc (.cells #[.int .u8 255, .int .u8 255] 5)).alloc (.cells #[.int .u8 0, .int .u8 15] 5)).alloc (.cells #[.int .u8 1] 5))
    fun e w' => ∃ g c, e = .returned (.tuple #[.slice (some ⟨g, 0, none⟩) 2 c, .int .i64 0]) ∧ w'.ownsRow u.heap.size 5 1 (.slice (some ⟨g, 0, none⟩) 2 c) 2 (([254, 15] : List Int).map (Value.int .u8)) ∧ Below u.heap.size u w' := by
  have b1 := (Below.refl u.heap.size u).alloc (Nat.le_refl _) (.cells #[.int .u8 255, .int .u8 255] 5)
  have b2 := b1.alloc (by simp) (.cells #[.int .u8 0, .int .u8 15] 5)
  have b3 := b2.alloc (by simp; omega) (.cells #[.int .u8 1] 5)
  have r1 := lit2 u 255 255 (by decide) (by decide)
  have r2 := lit2 (u.alloc (.cells #[.int .u8 255, .int .u8 255] 5)) 0 15 (by decide) (by decide)
  have r3 := one_reads ((u.alloc (.cells #[.int .u8 255, .int .u8 255] 5)).alloc (.cells #[.int .u8 0, .int .u8 15] 5)) 1 (by decide) (by decide)
  have r1' := (r1.below ((Below.refl _ _).alloc (Nat.le_refl _) (.cells #[.int .u8 0, .int .u8 15] 5))).below ((Below.refl _ _).alloc (Nat.le_refl _) (.cells #[.int .u8 1] 5))
  have r2' := r2.below ((Below.refl _ _).alloc (Nat.le_refl _) (.cells #[.int .u8 1] 5))
  have e1 : (u.alloc (.cells #[.int .u8 255, .int .u8 255] 5)).heap.size = u.heap.size + 1 := by simp
  have e2 : ((u.alloc (.cells #[.int .u8 255, .int .u8 255] 5)).alloc (.cells #[.int .u8 0, .int .u8 15] 5)).heap.size = u.heap.size + 1 + 1 := by simp
  rw [e1] at r2'
  rw [e2] at r3
  refine (fall_ok _ 2 2 _ _ 2 _ _ 1 1 _ 255 _ (by omega) (by omega) r1' r2' r3).mono fun e w' ⟨g, c, he, ho, hb⟩ => ⟨g, c, he, ?_, b3.trans (hb.mono b3.size)⟩
  have e3 : fallL [255, 255] [0, 15] [1] 255 2 = [254, 15] := by decide +kernel
  rw [e3] at ho
  exact own_base ho b3.size

theorem rise_lit (u : World) : Calls Try.prog 8 #[.slice (some ⟨u.heap.size, 0, none⟩) 2 2, .slice (some ⟨u.heap.size + 1, 0, none⟩) 1 1, .int .u8 128] ((u.alloc (.cells #[.int .u8 0, .int .u8 1] 5)).alloc (.cells #[.int .u8 3] 5))
    fun e w' => ∃ g c, e = .returned (.slice (some ⟨g, 0, none⟩) 2 c) ∧ w'.ownsRow u.heap.size 5 1 (.slice (some ⟨g, 0, none⟩) 2 c) 2 (([3, 129] : List Int).map (Value.int .u8)) ∧ Below u.heap.size u w' := by
  have b1 := (Below.refl u.heap.size u).alloc (Nat.le_refl _) (.cells #[.int .u8 0, .int .u8 1] 5)
  have b2 := b1.alloc (by simp) (.cells #[.int .u8 3] 5)
  have r1 := (lit2 u 0 1 (by decide) (by decide)).below ((Below.refl _ _).alloc (Nat.le_refl _) (.cells #[.int .u8 3] 5))
  have r2 := one_reads (u.alloc (.cells #[.int .u8 0, .int .u8 1] 5)) 3 (by decide) (by decide)
  have e1 : (u.alloc (.cells #[.int .u8 0, .int .u8 1] 5)).heap.size = u.heap.size + 1 := by simp
  rw [e1] at r2
  refine (rise_any _ 2 2 _ _ 1 1 _ 128 _ (by omega) (by omega) r1 r2).mono fun e w' ⟨g, c, he, ho, hb⟩ => ⟨g, c, he, ?_, b2.trans (hb.mono b2.size)⟩
  have e3 : riseL [0, 1] [3] 128 2 = [3, 129] := by decide +kernel
  rw [e3] at ho
  exact own_base ho b2.size
end Go.Proofs.Ytkcpfcnpniblcab
