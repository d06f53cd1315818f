/-
  SEAT YtnopljjngbgpdabDoor: lent.
-/
import Derived.Test.YtnopljjngbgpdabDoorD
namespace Go.Proofs.YtnopljjngbgpdabDoor
open Go.RowKit
set_option linter.unusedVariables false

theorem Own.base {w : World} {B B' g n cap : Nat} {xs : List Int} (h : Own w B g n cap xs) (hb : B' ≤ B) : Own w B' g n cap xs := by
  obtain ⟨h1, h2⟩ := h
  refine ⟨h1, ?_⟩
  rcases h2 with h2 | ⟨g', cap', cur, hv, hg, r⟩
  · exact Or.inl h2
  · exact Or.inr ⟨g', cap', cur, hv, Nat.le_trans hb hg, r⟩
theorem OwnB.base {w : World} {B B' g n cap : Nat} {xs : List Bool} (h : OwnB w B g n cap xs) (hb : B' ≤ B) : OwnB w B' g n cap xs := by
  obtain ⟨h1, h2⟩ := h
  refine ⟨h1, ?_⟩
  rcases h2 with h2 | ⟨g', cap', cur, hv, hg, r⟩
  · exact Or.inl h2
  · exact Or.inr ⟨g', cap', cur, hv, Nat.le_trans hb hg, r⟩
theorem OwnB.lt {w : World} {B g n cap : Nat} {xs : List Bool} (h : OwnB w B g n cap xs) : B ≤ g ∧ g < w.heap.size :=
  World.ownsRow.lt h g rfl

theorem OwnB.apart {w w' : World} {B g n cap g' : Nat} {xs : List Bool} (h : OwnB w B g n cap xs) (hg : w.grownBy w' (some g')) (hne : g ≠ g') : OwnB w' B g n cap xs :=
  World.ownsRow.kept h hg (Or.inr (by simp [Value.ownBlock]; exact hne))
theorem set_grown (w : World) (g j : Nat) (v : Value) : w.grownBy (w.setCell ⟨g, j, none⟩ v) (some g) := ⟨rfl, rfl, rfl, by simp, fun k hk hne => heap_setCell_other w ⟨g, j, none⟩ k v (fun e => hne (congrArg some e))⟩

/-- What stands behind lent. -/
structure Lent (w w' : World) (b p s : Int) (n m : Nat) (zs : List Int) (bs : List Bool) (e : Ending) : Prop where
  out : ∃ g c g' c', e = .returned (.tuple #[.agg #[.int .i64 b, .int .i64 p, .int .i64 s, .slice (some ⟨g, 0, none⟩) n c, .slice (some ⟨g', 0, none⟩) m c'], .slice (some ⟨g, 0, none⟩) (n + 70) c, .slice (some ⟨g', 0, none⟩) (m + 9) c']) ∧
    Own w' w.heap.size g (n + 70) c (room zs 70) ∧ OwnB w' w.heap.size g' (m + 9) c' (roomB bs 9)
  below : Below w.heap.size w w'

theorem box55 {w u : World} {b p s : Int} {vc vm : Value} (h : ((w.alloc (.cells #[.int .i64 b, .int .i64 p, .int .i64 s, vc, vm] 27)).alloc (.cells #[.int .i64 0, .int .i64 0, .int .i64 0, .slice none 0 0, .slice none 0 0] 27)).grownBy u none) :
    (u.cell? ⟨w.heap.size, 0, none⟩ = some (.int .i64 b) ∧ u.cell? ⟨w.heap.size, 1, none⟩ = some (.int .i64 p) ∧ u.cell? ⟨w.heap.size, 2, none⟩ = some (.int .i64 s) ∧ u.cell? ⟨w.heap.size, 3, none⟩ = some vc ∧ u.cell? ⟨w.heap.size, 4, none⟩ = some vm) ∧
    u.heap[w.heap.size + 1]? = some (.cells #[.int .i64 0, .int .i64 0, .int .i64 0, .slice none 0 0, .slice none 0 0] 27) := by
  refine ⟨⟨?_, ?_, ?_, ?_, ?_⟩, ?_⟩
  iterate 5 exact h.cell (by simp [World.cell?_alloc_lt]) (by simp)
  have := h.block (w.heap.size + 1) (by simp) (by simp)
  rw [this]
  have e : (w.alloc (.cells #[.int .i64 b, .int .i64 p, .int .i64 s, vc, vm] 27)).heap.size = w.heap.size + 1 := by simp
  rw [← e]
  exact heap_alloc_new _ _

set_option maxHeartbeats 1000000 in
set_option maxRecDepth 100000 in
theorem lent_any (b p s : Int) (a a' : Option Addr) (n c m c' : Nat) (zs : List Int) (bs : List Bool) (w : World) (hn : n ≤ 140737488351232) (hm : m ≤ 140737488351232) (hr : Reads w a n zs) (hrb : ReadsB w a' m bs) :
    Calls Tryd.prog 22 #[.agg #[.int .i64 b, .int .i64 p, .int .i64 s, .slice a n c, .slice a' m c']] w fun e w' => Lent w w' b p s n m zs bs e := by
  go_enter Tryd.func22, Tryd.ntmps22
  go_wp2_with (first
    | (go_at_call 44; refine (roomy_any a n c zs _ hn ?_).mono ?_; exact hr.below ((below_alloc w _).alloc (below_alloc w _).size _); rintro e u1 ⟨g, c1, rfl, own1, bel1⟩
       have bw1 := below_trans ((below_alloc w (.cells #[.int .i64 b, .int .i64 p, .int .i64 s, .slice a n c, .slice a' m c'] 27)).alloc (below_alloc w _).size _) bel1
       have g1 := grown_of bel1 none
       obtain ⟨⟨c0, c1', c2', c3, c4⟩, cz⟩ := box55 g1
       have HO : Hid _ := own1
       clear own1 bel1)
    | (go_at_call 45; refine (marks_any a' m c' bs _ hm ?_).mono ?_; exact hrb.below bw1; rintro e u2 ⟨g', c2, rfl, own2, bel2⟩
       have bw2 := below_trans bw1 bel2
       have g2 := grownBy_trans g1 (grown_of bel2 none)
       clear c0 c1' c2' c3 c4 cz
       obtain ⟨⟨c0, c1', c2', c3, c4⟩, cz⟩ := box55 g2))
  have kc1 : n + 70 ≤ c1 ∧ c1 ≤ maxLen := Own.room_le HO.out (by omega)
  have kc2 : m + 9 ≤ c2 ∧ c2 ≤ maxLen := OwnB.room_le own2 (by omega)
  have kc3 : c1 ≤ 9223372036854775807 ∧ c2 ≤ 9223372036854775807 := by unfold maxLen at kc1 kc2; omega
  have i1 : n ≤ c1 := by omega
  have i2 : m ≤ c2 := by omega
  have HO2 : Hid _ := own2
  have HB : Hid _ := bel2
  clear kc1 kc2 own2 bel2 hr hrb
  have z0 : u2.cell? ⟨w.heap.size + 1, 0, none⟩ = some (.int .i64 0) := by simp [World.cell?, cz]
  have z1 : u2.cell? ⟨w.heap.size + 1, 1, none⟩ = some (.int .i64 0) := by simp [World.cell?, cz]
  have z2 : u2.cell? ⟨w.heap.size + 1, 2, none⟩ = some (.int .i64 0) := by simp [World.cell?, cz]
  have z3 : u2.cell? ⟨w.heap.size + 1, 3, none⟩ = some (.slice none 0 0) := by simp [World.cell?, cz]
  have z4 : u2.cell? ⟨w.heap.size + 1, 4, none⟩ = some (.slice none 0 0) := by simp [World.cell?, cz]
  have f0 : ∀ j, u2.frozen? ⟨w.heap.size + 1, j, none⟩ = false := fun j => by simp [World.frozen?, cz]
  clear cz
  go_region
  go_wp2
  refine bodyPost_ret (v := .tuple #[.agg #[.int .i64 b, .int .i64 p, .int .i64 s, .slice (some ⟨g, 0, none⟩) n c1, .slice (some ⟨g', 0, none⟩) m c2], .slice (some ⟨g, 0, none⟩) (n + 70) c1, .slice (some ⟨g', 0, none⟩) (m + 9) c2]) (by simp [results, Tryd.results22, go_sem, z0, z1, z2, z3, z4]) rfl ?_
  have gs : ∀ (u : World) (j : Nat) (v : Value), u.grownBy (u.setCell ⟨w.heap.size + 1, j, none⟩ v) (some (w.heap.size + 1)) := fun u j v => set_grown u _ j v
  have g3 : u2.grownBy (((((u2.setCell ⟨w.heap.size + 1, 0, none⟩ (.int .i64 b)).setCell ⟨w.heap.size + 1, 1, none⟩ (.int .i64 p)).setCell ⟨w.heap.size + 1, 2, none⟩ (.int .i64 s)).setCell ⟨w.heap.size + 1, 3, none⟩ (.slice (some ⟨g, 0, none⟩) n c1)).setCell ⟨w.heap.size + 1, 4, none⟩ (.slice (some ⟨g', 0, none⟩) m c2)).drew (some (w.heap.size + 1)) :=
    grownBy_trans (grownBy_trans (grownBy_trans (grownBy_trans (grownBy_trans (gs u2 0 _) (gs _ 1 _)) (gs _ 2 _)) (gs _ 3 _)) (gs _ 4 _)) (drew_grown _ _)
  have o1 : Own u1 _ g (n + 70) c1 (room zs 70) := HO.out
  have o2 : OwnB u2 _ g' (m + 9) c2 (roomB bs 9) := HO2.out
  have l1 := o1.lt.1
  have l2 := o2.lt.1
  have l3 := g1.size
  simp at l1 l3
  refine ⟨⟨g, c1, g', c2, rfl, ((o1.below HB.out).apart g3 (by omega)).base (by simp; omega), (o2.apart g3 (by omega)).base (by omega)⟩, ?_⟩
  exact bw2.grown g3 bw2.size (fun k hk => by simp at hk; omega)
end Go.Proofs.YtnopljjngbgpdabDoor
