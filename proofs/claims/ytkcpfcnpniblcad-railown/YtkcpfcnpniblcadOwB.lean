/-
  SEAT Ytkcpfcnpniblcad: rows that are laid and read; nine of them.
-/
import Derived.Test.YtkcpfcnpniblcadOwA
namespace Go.Proofs.Ytkcpfcnpniblcad.railOwn
open Go.RowKit
set_option linter.unusedVariables false

theorem lay_read (z : List Int) (l : Nat) (hl : z.length = l) (hle : l ≤ 4095) (hr : ∀ x ∈ z, 0 ≤ x ∧ x ≤ 255) (u : World) (a : Option Addr) (c : Nat) (h : Reads u a (2 * l + 2) (layL (z ++ [colF z]))) :
    Calls Try.prog 18 #[.slice a (2 * l + 2) c] u fun e u' => ∃ g c', e = .returned (.tuple #[.slice (some ⟨g, 0, none⟩) l c', .int .i64 (-1), .int .i64 0]) ∧ u'.ownsRow u.heap.size 5 1 (.slice (some ⟨g, 0, none⟩) l c') l (z.map (Value.int .u8)) ∧ Below u.heap.size u u' := by
  obtain ⟨hc, hx⟩ := cst_of z hr
  obtain ⟨ns, hns⟩ : ∃ ns, ns = z.map Int.toNat := ⟨_, rfl⟩
  rw [← hns] at hc hx
  subst hc
  have e1 : layL (cst ns ++ [colF (cst ns)]) = cst (layLN (ns ++ [colN ns])) := by rw [col_cst ns hx, ← lay_cst]; simp [cst]
  rw [e1] at h
  refine (read_ok a (2 * l + 2) c (l + 1) _ u (by omega) (by omega) (layLN_lt _) h).mono fun e u' ⟨h1, h2⟩ => ?_
  rw [read_lay ns hx] at h1
  obtain ⟨he, rows, hrt, _, hown⟩ := h1
  refine ⟨_, _, he, ?_, h2⟩
  have h3 := Own.front hown (show l ≤ l + 1 by omega)
  have e2 : ((cst rows).map (Value.int .u8)).take l = (cst ns).map (Value.int .u8) := by
    rw [← hrt, ← List.map_take]
    simp [cst, List.map_take]
  rw [e2] at h3
  exact h3

theorem lay_row (z : List Int) (l : Nat) (hl : z.length = l) (hle : l ≤ 4095) (u : World) (a : Option Addr) (c : Nat) (h : Reads u a l z) :
    Calls Try.prog 9 #[.slice a l c] u fun e u' => ∃ g c', e = .returned (.tuple #[.slice (some ⟨g, 0, none⟩) (2 * l + 2) c', .int .i64 0]) ∧ u'.ownsRow u.heap.size 5 1 (.slice (some ⟨g, 0, none⟩) (2 * l + 2) c') (2 * l + 2) ((layL (z ++ [colF z])).map (Value.int .u8)) ∧ Below u.heap.size u u' :=
  lay_ok a l c z u hle h

theorem lay_row2 (z : List Int) (l : Nat) (u : World) (a : Option Addr) (c : Nat) (h : Reads u a l z) (hl : z.length = l) (hle : l ≤ 4095) :
    Calls Try.prog 9 #[.slice a l c] u fun e u' => ∃ g c', e = .returned (.tuple #[.slice (some ⟨g, 0, none⟩) (2 * l + 2) c', .int .i64 0]) ∧ u'.ownsRow u.heap.size 5 1 (.slice (some ⟨g, 0, none⟩) (2 * l + 2) c') (2 * l + 2) ((layL (z ++ [colF z])).map (Value.int .u8)) ∧ Below u.heap.size u u' :=
  lay_row z l hl hle u a c h
theorem lay_read2 (z L : List Int) (l k : Nat) (u : World) (a : Option Addr) (c : Nat) (h : Reads u a k L) (hk : k = 2 * l + 2) (hL : layL (z ++ [colF z]) = L) (hl : z.length = l) (hle : l ≤ 4095) (hr : ∀ x ∈ z, 0 ≤ x ∧ x ≤ 255) :
    Calls Try.prog 18 #[.slice a k c] u fun e u' => ∃ g c', e = .returned (.tuple #[.slice (some ⟨g, 0, none⟩) l c', .int .i64 (-1), .int .i64 0]) ∧ u'.ownsRow u.heap.size 5 1 (.slice (some ⟨g, 0, none⟩) l c') l (z.map (Value.int .u8)) ∧ Below u.heap.size u u' := by
  subst hk
  subst hL
  exact lay_read z l hl hle hr u a c h

/-- Turned bytes, up to the k-th. -/
def turnT (z : List Int) (k : Nat) : List Int := (z.take k).map (fun x => bits .xor .u8 x 255) ++ z.drop k
theorem turnT_length (z : List Int) (k : Nat) : (turnT z k).length = z.length := by simp [turnT]; omega
theorem turnT_range (z : List Int) (k : Nat) (h : ∀ x ∈ z, 0 ≤ x ∧ x ≤ 255) : ∀ x ∈ turnT z k, 0 ≤ x ∧ x ≤ 255 := by
  intro x hx
  rcases List.mem_append.1 hx with h1 | h1
  · obtain ⟨y, hy, rfl⟩ := List.mem_map.1 h1
    have := h y (List.mem_of_mem_take hy)
    exact xor_bd y 255 this.1 this.2 (by decide) (by decide)
  · exact h x (List.mem_of_mem_drop h1)
theorem turnT_getD (z : List Int) (k : Nat) (h : k < z.length) : (turnT z k).getD k 0 = z.getD k 0 := by
  unfold turnT
  rw [List.getD_eq_getElem?_getD, List.getElem?_append_right (by simp; omega), List.getElem?_drop, List.getD_eq_getElem?_getD]
  congr 2
  simp
  omega
theorem turnT_step (z : List Int) (k : Nat) (h : k < z.length) : (turnT z k).set k (bits .xor .u8 (z.getD k 0) 255) = turnT z (k + 1) := by
  have := map_step (fun x => bits .xor .u8 x 255) z [] k h (turnT z k) (by simp [turnT])
  rw [turnT_getD z k h] at this
  rw [this]
  simp [turnT]
def sixty (z : List Int) (k : Nat) : List Int := List.replicate k 60 ++ z.drop k
theorem sixty_step (L : List Int) (k : Nat) (h : k < L.length) : (sixty L k).set k 60 = sixty L (k + 1) := by
  unfold sixty
  rw [List.set_append_right _ _ (by simp), List.length_replicate, Nat.sub_self, List.drop_eq_getElem_cons h, List.set_cons_zero, List.replicate_succ']
  simp

theorem nine {w : World} {B : Nat} {R : List (Value × List Int)} (h : Live w B R) (P : List (Value × List Int)) (hs : P.reverse.Sublist R) (hsm : ∀ p ∈ P, p.2.length ≤ 100000) (m : Nat) (hm : P.length = m) (cs : Array Value) (hcs : cs.toList = P.map (·.1)) :
    Apart (w.alloc (.cells cs 22)) B w.heap.size m (fun i => (P.getD i (.slice none 0 0, [])).1) (fun i => (P.getD i (.slice none 0 0, [])).2.length) (fun i => (P.getD i (.slice none 0 0, [])).2) := by
  subst hm
  have hget : ∀ i, (hi : i < P.length) → P.getD i (.slice none 0 0, []) = P[i] := fun i hi => by rw [List.getD_eq_getElem?_getD, List.getElem?_eq_getElem hi]; rfl
  have hmem : ∀ i, (hi : i < P.length) → P[i] ∈ R := fun i hi => hs.subset (List.mem_reverse.2 (List.getElem_mem hi))
  have hpw : P.Pairwise Far := by
    have h1 := List.Pairwise.sublist hs h.far
    rw [List.pairwise_reverse] at h1
    exact h1.imp fun h => h.symm
  rw [List.pairwise_iff_getElem] at hpw
  refine ⟨fun i hi => ?_, fun i hi => ?_, fun i hi => ?_, fun i j hi hj hne g hb => ?_, fun i hi => ?_, by simp⟩
  · rw [hget i hi]
    have : cs[i]? = some P[i].1 := by rw [← Array.getElem?_toList, hcs, List.getElem?_map, List.getElem?_eq_getElem hi]; rfl
    have key : ∀ (u : World) (g : Nat), u.heap[g]? = some (.cells cs 22 (0, 0)) → u.cell? ⟨g, i, none⟩ = some P[i].1 := fun u g h => by simp [World.cell?, h, this]
    exact key _ _ (heap_alloc_new w (.cells cs 22))
  · rw [hget i hi]; exact hsm _ (List.getElem_mem hi)
  · rw [hget i hi]; exact (h.rows _ (hmem i hi)).alloc _
  · rw [hget i hi] at hb
    rw [hget j hj]
    rcases Nat.lt_or_gt_of_ne hne with h1 | h1
    · exact hpw i j hi hj h1 g hb
    · exact (hpw j i hj hi h1).symm g hb
  · rw [hget i hi]
    intro e
    have := ((h.rows _ (hmem i hi)).lt _ e).2
    omega

end Go.Proofs.Ytkcpfcnpniblcad.railOwn
