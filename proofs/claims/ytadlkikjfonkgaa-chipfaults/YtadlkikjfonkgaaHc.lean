/-
  SEAT Ytadlkikjfonkgaa: heads: its pieces.
-/
import Derived.Test.YtadlkikjfonkgaaHb
import Derived.Test.YtadlkikjfonkgaaLu
namespace Go.Proofs.Ytadlkikjfonkgaa
open Go.RowKit Go.Conc
set_option linter.unusedVariables false

/-- The boxes of heads. -/
def kb (b1 b4 : Nat) : List (Nat × Obj) := [(b1, (.cells #[.int .i64 8, .int .i64 4, .int .i64 1] 23 (0, 0))), (b4, (.cells #[.int .i64 0, .int .i64 1] 41 (0, 0)))]
def HS (b1 b4 : Nat) (u : World) : Prop := u.cell? ⟨b1, 0, none⟩ = some (.int .i64 8) ∧ u.cell? ⟨b1, 1, none⟩ = some (.int .i64 4) ∧ u.cell? ⟨b1, 2, none⟩ = some (.int .i64 1) ∧ u.cell? ⟨b4, 0, none⟩ = some (.int .i64 0) ∧ u.cell? ⟨b4, 1, none⟩ = some (.int .i64 1)
theorem HD.s {w u : World} {p : Nat} {F : Nat → Prop} {K : List (Nat × Obj)} {C : Ch} {b1 b4 : Nat} (h : HD w u p F K C) (h1 : (b1, (.cells #[.int .i64 8, .int .i64 4, .int .i64 1] 23 (0, 0))) ∈ K) (h4 : (b4, (.cells #[.int .i64 0, .int .i64 1] 41 (0, 0))) ∈ K) : HS b1 b4 u := by
  obtain ⟨x0, x1, x2⟩ := cells3 (h.blk h1)
  obtain ⟨y0, y1⟩ := cells2 (h.blk h4)
  exact ⟨x0, x1, x2, y0, y1⟩
theorem HD.sk {w u : World} {p : Nat} {F : Nat → Prop} {C : Ch} {b1 b4 : Nat} (h : HD w u p F (kb b1 b4) C) : HS b1 b4 u := h.s (by simp [kb]) (by simp [kb])
theorem HD.sk6 {w u : World} {p : Nat} {F : Nat → Prop} {C : Ch} {b1 b4 b6 : Nat} {o : Obj} (h : HD w u p F ((b6, o) :: kb b1 b4) C) : HS b1 b4 u := h.s (by simp [kb]) (by simp [kb])
theorem readsF_nil (w : World) : ReadsF w none 0 [] := ⟨rfl, (fun _ h => by cases h), fun _ => rfl, fun _ h => by cases h⟩
theorem readsI_two (w : World) : ReadsI (w.alloc (.cells #[.int .i64 2] 3)) (some ⟨w.heap.size, 0, none⟩) 1 [2] :=
  ⟨rfl, (fun z hz => by simp at hz; omega), (fun h => by cases h), fun x hx i hi => by
    cases hx
    have : i = 0 := by omega
    subst this
    exact cells1 (alloc_new w _)⟩
theorem app_split {D Z X Y : List Int} (h : D ++ Z = X ++ Y) (hl : D.length = X.length) : D = X ∧ Z = Y := List.append_inj h hl
/-- What the Read of an example tells. -/
structure Rd3 (w u u' : World) (p : Nat) (F : Nat → Prop) (K : List (Nat × Obj)) (C : Ch) (X Y : List Int) (e : Ending) : Prop where
  ex : ∃ g1 c1 g2 c2, e = .returned (.tuple #[.agg #[.slice (some ⟨g1, 0, none⟩) 256 c1, .slice (some ⟨g2, 0, none⟩) 57 c2], .int .i64 0]) ∧ Own u' u.heap.size g1 256 c1 X ∧ Own u' u.heap.size g2 57 c2 Y
  hd : HD w u' p F K C
  bel : Below u.heap.size u u'
theorem hd_read {w u : World} {p : Nat} {F : Nat → Prop} {K : List (Nat × Obj)} {C : Ch} (h : HD w u p F K C) (hok : C.Ok) (hS : C.S = 1) (X Y : List Int) (hX : X.length = 256) (hr : ReadE C 0 1 = 0 ∧ readL C 0 1 = X ++ Y) :
    Calls Try.prog 13 #[.pointer (some ⟨p, 0, none⟩), .agg #[.int .i64 0, .int .i64 1]] u fun e u' => Rd3 w u u' p F K C X Y e := by
  refine (Read_any u p F C h.ch hok 0 1).mono ?_
  rintro e v ⟨⟨a1, m1, c1, a2, m2, c2, D, Z, rfl, o1, o2, hne, hif⟩, hb⟩
  rw [hr.1] at hif
  rw [if_pos rfl, hS] at hif
  obtain ⟨e1, e2, e3⟩ := hif
  have e3' : D ++ Z = X ++ Y := e3.trans hr.2
  subst e1 e2
  have hDl : D.length = 256 := by have := o1.1; simpa using this
  obtain ⟨rfl, rfl⟩ := app_split e3' (by rw [hX, hDl])
  obtain ⟨g1, c1', q1, _⟩ := own_shape o1 (by omega)
  obtain ⟨g2, c2', q2, _⟩ := own_shape o2 (by omega)
  cases q1
  cases q2
  rw [hr.1]
  exact ⟨⟨g1, c1, g2, c2, rfl, o1, o2⟩, h.below hb, hb⟩
theorem hc_S : hc4.S = 1 ∧ hc9.S = 1 ∧ hc10.S = 1 := ⟨by kernel_rfl, by kernel_rfl, by kernel_rfl⟩
theorem fl4 : FlN hc4 0 := by
  have h3 : hc3.fl = hc2.fl := ProgramC_fl hc2 0 1 256 57 zer
  have h4 : hc4.fl = hc3.fl := ProgramC_fl hc3 0 0 256 57 zer
  have h2 : hc2.fl = hc1.fl := MarkC_fl hc1 8
  have h1 : FlN hc1 0 := EraseC_fl (C := hc0) (newC_fl 8 4 1 [2] []) 2
  intro b p
  rw [h4, h3, h2]
  exact h1 b p
theorem flAll : FlN hc4 9 ∧ FlN hc5 9 ∧ FlN hc6 9 ∧ FlN hc7 9 ∧ FlN hc8 9 := by
  have h4 := fl4
  have h5 : FlN hc5 1 := FlipC_fl (C := hc4) h4 0 1 5
  have h6 : FlN hc6 2 := FlipC_fl (C := hc5) h5 0 1 2047
  have h7 : FlN hc7 3 := FlipC_fl (C := hc6) h6 0 1 2048
  have h8 : FlN hc8 4 := FlipC_fl (C := hc7) h7 0 1 2500
  exact ⟨h4.mono (by omega), h5.mono (by omega), h6.mono (by omega), h7.mono (by omega), h8.mono (by omega)⟩
theorem own_repl {w : World} {B g n c : Nat} {v : Int} (h : Own w B g n c (List.replicate n v)) (hv : 0 ≤ v ∧ v ≤ 255) : Reads w (some ⟨g, 0, none⟩) n (List.replicate n v) := by
  have h1 := h.reads (fun x hx => by rw [(List.mem_replicate.1 hx).2]; exact hv) n (Nat.le_refl _)
  rw [List.take_of_length_le (by simp)] at h1
  exact h1
theorem q1 : (EraseC hc0 2).2 = hc1 := rfl
theorem q2 : (MarkC hc1 8).2 = hc2 := rfl
theorem q3 : (ProgramC hc2 0 1 (256 * 1) (54 + 3 * 1) (List.replicate (256 * 1) 0 ++ List.replicate (54 + 3 * 1) 0)).2 = hc3 := rfl
theorem q4 : (ProgramC hc3 0 0 (256 * 1) (54 + 3 * 1) (List.replicate (256 * 1) 0 ++ List.replicate (54 + 3 * 1) 0)).2 = hc4 := rfl
theorem q5 : (FlipC hc4 0 1 5).2 = hc5 := rfl
theorem q6 : (FlipC hc5 0 1 2047).2 = hc6 := rfl
theorem q7 : (FlipC hc6 0 1 2048).2 = hc7 := rfl
theorem q8 : (FlipC hc7 0 1 2500).2 = hc8 := rfl
theorem q9 : (FlipC hc8 0 0 1).2 = hc9 := rfl
theorem q10 : (EraseC hc9 0).2 = hc10 := rfl
theorem he3' : (ProgramC hc2 0 1 (256 * 1) (54 + 3 * 1) (List.replicate (256 * 1) 0 ++ List.replicate (54 + 3 * 1) 0)).1 = 0 := he3
theorem he4' : (ProgramC hc3 0 0 (256 * 1) (54 + 3 * 1) (List.replicate (256 * 1) 0 ++ List.replicate (54 + 3 * 1) 0)).1 = 43 := he4
theorem hr4' : ReadE hc4 0 1 = 0 ∧ readL hc4 0 1 = List.replicate 256 0 ++ List.replicate 57 0 := hr4
theorem hd_new (u : World) (g : Nat) (hg : g = u.heap.size) : Calls Try.prog 21 #[.agg #[.int .i64 8, .int .i64 4, .int .i64 1], .slice (some ⟨g, 0, none⟩) 1 1, .slice none 0 0] (u.alloc (.cells #[.int .i64 2] 3)) fun e u' => ∃ p, e = .returned (.tuple #[.pointer (some ⟨p, 0, none⟩), .int .i64 0]) ∧ ChipAt u' p (fun k => u.heap.size + 1 ≤ k ∧ k < u'.heap.size) hc0 ∧ Below (u.heap.size + 1) (u.alloc (.cells #[.int .i64 2] 3)) u' := by
  subst hg
  refine (New_any _ 8 4 1 _ 1 1 [2] (readsI_two u) (by omega) none 0 0 [] (readsF_nil _) (by omega)).mono ?_
  rintro e u2 hnew
  obtain ⟨p, hE, hch⟩ := hnew.yes (by decide)
  have hb := hnew.bel
  rw [alloc_size] at hch hb
  exact ⟨p, hE, hch, hb⟩
theorem HD.sx {w u : World} {p : Nat} {F : Nat → Prop} {C : Ch} {b1 b4 b6 : Nat} {v0 v1 : Value} (h : HD w u p F ((b6, .cells #[v0, v1] 36 (0, 0)) :: kb b1 b4) C) : u.cell? ⟨b1, 0, none⟩ = some (.int .i64 8) ∧ u.cell? ⟨b1, 1, none⟩ = some (.int .i64 4) ∧ u.cell? ⟨b1, 2, none⟩ = some (.int .i64 1) ∧ u.cell? ⟨b4, 0, none⟩ = some (.int .i64 0) ∧ u.cell? ⟨b4, 1, none⟩ = some (.int .i64 1) ∧ u.cell? ⟨b6, 0, none⟩ = some v0 ∧ u.cell? ⟨b6, 1, none⟩ = some v1 := by
  obtain ⟨a, b, c, d, e⟩ := h.sk6
  obtain ⟨f, g⟩ := cells2 (h.blk (List.mem_cons_self))
  exact ⟨a, b, c, d, e, f, g⟩
theorem kb_ne {w u : World} {p : Nat} {F : Nat → Prop} {C : Ch} {b1 b4 b6 : Nat} {v0 v1 : Value} (h : HD w u p F ((b6, .cells #[v0, v1] 36 (0, 0)) :: kb b1 b4) C) : ∀ x ∈ kb b1 b4, x.1 ≠ b6 := fun x hx => by
  have h6 := h.blk (List.mem_cons_self)
  have hx' := (h.kp x (List.mem_cons_of_mem _ hx)).1
  simp [kb] at hx
  rcases hx with rfl | rfl
  · exact tag_ne hx' h6 (t := 23) (u := 36) rfl rfl (by decide)
  · exact tag_ne hx' h6 (t := 41) (u := 36) rfl rfl (by decide)
theorem hd_page {w u : World} {p : Nat} {F : Nat → Prop} {C : Ch} {b1 b4 b6 : Nat} {v0 v1 x0 x1 : Value} (h : HD w u p F ((b6, .cells #[v0, v1] 36 (0, 0)) :: kb b1 b4) C) : HD w ((u.setCell ⟨b6, 0, none⟩ x0).setCell ⟨b6, 1, none⟩ x1) p F ((b6, .cells #[x0, x1] 36 (0, 0)) :: kb b1 b4) C :=
  h.over ((Only.setCell (· = b6) u b6 0 x0 rfl).trans' (Only.setCell _ _ b6 1 x1 rfl)) (heap_setCell_same _ b6 1 #[x0, v1] 36 x1 (heap_setCell_same u b6 0 #[v0, v1] 36 x0 (h.blk (List.mem_cons_self)))) (kb_ne h)
theorem own_page {u : World} {B b6 g n c : Nat} {v0 v1 x0 x1 : Value} {X : List Int} (hb : u.heap[b6]? = some (.cells #[v0, v1] 36 (0, 0))) (h : Own u B g n c X) : Own ((u.setCell ⟨b6, 0, none⟩ x0).setCell ⟨b6, 1, none⟩ x1) B g n c X :=
  owns_keep h (fun k hk => by
    obtain ⟨cs, hc⟩ := own_tag h hk
    exact ((Only.setCell (· = b6) u b6 0 x0 rfl).trans' (Only.setCell _ _ b6 1 x1 rfl)).block k (lt_of_block hc) (tag_ne hc hb (t := 5) (u := 36) rfl rfl (by decide)))

end Go.Proofs.Ytadlkikjfonkgaa
