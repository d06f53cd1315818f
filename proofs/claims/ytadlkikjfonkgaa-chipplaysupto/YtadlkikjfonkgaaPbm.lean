/-
  SEAT Ytadlkikjfonkgaa: Hc, Hd, Fh.
-/
import Derived.Test.YtadlkikjfonkgaaPw
import Derived.Test.YtadlkikjfonkgaaPz
import Derived.Test.YtadlkikjfonkgaaPa
import Derived.Test.YtadlkikjfonkgaaPx
namespace Go.Proofs.Ytadlkikjfonkgaa
open Go.RowKit Go.Conc
set_option linter.unusedVariables false
def kb (b1 b4 : Nat) : List (Nat × Obj) := [(b1, (.cells #[.int .i64 8, .int .i64 4, .int .i64 1] 23 (0, 0))), (b4, (.cells #[.int .i64 0, .int .i64 1] 41 (0, 0)))]
def HS (b1 b4 : Nat) (u : World) : Prop := u.cell? ⟨b1, 0, none⟩ = some (.int .i64 8) ∧ u.cell? ⟨b1, 1, none⟩ = some (.int .i64 4) ∧ u.cell? ⟨b1, 2, none⟩ = some (.int .i64 1) ∧ u.cell? ⟨b4, 0, none⟩ = some (.int .i64 0) ∧ u.cell? ⟨b4, 1, none⟩ = some (.int .i64 1)
theorem HD.s {w u : World} {p : Nat} {F : Nat → Prop} {K : List (Nat × Obj)} {C : Ch} {b1 b4 : Nat} (h : HD w u p F K C) (h1 : (b1, (.cells #[.int .i64 8, .int .i64 4, .int .i64 1] 23 (0, 0))) ∈ K) (h4 : (b4, (.cells #[.int .i64 0, .int .i64 1] 41 (0, 0))) ∈ K) : HS b1 b4 u := by
 obtain ⟨x0, x1, x2⟩ := cells3 (h.blk h1)
 obtain ⟨y0, y1⟩ := cells2 (h.blk h4)
 exact ⟨x0, x1, x2, y0, y1⟩
theorem HD.sk {w u : World} {p : Nat} {F : Nat → Prop} {C : Ch} {b1 b4 : Nat} (h : HD w u p F (kb b1 b4) C) : HS b1 b4 u := h.s (by simp [kb]) (by simp [kb])
theorem HD.sk6 {w u : World} {p : Nat} {F : Nat → Prop} {C : Ch} {b1 b4 b6 : Nat} {o : Obj} (h : HD w u p F ((b6, o) :: kb b1 b4) C) : HS b1 b4 u := h.s (by simp [kb]) (by simp [kb])
theorem readsF_nil (w : World) : ReadsF w none 0 [] := ⟨rfl, (fun _ h => by cases h), fun _ => rfl, fun _ h => by cases h⟩
theorem readsI_two (w : World) : ReadsI (w.alloc (.cells #[.int .i64 2] 3)) (some ⟨w.heap.size, 0, none⟩) 1 [2] :=
 ⟨rfl, (fun z hz => by simp at hz; omega), (fun h => by cases h), fun x hx i hi => by
  cases hx
  have : i = 0 := by omega
  subst this
  exact cells1 (alloc_new w _)⟩
theorem app_split {D Z X Y : List Int} (h : D ++ Z = X ++ Y) (hl : D.length = X.length) : D = X ∧ Z = Y := List.append_inj h hl
structure Rd3 (w u u' : World) (p : Nat) (F : Nat → Prop) (K : List (Nat × Obj)) (C : Ch) (X Y : List Int) (e : Ending) : Prop where
 ex : ∃ g1 c1 g2 c2, e = .returned (.tuple #[.agg #[.slice (some ⟨g1, 0, none⟩) 256 c1, .slice (some ⟨g2, 0, none⟩) 57 c2], .int .i64 0]) ∧ Own u' u.heap.size g1 256 c1 X ∧ Own u' u.heap.size g2 57 c2 Y
 hd : HD w u' p F K C
 bel : Below u.heap.size u u'
theorem hd_read {w u : World} {p : Nat} {F : Nat → Prop} {K : List (Nat × Obj)} {C : Ch} (h : HD w u p F K C) (hok : C.Ok) (hS : C.S = 1) (X Y : List Int) (hX : X.length = 256) (hr : ReadE C 0 1 = 0 ∧ readL C 0 1 = X ++ Y) :
  Calls Try.prog 13 #[.pointer (some ⟨p, 0, none⟩), .agg #[.int .i64 0, .int .i64 1]] u fun e u' => Rd3 w u u' p F K C X Y e := by
 refine (Read_any u p F C h.ch hok 0 1).mono ?_
 rintro e v ⟨⟨a1, m1, c1, a2, m2, c2, D, Z, rfl, o1, o2, hne, hif⟩, hb⟩
 rw [hr.1] at hif
 rw [if_pos rfl, hS] at hif
 obtain ⟨e1, e2, e3⟩ := hif
 have e3' : D ++ Z = X ++ Y := e3.trans hr.2
 subst e1 e2
 have hDl : D.length = 256 := by have := o1.1; simpa using this
 obtain ⟨rfl, rfl⟩ := app_split e3' (by rw [hX, hDl])
 obtain ⟨g1, c1', q1, _⟩ := own_shape o1 (by omega)
 obtain ⟨g2, c2', q2, _⟩ := own_shape o2 (by omega)
 cases q1
 cases q2
 rw [hr.1]
 exact ⟨⟨g1, c1, g2, c2, rfl, o1, o2⟩, h.below hb, hb⟩
theorem hc_S : hc4.S = 1 ∧ hc9.S = 1 ∧ hc10.S = 1 := ⟨by kernel_rfl, by kernel_rfl, by kernel_rfl⟩
theorem fl4 : FlN hc4 0 := by
 have h3 : hc3.fl = hc2.fl := ProgramC_fl hc2 0 1 256 57 zer
 have h4 : hc4.fl = hc3.fl := ProgramC_fl hc3 0 0 256 57 zer
 have h2 : hc2.fl = hc1.fl := MarkC_fl hc1 8
 have h1 : FlN hc1 0 := EraseC_fl (C := hc0) (newC_fl 8 4 1 [2] []) 2
 intro b p
 rw [h4, h3, h2]
 exact h1 b p
theorem flAll : FlN hc4 9 ∧ FlN hc5 9 ∧ FlN hc6 9 ∧ FlN hc7 9 ∧ FlN hc8 9 := by
 have h4 := fl4
 have h5 : FlN hc5 1 := FlipC_fl (C := hc4) h4 0 1 5
 have h6 : FlN hc6 2 := FlipC_fl (C := hc5) h5 0 1 2047
 have h7 : FlN hc7 3 := FlipC_fl (C := hc6) h6 0 1 2048
 have h8 : FlN hc8 4 := FlipC_fl (C := hc7) h7 0 1 2500
 exact ⟨h4.mono (by omega), h5.mono (by omega), h6.mono (by omega), h7.mono (by omega), h8.mono (by omega)⟩
theorem own_repl {w : World} {B g n c : Nat} {v : Int} (h : Own w B g n c (List.replicate n v)) (hv : 0 ≤ v ∧ v ≤ 255) : Reads w (some ⟨g, 0, none⟩) n (List.replicate n v) := by
 have h1 := h.reads (fun x hx => by rw [(List.mem_replicate.1 hx).2]; exact hv) n (Nat.le_refl _)
 rw [List.take_of_length_le (by simp)] at h1
 exact h1
theorem q1 : (EraseC hc0 2).2 = hc1 := rfl
theorem q2 : (MarkC hc1 8).2 = hc2 := rfl
theorem q3 : (ProgramC hc2 0 1 (256 * 1) (54 + 3 * 1) (List.replicate (256 * 1) 0 ++ List.replicate (54 + 3 * 1) 0)).2 = hc3 := rfl
theorem q4 : (ProgramC hc3 0 0 (256 * 1) (54 + 3 * 1) (List.replicate (256 * 1) 0 ++ List.replicate (54 + 3 * 1) 0)).2 = hc4 := rfl
theorem q5 : (FlipC hc4 0 1 5).2 = hc5 := rfl
theorem q6 : (FlipC hc5 0 1 2047).2 = hc6 := rfl
theorem q7 : (FlipC hc6 0 1 2048).2 = hc7 := rfl
theorem q8 : (FlipC hc7 0 1 2500).2 = hc8 := rfl
theorem q9 : (FlipC hc8 0 0 1).2 = hc9 := rfl
theorem q10 : (EraseC hc9 0).2 = hc10 := rfl
theorem he3' : (ProgramC hc2 0 1 (256 * 1) (54 + 3 * 1) (List.replicate (256 * 1) 0 ++ List.replicate (54 + 3 * 1) 0)).1 = 0 := he3
theorem he4' : (ProgramC hc3 0 0 (256 * 1) (54 + 3 * 1) (List.replicate (256 * 1) 0 ++ List.replicate (54 + 3 * 1) 0)).1 = 43 := he4
theorem hr4' : ReadE hc4 0 1 = 0 ∧ readL hc4 0 1 = List.replicate 256 0 ++ List.replicate 57 0 := hr4
theorem hd_new (u : World) (g : Nat) (hg : g = u.heap.size) : Calls Try.prog 21 #[.agg #[.int .i64 8, .int .i64 4, .int .i64 1], .slice (some ⟨g, 0, none⟩) 1 1, .slice none 0 0] (u.alloc (.cells #[.int .i64 2] 3)) fun e u' => ∃ p, e = .returned (.tuple #[.pointer (some ⟨p, 0, none⟩), .int .i64 0]) ∧ ChipAt u' p (fun k => u.heap.size + 1 ≤ k ∧ k < u'.heap.size) hc0 ∧ Below (u.heap.size + 1) (u.alloc (.cells #[.int .i64 2] 3)) u' := by
 subst hg
 refine (New_any _ 8 4 1 _ 1 1 [2] (readsI_two u) (by omega) none 0 0 [] (readsF_nil _) (by omega)).mono ?_
 rintro e u2 hnew
 obtain ⟨p, hE, hch⟩ := hnew.yes (by decide)
 have hb := hnew.bel
 rw [alloc_size] at hch hb
 exact ⟨p, hE, hch, hb⟩
theorem HD.sx {w u : World} {p : Nat} {F : Nat → Prop} {C : Ch} {b1 b4 b6 : Nat} {v0 v1 : Value} (h : HD w u p F ((b6, .cells #[v0, v1] 36 (0, 0)) :: kb b1 b4) C) : u.cell? ⟨b1, 0, none⟩ = some (.int .i64 8) ∧ u.cell? ⟨b1, 1, none⟩ = some (.int .i64 4) ∧ u.cell? ⟨b1, 2, none⟩ = some (.int .i64 1) ∧ u.cell? ⟨b4, 0, none⟩ = some (.int .i64 0) ∧ u.cell? ⟨b4, 1, none⟩ = some (.int .i64 1) ∧ u.cell? ⟨b6, 0, none⟩ = some v0 ∧ u.cell? ⟨b6, 1, none⟩ = some v1 := by
 obtain ⟨a, b, c, d, e⟩ := h.sk6
 obtain ⟨f, g⟩ := cells2 (h.blk (List.mem_cons_self))
 exact ⟨a, b, c, d, e, f, g⟩
theorem kb_ne {w u : World} {p : Nat} {F : Nat → Prop} {C : Ch} {b1 b4 b6 : Nat} {v0 v1 : Value} (h : HD w u p F ((b6, .cells #[v0, v1] 36 (0, 0)) :: kb b1 b4) C) : ∀ x ∈ kb b1 b4, x.1 ≠ b6 := fun x hx => by
 have h6 := h.blk (List.mem_cons_self)
 have hx' := (h.kp x (List.mem_cons_of_mem _ hx)).1
 simp [kb] at hx
 rcases hx with rfl | rfl
 ·exact tag_ne hx' h6 (t := 23) (u := 36) rfl rfl (by decide)
 ·exact tag_ne hx' h6 (t := 41) (u := 36) rfl rfl (by decide)
theorem hd_page {w u : World} {p : Nat} {F : Nat → Prop} {C : Ch} {b1 b4 b6 : Nat} {v0 v1 x0 x1 : Value} (h : HD w u p F ((b6, .cells #[v0, v1] 36 (0, 0)) :: kb b1 b4) C) : HD w ((u.setCell ⟨b6, 0, none⟩ x0).setCell ⟨b6, 1, none⟩ x1) p F ((b6, .cells #[x0, x1] 36 (0, 0)) :: kb b1 b4) C :=
 h.over ((Only.setCell (· = b6) u b6 0 x0 rfl).trans' (Only.setCell _ _ b6 1 x1 rfl)) (heap_setCell_same _ b6 1 #[x0, v1] 36 x1 (heap_setCell_same u b6 0 #[v0, v1] 36 x0 (h.blk (List.mem_cons_self)))) (kb_ne h)
theorem own_page {u : World} {B b6 g n c : Nat} {v0 v1 x0 x1 : Value} {X : List Int} (hb : u.heap[b6]? = some (.cells #[v0, v1] 36 (0, 0))) (h : Own u B g n c X) : Own ((u.setCell ⟨b6, 0, none⟩ x0).setCell ⟨b6, 1, none⟩ x1) B g n c X :=
 owns_keep h (fun k hk => by
  obtain ⟨cs, hc⟩ := own_tag h hk
  exact ((Only.setCell (· = b6) u b6 0 x0 rfl).trans' (Only.setCell _ _ b6 1 x1 rfl)).block k (lt_of_block hc) (tag_ne hc hb (t := 5) (u := 36) rfl rfl (by decide)))
end Go.Proofs.Ytadlkikjfonkgaa
namespace Go.Proofs.Ytadlkikjfonkgaa
open Go.RowKit Go.Conc
set_option linter.unusedVariables false
attribute [local irreducible] hc0 hc1 hc2 hc3 hc4 hc5 hc6 hc7 hc8 hc9 hc10
set_option maxHeartbeats 8000000 in
set_option maxRecDepth 100000 in
theorem heads_any (w : World) : Calls Try.prog 12 #[] w fun e w' => e = .returned (.bool true) ∧ Below w.heap.size w w' := by
 go_enter Try.func12, Try.ntmps12
 go_upto_region 5 with (first
  | (go_at_call 20; refine (lshape_any _).mono ?_; rintro e u1 ⟨rfl, b1'⟩; have HB1 := hide b1'; clear b1')
  | (go_at_call 21; refine (hd_new (u1.alloc (.cells #[.int .i64 8, .int .i64 4, .int .i64 1] 23)) (u1.heap.size + 1) (by simp)).mono ?_; rintro e u2 ⟨p, rfl, hch, hbn⟩; have HN := hide hbn; have HCH := hide hch; clear hbn hch)
  | (go_at_call 11; refine (no_any' 0 _).mono ?_; rintro e u3 ⟨rfl, hu3⟩; subst hu3))
 obtain ⟨b1, hb1⟩ : ∃ b, b = u1.heap.size := ⟨_, rfl⟩
 have HG1 : Hid (u3.heap[b1]? = some (.cells #[.int .i64 8, .int .i64 4, .int .i64 1] 23 (0, 0)) ∧ w.heap.size ≤ b1) := by
  have h9 := HN.out.block u1.heap.size (by simp; omega)
  rw [hb1]
  exact ⟨h9.trans ((alloc_old _ _ (by simp)).trans (alloc_new u1 (.cells #[.int .i64 8, .int .i64 4, .int .i64 1] 23))), HB1.out.size⟩
 have HBB : Hid (Below w.heap.size w u3) := (below_trans (below_trans HB1.out (below_alloc _ _)) (below_alloc _ _)).trans (HN.out.mono (by have := HB1.out.size; simp; omega))
 have H6 : Hid (HD w (u3.alloc (.cells #[.int .i64 0, .int .i64 1] 41)) p (fun k => u1.heap.size + 2 ≤ k ∧ k < u3.heap.size) (kb b1 u3.heap.size) hc0) := by
  have hc := HCH.out
  rw [alloc_size] at hc
  have h1 := HB1.out.size
  refine ⟨HBB.out.trans ((below_alloc _ _).mono HBB.out.size), hc.below (below_alloc _ _), fun k hk => by omega, fun x hx => ?_⟩
  simp [kb] at hx
  rcases hx with rfl | rfl
  ·exact ⟨(alloc_old _ _ (lt_of_block HG1.out.1)).trans HG1.out.1, (fun hf => by have := hf.1; omega), HG1.out.2⟩
  ·exact ⟨alloc_new u3 (.cells #[.int .i64 0, .int .i64 1] 41), (fun hf => by have := hf.2; simp at this), HBB.out.size⟩
 clear HG1 HCH HN
 rw [← hb1]
 clear hb1
 generalize hF0 : (fun k => u1.heap.size + 2 ≤ k ∧ k < u3.heap.size) = F0 at H6
 clear hF0
 go_upto_region 6 with fail
 generalize hU : u3.alloc (.cells #[.int .i64 0, .int .i64 1] 41) = U4 at H6 ⊢
 generalize hb4 : u3.heap.size = b4 at H6 ⊢
 clear hU hb4 HBB HB1 u3 u1
 go_upto_region 7 with (first | (go_at_call 50; refine (Marked_any _ p _ hc0 H6.out.ch hk0 2).mono ?_; rintro e v1 ⟨rfl, hv1⟩; subst hv1; rw [hm0.1, hm0.2]))
 have H7 := hide (H6.out.below (drew_below _))
 refine wp_region_held_drew (S := (fun u => u.cell? ⟨b1, 0, none⟩ = some (.int .i64 8) ∧ u.cell? ⟨b1, 1, none⟩ = some (.int .i64 4) ∧ u.cell? ⟨b1, 2, none⟩ = some (.int .i64 1) ∧ u.cell? ⟨b4, 0, none⟩ = some (.int .i64 0) ∧ u.cell? ⟨b4, 1, none⟩ = some (.int .i64 1))) (by kernel_rfl) (H7.out.sk) (fun hHeld => ?_)
 refine tk 0 ?_
 refine rd 1 (fun K hK => ?_)
 go_simp
 go_at_call 11
 refine (no_any' 0 _).mono ?_
 rintro e v0 ⟨rfl, hv0⟩
 subst hv0
 have hSnew := H7.out.sk
 go_wp2_with fail
 clear hHeld
 refine hK.out _ _ hSnew (fun hHeld => ?_)
 clear hK K hSnew
 try simp only [Act.put, zSt, zS0, zS1]
 refine tk 2 ?_
 refine tk 3 ?_
 refine tk 4 ?_
 refine tk 5 ?_
 refine tk 6 ?_
 refine tk 7 ?_
 refine tk 8 ?_
 refine rd 9 (fun K hK => ?_)
 go_simp
 go_at_call 51
 refine (hd_erase H7.out hk0 (by have := htl.1; omega) 2).mono ?_
 rintro e va1 ⟨rfl, FFa1, hh⟩
 rw [he1]
 rw [q1] at hh
 have H7a1 := hide hh
 have hSnew := H7a1.out.sk
 clear hh
 go_wp2_with fail
 clear hHeld
 refine hK.out _ _ hSnew (fun hHeld => ?_)
 clear hK K hSnew
 try simp only [Act.put, zSt, zS0, zS1]
 refine rd 10 (fun K hK => ?_)
 go_simp
 go_at_call 11
 refine (no_any' 43 _).mono ?_
 rintro e v0 ⟨rfl, hv0⟩
 subst hv0
 have hSnew := H7a1.out.sk
 go_wp2_with fail
 clear hHeld
 refine hK.out _ _ hSnew (fun hHeld => ?_)
 clear hK K hSnew
 try simp only [Act.put, zSt, zS0, zS1]
 refine tk 11 ?_
 refine tk 12 ?_
 refine tk 13 ?_
 refine tk 14 ?_
 refine rd 15 (fun K hK => ?_)
 go_simp
 go_at_call 52
 refine (hd_mark H7a1.out hk1 (by have := htl.2.1; omega) 8).mono ?_
 rintro e va2 ⟨rfl, FFa2, hh⟩
 rw [he2]
 rw [q2] at hh
 have H7a2 := hide hh
 have hSnew := H7a2.out.sk
 clear hh
 go_wp2_with fail
 clear hHeld
 refine hK.out _ _ hSnew (fun hHeld => ?_)
 clear hK K hSnew
 try simp only [Act.put, zSt, zS0, zS1]
 refine rd 16 (fun K hK => ?_)
 go_simp
 go_at_call 11
 refine (no_any' 41 _).mono ?_
 rintro e v0 ⟨rfl, hv0⟩
 subst hv0
 have hSnew := H7a2.out.sk
 go_wp2_with fail
 clear hHeld
 refine hK.out _ _ hSnew (fun hHeld => ?_)
 clear hK K hSnew
 try simp only [Act.put, zSt, zS0, zS1]
 refine tk 17 ?_
 refine tk 18 ?_
 refine tk 19 ?_
 refine tk 20 ?_
 refine tk 21 ?_
 refine tk 22 ?_
 refine rd 23 (fun K hK => ?_)
 go_simp
 go_at_call 54
 refine (even_any _ 8 4 1 (by decide) 0 (by decide)).mono ?_
 rintro e va3 hev
 obtain ⟨⟨g1, c1, g2, c2, rfl, o1, o2⟩, bev⟩ := hev
 have HO1a3 := hide o1
 have HO2a3 := hide o2
 have HBEa3 := hide bev
 have H7a3 := hide (H7a2.out.below bev)
 have hSnew := H7a3.out.sk
 clear o1 o2 bev
 go_wp2_with fail
 clear hHeld
 refine hK.out _ _ hSnew (fun hHeld => ?_)
 clear hK K hSnew
 try simp only [Act.put, zSt, zS0, zS1]
 refine rd 24 (fun K hK => ?_)
 go_simp
 go_at_call 53
 refine (hd_progE H7a2.out hk2 HBEa3.out 0 1 1 (by omega) 0 (by decide) _ _ _ _ HO1a3.out HO2a3.out (by have := htl.2.2.1; omega)).mono ?_
 rintro e va4 ⟨rfl, FFa4, hh⟩
 rw [he3']
 rw [q3] at hh
 have H7a4 := hide hh
 have hSnew := H7a4.out.sk
 clear hh
 go_wp2_with fail
 clear hHeld
 refine hK.out _ _ hSnew (fun hHeld => ?_)
 clear hK K hSnew
 try simp only [Act.put, zSt, zS0, zS1]
 refine rd 25 (fun K hK => ?_)
 go_simp
 go_at_call 11
 refine (no_any' 0 _).mono ?_
 rintro e v0 ⟨rfl, hv0⟩
 subst hv0
 have hSnew := H7a4.out.sk
 go_wp2_with fail
 clear hHeld
 refine hK.out _ _ hSnew (fun hHeld => ?_)
 clear hK K hSnew
 try simp only [Act.put, zSt, zS0, zS1]
 refine tk 26 ?_
 refine tk 27 ?_
 refine tk 28 ?_
 refine tk 29 ?_
 refine tk 30 ?_
 refine tk 31 ?_
 refine rd 32 (fun K hK => ?_)
 go_simp
 go_at_call 54
 refine (even_any _ 8 4 1 (by decide) 0 (by decide)).mono ?_
 rintro e va5 hev
 obtain ⟨⟨g1, c1, g2, c2, rfl, o1, o2⟩, bev⟩ := hev
 have HO1a5 := hide o1
 have HO2a5 := hide o2
 have HBEa5 := hide bev
 have H7a5 := hide (H7a4.out.below bev)
 have hSnew := H7a5.out.sk
 clear o1 o2 bev
 go_wp2_with fail
 clear hHeld
 refine hK.out _ _ hSnew (fun hHeld => ?_)
 clear hK K hSnew
 try simp only [Act.put, zSt, zS0, zS1]
 refine rd 33 (fun K hK => ?_)
 go_simp
 go_at_call 53
 refine (hd_progE H7a4.out hk3 HBEa5.out 0 0 1 (by omega) 0 (by decide) _ _ _ _ HO1a5.out HO2a5.out (by have := htl.2.2.2.1; omega)).mono ?_
 rintro e va6 ⟨rfl, FFa6, hh⟩
 rw [he4']
 rw [q4] at hh
 have H7a6 := hide hh
 have hSnew := H7a6.out.sk
 clear hh
 go_wp2_with fail
 clear hHeld
 refine hK.out _ _ hSnew (fun hHeld => ?_)
 clear hK K hSnew
 try simp only [Act.put, zSt, zS0, zS1]
 refine rd 34 (fun K hK => ?_)
 go_simp
 go_at_call 11
 refine (no_any' 43 _).mono ?_
 rintro e v0 ⟨rfl, hv0⟩
 subst hv0
 have hSnew := H7a6.out.sk
 go_wp2_with fail
 clear hHeld
 refine hK.out _ _ hSnew (fun hHeld => ?_)
 clear hK K hSnew
 try simp only [Act.put, zSt, zS0, zS1]
 refine tk 35 ?_
 refine tk 36 ?_
 refine wpAnyH_done (by kernel_rfl) ?_ _
 clear hHeld
 obtain ⟨k0, k1, k2, k3, k4⟩ := H7a6.out.sk
 go_upto_region 10 with (first | (go_at_call 13; refine (hd_read H7a6.out hk4 hc_S.1 (List.replicate 256 0) (List.replicate 57 0) (by simp) hr4').mono ?_; rintro e v9 hrd; obtain ⟨⟨g1, c1, g2, c2, rfl, o1, o2⟩, hd9, b9⟩ := hrd; have H8 := hide hd9; have HR1 := hide o1; have HR2 := hide o2; clear o1 o2 hd9 b9 k0 k1 k2 k3 k4))
 have hB6 := below_alloc v9 (.cells #[.slice (some ⟨g1, 0, none⟩) 256 c1, .slice (some ⟨g2, 0, none⟩) 57 c2] 36)
 have H9 : Hid (HD w (v9.alloc (.cells #[.slice (some ⟨g1, 0, none⟩) 256 c1, .slice (some ⟨g2, 0, none⟩) 57 c2] 36)).drew p FFa6 ((v9.heap.size, (.cells #[.slice (some ⟨g1, 0, none⟩) 256 c1, .slice (some ⟨g2, 0, none⟩) 57 c2] 36 (0, 0))) :: kb b1 b4) hc4) := ((H8.out.below hB6).below (drew_below _)).hold (alloc_new v9 (.cells #[.slice (some ⟨g1, 0, none⟩) 256 c1, .slice (some ⟨g2, 0, none⟩) 57 c2] 36)) (fun hf => by have h9 := H8.out.ch.fin _ hf; omega) H8.out.bel.size
 have HR1 := hide ((HR1.out.below hB6).below (drew_below _))
 have HR2 := hide ((HR2.out.below hB6).below (drew_below _))
 generalize hU : v9.alloc (.cells #[.slice (some ⟨g1, 0, none⟩) 256 c1, .slice (some ⟨g2, 0, none⟩) 57 c2] 36) = U6 at H9 HR1 HR2 ⊢
 generalize hb6 : v9.heap.size = b6 at H9 ⊢
 clear hU hB6 hb6 H8
 refine wp_region_held_drew (S := (fun u => u.cell? ⟨b1, 0, none⟩ = some (.int .i64 8) ∧ u.cell? ⟨b1, 1, none⟩ = some (.int .i64 4) ∧ u.cell? ⟨b1, 2, none⟩ = some (.int .i64 1) ∧ u.cell? ⟨b4, 0, none⟩ = some (.int .i64 0) ∧ u.cell? ⟨b4, 1, none⟩ = some (.int .i64 1) ∧ u.cell? ⟨b6, 0, none⟩ = some (.slice (some ⟨g1, 0, none⟩) 256 c1) ∧ u.cell? ⟨b6, 1, none⟩ = some (.slice (some ⟨g2, 0, none⟩) 57 c2))) (by kernel_rfl) (H9.out.sx) (fun hHeld => ?_)
 refine tk 0 ?_
 refine rd 1 (fun K hK => ?_)
 go_simp
 go_at_call 11
 refine (no_any' 0 _).mono ?_
 rintro e v0 ⟨rfl, hv0⟩
 subst hv0
 have hSnew := H9.out.sx
 go_wp2_with fail
 clear hHeld
 refine hK.out _ _ hSnew (fun hHeld => ?_)
 clear hK K hSnew
 try simp only [Act.put, zSt, zS0, zS1]
 refine tk 2 ?_
 refine tk 3 ?_
 refine tk 4 ?_
 refine tk 5 ?_
 refine rd 6 (fun K hK => ?_)
 go_simp
 go_at_call 54
 refine (even_any _ 8 4 1 (by decide) 0 (by decide)).mono ?_
 rintro e vb1 hev
 obtain ⟨⟨g1, c1, g2, c2, rfl, o1, o2⟩, bev⟩ := hev
 have HO1b1 := hide o1
 have HO2b1 := hide o2
 have HBEb1 := hide bev
 have H9b1 := hide (H9.out.below bev)
 have hSnew := H9b1.out.sx
 clear o1 o2 bev
 go_wp2_with fail
 clear hHeld
 refine hK.out _ _ hSnew (fun hHeld => ?_)
 clear hK K hSnew
 try simp only [Act.put, zSt, zS0, zS1]
 refine rd 7 (fun K hK => ?_)
 go_simp
 go_at_call 55
 refine (samePage_eq _ _ _ _ _ 256 57 _ _ _ _ (List.replicate 256 0) (List.replicate 57 0) (own_repl (HR1.out.below HBEb1.out) (by decide)) (own_repl (HR2.out.below HBEb1.out) (by decide)) (own_repl HO1b1.out (by decide)) (own_repl HO2b1.out (by decide))).mono ?_
 rintro e vs ⟨rfl, bs⟩
 have H9s := hide (H9b1.out.below bs)
 have hSnew := H9s.out.sx
 clear bs
 go_wp2_with fail
 clear hHeld
 refine hK.out _ _ hSnew (fun hHeld => ?_)
 clear hK K hSnew
 try simp only [Act.put, zSt, zS0, zS1]
 refine tk 8 ?_
 refine tk 9 ?_
 refine tk 10 ?_
 refine tk 11 ?_
 refine tk 12 ?_
 refine rd 13 (fun K hK => ?_)
 go_simp
 go_at_call 56
 refine (hd_flip H9s.out hk4 (flAll.1.mono (by omega)) 0 1 5 (by omega)).mono ?_
 rintro e vb2 ⟨rfl, FFb2, hh⟩
 rw [he5]
 rw [q5] at hh
 have H9b2 := hide hh
 have hSnew := H9b2.out.sx
 clear hh
 go_wp2_with fail
 clear hHeld
 refine hK.out _ _ hSnew (fun hHeld => ?_)
 clear hK K hSnew
 try simp only [Act.put, zSt, zS0, zS1]
 refine rd 14 (fun K hK => ?_)
 go_simp
 go_at_call 11
 refine (no_any' 0 _).mono ?_
 rintro e v0 ⟨rfl, hv0⟩
 subst hv0
 have hSnew := H9b2.out.sx
 go_wp2_with fail
 clear hHeld
 refine hK.out _ _ hSnew (fun hHeld => ?_)
 clear hK K hSnew
 try simp only [Act.put, zSt, zS0, zS1]
 refine tk 15 ?_
 refine tk 16 ?_
 refine tk 17 ?_
 refine tk 18 ?_
 refine tk 19 ?_
 refine rd 20 (fun K hK => ?_)
 go_simp
 go_at_call 56
 refine (hd_flip H9b2.out hk5 (flAll.2.1.mono (by omega)) 0 1 2047 (by omega)).mono ?_
 rintro e vb3 ⟨rfl, FFb3, hh⟩
 rw [he6]
 rw [q6] at hh
 have H9b3 := hide hh
 have hSnew := H9b3.out.sx
 clear hh
 go_wp2_with fail
 clear hHeld
 refine hK.out _ _ hSnew (fun hHeld => ?_)
 clear hK K hSnew
 try simp only [Act.put, zSt, zS0, zS1]
 refine rd 21 (fun K hK => ?_)
 go_simp
 go_at_call 11
 refine (no_any' 46 _).mono ?_
 rintro e v0 ⟨rfl, hv0⟩
 subst hv0
 have hSnew := H9b3.out.sx
 go_wp2_with fail
 clear hHeld
 refine hK.out _ _ hSnew (fun hHeld => ?_)
 clear hK K hSnew
 try simp only [Act.put, zSt, zS0, zS1]
 refine tk 22 ?_
 refine tk 23 ?_
 refine tk 24 ?_
 refine tk 25 ?_
 refine tk 26 ?_
 refine rd 27 (fun K hK => ?_)
 go_simp
 go_at_call 56
 refine (hd_flip H9b3.out hk6 (flAll.2.2.1.mono (by omega)) 0 1 2048 (by omega)).mono ?_
 rintro e vb4 ⟨rfl, FFb4, hh⟩
 rw [he7]
 rw [q7] at hh
 have H9b4 := hide hh
 have hSnew := H9b4.out.sx
 clear hh
 go_wp2_with fail
 clear hHeld
 refine hK.out _ _ hSnew (fun hHeld => ?_)
 clear hK K hSnew
 try simp only [Act.put, zSt, zS0, zS1]
 refine rd 28 (fun K hK => ?_)
 go_simp
 go_at_call 11
 refine (no_any' 0 _).mono ?_
 rintro e v0 ⟨rfl, hv0⟩
 subst hv0
 have hSnew := H9b4.out.sx
 go_wp2_with fail
 clear hHeld
 refine hK.out _ _ hSnew (fun hHeld => ?_)
 clear hK K hSnew
 try simp only [Act.put, zSt, zS0, zS1]
 refine tk 29 ?_
 refine tk 30 ?_
 refine tk 31 ?_
 refine tk 32 ?_
 refine tk 33 ?_
 refine rd 34 (fun K hK => ?_)
 go_simp
 go_at_call 56
 refine (hd_flip H9b4.out hk7 (flAll.2.2.2.1.mono (by omega)) 0 1 2500 (by omega)).mono ?_
 rintro e vb5 ⟨rfl, FFb5, hh⟩
 rw [he8]
 rw [q8] at hh
 have H9b5 := hide hh
 have hSnew := H9b5.out.sx
 clear hh
 go_wp2_with fail
 clear hHeld
 refine hK.out _ _ hSnew (fun hHeld => ?_)
 clear hK K hSnew
 try simp only [Act.put, zSt, zS0, zS1]
 refine rd 35 (fun K hK => ?_)
 go_simp
 go_at_call 11
 refine (no_any' 46 _).mono ?_
 rintro e v0 ⟨rfl, hv0⟩
 subst hv0
 have hSnew := H9b5.out.sx
 go_wp2_with fail
 clear hHeld
 refine hK.out _ _ hSnew (fun hHeld => ?_)
 clear hK K hSnew
 try simp only [Act.put, zSt, zS0, zS1]
 refine tk 36 ?_
 refine tk 37 ?_
 refine tk 38 ?_
 refine tk 39 ?_
 refine tk 40 ?_
 refine rd 41 (fun K hK => ?_)
 go_simp
 go_at_call 56
 refine (hd_flip H9b5.out hk8 (flAll.2.2.2.2.mono (by omega)) 0 0 1 (by omega)).mono ?_
 rintro e vb6 ⟨rfl, FFb6, hh⟩
 rw [he9]
 rw [q9] at hh
 have H9b6 := hide hh
 have hSnew := H9b6.out.sx
 clear hh
 go_wp2_with fail
 clear hHeld
 refine hK.out _ _ hSnew (fun hHeld => ?_)
 clear hK K hSnew
 try simp only [Act.put, zSt, zS0, zS1]
 refine rd 42 (fun K hK => ?_)
 go_simp
 go_at_call 11
 refine (no_any' 46 _).mono ?_
 rintro e v0 ⟨rfl, hv0⟩
 subst hv0
 have hSnew := H9b6.out.sx
 go_wp2_with fail
 clear hHeld
 refine hK.out _ _ hSnew (fun hHeld => ?_)
 clear hK K hSnew
 try simp only [Act.put, zSt, zS0, zS1]
 refine tk 43 ?_
 refine tk 44 ?_
 refine wpAnyH_done (by kernel_rfl) ?_ _
 clear hHeld
 obtain ⟨k0, k1, k2, k3, k4, k5, k6⟩ := H9b6.out.sx
 have fz6 := fun j => frozen_of_row _ b6 j _ 36 (H9b6.out.blk List.mem_cons_self)
 go_upto_region 13 with (first | (go_at_call 13; refine (hd_read H9b6.out hk9 hc_S.2.1 (32 :: List.replicate 255 0) (1 :: List.replicate 56 0) (by simp) hr9).mono ?_; rintro e v12 hrd; obtain ⟨⟨g3, c3, g4, c4, rfl, o1, o2⟩, hd9, b9⟩ := hrd; have H11 := hide hd9; have HR3 := hide o1; have HR4 := hide o2; obtain ⟨j0, j1, j2, j3, j4, j5, j6⟩ := hd9.sx; have fz7 := fun j => frozen_of_row v12 b6 j _ 36 (hd9.blk List.mem_cons_self); clear o1 o2 hd9 b9 k0 k1 k2 k3 k4 k5 k6 fz6))
 have H12 := hide (hd_page (x0 := .slice (some ⟨g3, 0, none⟩) 256 c3) (x1 := .slice (some ⟨g4, 0, none⟩) 57 c4) H11.out)
 have HR3 := hide (own_page (x0 := .slice (some ⟨g3, 0, none⟩) 256 c3) (x1 := .slice (some ⟨g4, 0, none⟩) 57 c4) (H11.out.blk List.mem_cons_self) HR3.out)
 have HR4 := hide (own_page (x0 := .slice (some ⟨g3, 0, none⟩) 256 c3) (x1 := .slice (some ⟨g4, 0, none⟩) 57 c4) (H11.out.blk List.mem_cons_self) HR4.out)
 generalize hU : World.setCell _ ⟨b6, 1, none⟩ _ = U12 at H12 HR3 HR4 ⊢
 clear hU H11 j0 j1 j2 j3 j4 j5 j6 fz7
 obtain ⟨k0, k1, k2, k3, k4, k5, k6⟩ := H12.out.sx
 have d0 := HR3.out.cell 0 (by omega)
 have d1 := HR4.out.cell 0 (by omega)
 simp only [List.getD_cons_zero] at d0 d1
 go_upto_region 15 with (first | (go_at_call 11; refine (no_any' 0 _).mono ?_; rintro e v0 ⟨rfl, hv0⟩; subst hv0) | (go_at_call 51; refine (hd_erase H12.out hk9 (by have := htl.2.2.2.2; omega) 0).mono ?_; rintro e v14 ⟨rfl, FFc, hh⟩; rw [he10]; rw [q10] at hh; have H14 := hide hh; clear hh k0 k1 k2 k3 k4 k5 k6 d0 d1))
 obtain ⟨k0, k1, k2, k3, k4, k5, k6⟩ := H14.out.sx
 have fz6 := fun j => frozen_of_row _ b6 j _ 36 (H14.out.blk List.mem_cons_self)
 go_upto_region 16 with (first | (go_at_call 13; refine (hd_read H14.out hk10 hc_S.2.2 (List.replicate 256 255) (List.replicate 57 255) (by simp) hr10).mono ?_; rintro e v15 hrd; obtain ⟨⟨g5, c5, g6, c6, rfl, o1, o2⟩, hd9, b9⟩ := hrd; have H15 := hide hd9; have HR5 := hide o1; have HR6 := hide o2; obtain ⟨j0, j1, j2, j3, j4, j5, j6⟩ := hd9.sx; have fz7 := fun j => frozen_of_row v15 b6 j _ 36 (hd9.blk List.mem_cons_self); clear o1 o2 hd9 b9 k0 k1 k2 k3 k4 k5 k6 fz6))
 have H5 := hide ((hd_page (x0 := .slice (some ⟨g5, 0, none⟩) 256 c5) (x1 := .slice (some ⟨g6, 0, none⟩) 57 c6) H15.out).below (drew_below _))
 have HR5 := hide ((own_page (x0 := .slice (some ⟨g5, 0, none⟩) 256 c5) (x1 := .slice (some ⟨g6, 0, none⟩) 57 c6) (H15.out.blk List.mem_cons_self) HR5.out).below (drew_below _))
 have HR6 := hide ((own_page (x0 := .slice (some ⟨g5, 0, none⟩) 256 c5) (x1 := .slice (some ⟨g6, 0, none⟩) 57 c6) (H15.out.blk List.mem_cons_self) HR6.out).below (drew_below _))
 generalize hU : World.setCell _ ⟨b6, 1, none⟩ _ = U15 at H5 HR5 HR6 ⊢
 clear hU H15 j0 j1 j2 j3 j4 j5 j6 fz7
 refine wp_region_held_drew (S := (fun u => u.cell? ⟨b1, 0, none⟩ = some (.int .i64 8) ∧ u.cell? ⟨b1, 1, none⟩ = some (.int .i64 4) ∧ u.cell? ⟨b1, 2, none⟩ = some (.int .i64 1) ∧ u.cell? ⟨b4, 0, none⟩ = some (.int .i64 0) ∧ u.cell? ⟨b4, 1, none⟩ = some (.int .i64 1) ∧ u.cell? ⟨b6, 0, none⟩ = some (.slice (some ⟨g5, 0, none⟩) 256 c5) ∧ u.cell? ⟨b6, 1, none⟩ = some (.slice (some ⟨g6, 0, none⟩) 57 c6))) (by kernel_rfl) (H5.out.sx) (fun hHeld => ?_)
 refine tk 0 ?_
 refine rd 1 (fun K hK => ?_)
 go_simp
 go_at_call 11
 refine (no_any' 0 _).mono ?_
 rintro e v0 ⟨rfl, hv0⟩
 subst hv0
 have hSnew := H5.out.sx
 go_wp2_with fail
 clear hHeld
 refine hK.out _ _ hSnew (fun hHeld => ?_)
 clear hK K hSnew
 try simp only [Act.put, zSt, zS0, zS1]
 refine tk 2 ?_
 refine tk 3 ?_
 refine tk 4 ?_
 refine tk 5 ?_
 refine rd 6 (fun K hK => ?_)
 go_simp
 go_at_call 54
 refine (even_any _ 8 4 1 (by decide) 255 (by decide)).mono ?_
 rintro e vd1 hev
 obtain ⟨⟨g1, c1, g2, c2, rfl, o1, o2⟩, bev⟩ := hev
 have HO1d1 := hide o1
 have HO2d1 := hide o2
 have HBEd1 := hide bev
 have H5d1 := hide (H5.out.below bev)
 have hSnew := H5d1.out.sx
 clear o1 o2 bev
 go_wp2_with fail
 clear hHeld
 refine hK.out _ _ hSnew (fun hHeld => ?_)
 clear hK K hSnew
 try simp only [Act.put, zSt, zS0, zS1]
 refine rd 7 (fun K hK => ?_)
 go_simp
 go_at_call 55
 refine (samePage_eq _ _ _ _ _ 256 57 _ _ _ _ (List.replicate 256 255) (List.replicate 57 255) (own_repl (HR5.out.below HBEd1.out) (by decide)) (own_repl (HR6.out.below HBEd1.out) (by decide)) (own_repl HO1d1.out (by decide)) (own_repl HO2d1.out (by decide))).mono ?_
 rintro e vs ⟨rfl, bs⟩
 have H5s := hide (H5d1.out.below bs)
 have hSnew := H5s.out.sx
 clear bs
 go_wp2_with fail
 clear hHeld
 refine hK.out _ _ hSnew (fun hHeld => ?_)
 clear hK K hSnew
 try simp only [Act.put, zSt, zS0, zS1]
 refine tk 8 ?_
 refine tk 9 ?_
 refine tk 10 ?_
 refine rd 11 (fun K hK => ?_)
 go_simp
 go_at_call 18
 refine (Count_any _ p _ hc10 H5s.out.ch).mono ?_
 rintro e vt ⟨rfl, hvt⟩
 subst hvt
 rw [hn10.1]
 have hSnew := H5s.out.sx
 go_wp2_with fail
 clear hHeld
 refine hK.out _ _ hSnew (fun hHeld => ?_)
 clear hK K hSnew
 try simp only [Act.put, zSt, zS0, zS1]
 refine tk 12 ?_
 refine tk 13 ?_
 refine tk 14 ?_
 refine tk 15 ?_
 refine rd 16 (fun K hK => ?_)
 go_simp
 go_at_call 19
 refine (Trace_any _ p _ hc10 H5s.out.ch (by have := hn10.2; omega)).mono ?_
 rintro e vt ⟨vv, rfl, hov, bt⟩
 rw [hn10.2] at hov
 obtain ⟨gt, ct, hvv, _⟩ := hov.form (by omega)
 subst hvv
 have H5t := hide (H5s.out.below bt)
 have hSnew := H5t.out.sx
 clear hov bt
 go_wp2_with fail
 clear hHeld
 refine hK.out _ _ hSnew (fun hHeld => ?_)
 clear hK K hSnew
 try simp only [Act.put, zSt, zS0, zS1]
 refine tk 17 ?_
 refine tk 18 ?_
 refine tk 19 ?_
 refine tk 20 ?_
 refine wpAnyH_done (by kernel_rfl) ?_ _
 clear hHeld
 go_wp2
 go_ret
 exact ⟨rfl, H5t.out.bel⟩
end Go.Proofs.Ytadlkikjfonkgaa
namespace Go.Proofs.Ytadlkikjfonkgaa
open Go.RowKit Go.Conc
set_option linter.unusedVariables false
theorem img_range {w : World} {p : Nat} {F : Nat → Prop} {C : Ch} (h : ChipAt w p F C) : ∀ z ∈ imgL C, 0 ≤ z ∧ z ≤ 255 := by
 obtain ⟨x, bs, fe, hc⟩ := h
 intro z hz
 unfold imgL imgB at hz
 obtain ⟨i, _, hz⟩ := List.mem_flatMap.1 hz
 obtain ⟨k, _, hz⟩ := List.mem_flatMap.1 hz
 unfold readL at hz
 rw [← hc.bl, List.getElem?_map] at hz
 cases hb : bs[i]? with
 | none => rw [hb] at hz; cases hz
 | some b =>
  rw [hb] at hz
  simp only [Option.map_some, Bc.v, List.getElem?_map] at hz
  cases hq : b.ps[k]? with
  | none => rw [hq] at hz; cases hz
  | some q =>
   rw [hq] at hz
   exact flipsL_range _ _ ((hc.bok b (List.mem_of_getElem? hb)).pg q (List.mem_of_getElem? hq)).byt z hz
end Go.Proofs.Ytadlkikjfonkgaa
