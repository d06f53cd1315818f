/-
  SEAT Ytadlkikjfonkgaa: Hd, Fh, Ve.
-/
import Derived.Test.YtadlkikjfonkgaaQa
import Derived.Test.YtadlkikjfonkgaaQbo
import Derived.Test.YtadlkikjfonkgaaQx
import Derived.Test.YtadlkikjfonkgaaQz
import Derived.Test.YtadlkikjfonkgaaQbm
import Derived.Test.YtadlkikjfonkgaaQbn
import Derived.Test.YtadlkikjfonkgaaQba
namespace Go.Proofs.Ytadlkikjfonkgaa
open Go.RowKit Go.Conc
set_option linter.unusedVariables false
set_option maxRecDepth 100000
set_option maxHeartbeats 4000000
variable {w : World} {C : Ch}
attribute [local irreducible] hc0 hc1 hc2 hc3 hc4 hc5 hc6 hc7 hc8 hc9 hc10
set_option maxHeartbeats 8000000 in
theorem heads_any (w : World) : Calls Try.prog 12 #[] w fun e w' => e = .returned (.bool true) ∧ Below w.heap.size w w' := by
 go_enter Try.func12, Try.ntmps12
 go_upto_region 5 with (first
  | (go_at_call 20; refine (lshape_any _).mono ?_; rintro e u1 ⟨rfl, b1'⟩; have HB1 := J b1'; clear b1')
  | (go_at_call 21; refine (hd_new (u1.alloc (.cells #[.int .i64 8, .int .i64 4, .int .i64 1] 23)) (u1.heap.size + 1) (by simp)).mono ?_; rintro e u2 ⟨p, rfl, hch, hbn⟩; have HN := J hbn; have HCH := J hch; clear hbn hch)
  | (go_at_call 11; refine (no_any' 0 _).mono ?_; rintro e u3 ⟨rfl, hu3⟩; subst hu3))
 obtain ⟨b1, hb1⟩ : ∃ b, b = u1.heap.size := ⟨_, rfl⟩
 have HG1 : Hid (u3.heap[b1]? = some (.cells #[.int .i64 8, .int .i64 4, .int .i64 1] 23 (0, 0)) ∧ w.heap.size ≤ b1) := by
  have h9 := HN.out.block u1.heap.size (by simp; omega)
  rw [hb1]
  exact ⟨h9.trans ((alloc_old _ _ (by simp)).trans (alloc_new u1 (.cells #[.int .i64 8, .int .i64 4, .int .i64 1] 23))), HB1.out.size⟩
 have HBB : Hid (Below w.heap.size w u3) := (below_trans (below_trans HB1.out (below_alloc _ _)) (below_alloc _ _)).trans (HN.out.mono (by have := HB1.out.size; simp; omega))
 have H6 : Hid (HD w (u3.alloc (.cells #[.int .i64 0, .int .i64 1] 41)) p (fun k => u1.heap.size + 2 ≤ k ∧ k < u3.heap.size) (kb b1 u3.heap.size) hc0) := by
  have hc := HCH.out
  rw [alloc_size] at hc
  have h1 := HB1.out.size
  refine ⟨HBB.out.trans ((below_alloc _ _).mono HBB.out.size), hc.below (below_alloc _ _), fun k hk => by omega, fun x hx => ?_⟩
  simp [kb] at hx
  rcases hx with rfl | rfl
  ·exact ⟨(alloc_old _ _ (lt_of_block HG1.out.1)).trans HG1.out.1, (fun hf => by have := hf.1; omega), HG1.out.2⟩
  ·exact ⟨alloc_new u3 (.cells #[.int .i64 0, .int .i64 1] 41), (fun hf => by have := hf.2; simp at this), HBB.out.size⟩
 clear HG1 HCH HN
 rw [← hb1]
 clear hb1
 generalize hF0 : (fun k => u1.heap.size + 2 ≤ k ∧ k < u3.heap.size) = F0 at H6
 clear hF0
 go_upto_region 6 with fail
 generalize hU : u3.alloc (.cells #[.int .i64 0, .int .i64 1] 41) = U4 at H6 ⊢
 generalize hb4 : u3.heap.size = b4 at H6 ⊢
 clear hU hb4 HBB HB1 u3 u1
 go_upto_region 7 with (first | (go_at_call 50; refine (Marked_any _ p _ hc0 H6.out.ch hk0 2).mono ?_; rintro e v1 ⟨rfl, hv1⟩; subst hv1; rw [hm0.1, hm0.2]))
 have H7 := J (H6.out.below (drew_below _))
 refine wp_region_held_drew (S := (fun u => u.cell? ⟨b1, 0, none⟩ = some (.int .i64 8) ∧ u.cell? ⟨b1, 1, none⟩ = some (.int .i64 4) ∧ u.cell? ⟨b1, 2, none⟩ = some (.int .i64 1) ∧ u.cell? ⟨b4, 0, none⟩ = some (.int .i64 0) ∧ u.cell? ⟨b4, 1, none⟩ = some (.int .i64 1))) (by kernel_rfl) (H7.out.sk) fun O => ?_
 refine tk 0 ?_
 refine rd 1 fun K N => ?_
 go_simp
 go_at_call 11
 refine (no_any' 0 _).mono ?_
 rintro e v0 ⟨rfl, hv0⟩
 subst hv0
 have hZ := H7.out.sk
 go_wp2_with fail
 clear O
 refine N.out _ _ hZ fun O => ?_
 clear N K hZ
 try simp only [zz]
 refine tk 2 ?_
 refine tk 3 ?_
 refine tk 4 ?_
 refine tk 5 ?_
 refine tk 6 ?_
 refine tk 7 ?_
 refine tk 8 ?_
 refine rd 9 fun K N => ?_
 go_simp
 go_at_call 51
 refine (hd_erase H7.out hk0 (by have := htl.1; omega) 2).mono ?_
 rintro e va1 ⟨rfl, FFa1, hh⟩
 rw [he1]
 rw [q1] at hh
 have H7a1 := J hh
 have hZ := H7a1.out.sk
 clear hh
 go_wp2_with fail
 clear O
 refine N.out _ _ hZ fun O => ?_
 clear N K hZ
 try simp only [zz]
 refine rd 10 fun K N => ?_
 go_simp
 go_at_call 11
 refine (no_any' 43 _).mono ?_
 rintro e v0 ⟨rfl, hv0⟩
 subst hv0
 have hZ := H7a1.out.sk
 go_wp2_with fail
 clear O
 refine N.out _ _ hZ fun O => ?_
 clear N K hZ
 try simp only [zz]
 refine tk 11 ?_
 refine tk 12 ?_
 refine tk 13 ?_
 refine tk 14 ?_
 refine rd 15 fun K N => ?_
 go_simp
 go_at_call 52
 refine (hd_mark H7a1.out hk1 (by have := htl.2.1; omega) 8).mono ?_
 rintro e va2 ⟨rfl, FFa2, hh⟩
 rw [he2]
 rw [q2] at hh
 have H7a2 := J hh
 have hZ := H7a2.out.sk
 clear hh
 go_wp2_with fail
 clear O
 refine N.out _ _ hZ fun O => ?_
 clear N K hZ
 try simp only [zz]
 refine rd 16 fun K N => ?_
 go_simp
 go_at_call 11
 refine (no_any' 41 _).mono ?_
 rintro e v0 ⟨rfl, hv0⟩
 subst hv0
 have hZ := H7a2.out.sk
 go_wp2_with fail
 clear O
 refine N.out _ _ hZ fun O => ?_
 clear N K hZ
 try simp only [zz]
 refine tk 17 ?_
 refine tk 18 ?_
 refine tk 19 ?_
 refine tk 20 ?_
 refine tk 21 ?_
 refine tk 22 ?_
 refine rd 23 fun K N => ?_
 go_simp
 go_at_call 54
 refine (even_any _ 8 4 1 (by decide) 0 (by decide)).mono ?_
 rintro e va3 hev
 obtain ⟨⟨g1, c1, g2, c2, rfl, o1, o2⟩, bev⟩ := hev
 have HO1a3 := J o1
 have HO2a3 := J o2
 have HBEa3 := J bev
 have H7a3 := J (H7a2.out.below bev)
 have hZ := H7a3.out.sk
 clear o1 o2 bev
 go_wp2_with fail
 clear O
 refine N.out _ _ hZ fun O => ?_
 clear N K hZ
 try simp only [zz]
 refine rd 24 fun K N => ?_
 go_simp
 go_at_call 53
 refine (hd_progE H7a2.out hk2 HBEa3.out 0 1 1 (by omega) 0 (by decide) _ _ _ _ HO1a3.out HO2a3.out (by have := htl.2.2.1; omega)).mono ?_
 rintro e va4 ⟨rfl, FFa4, hh⟩
 rw [he3']
 rw [q3] at hh
 have H7a4 := J hh
 have hZ := H7a4.out.sk
 clear hh
 go_wp2_with fail
 clear O
 refine N.out _ _ hZ fun O => ?_
 clear N K hZ
 try simp only [zz]
 refine rd 25 fun K N => ?_
 go_simp
 go_at_call 11
 refine (no_any' 0 _).mono ?_
 rintro e v0 ⟨rfl, hv0⟩
 subst hv0
 have hZ := H7a4.out.sk
 go_wp2_with fail
 clear O
 refine N.out _ _ hZ fun O => ?_
 clear N K hZ
 try simp only [zz]
 refine tk 26 ?_
 refine tk 27 ?_
 refine tk 28 ?_
 refine tk 29 ?_
 refine tk 30 ?_
 refine tk 31 ?_
 refine rd 32 fun K N => ?_
 go_simp
 go_at_call 54
 refine (even_any _ 8 4 1 (by decide) 0 (by decide)).mono ?_
 rintro e va5 hev
 obtain ⟨⟨g1, c1, g2, c2, rfl, o1, o2⟩, bev⟩ := hev
 have HO1a5 := J o1
 have HO2a5 := J o2
 have HBEa5 := J bev
 have H7a5 := J (H7a4.out.below bev)
 have hZ := H7a5.out.sk
 clear o1 o2 bev
 go_wp2_with fail
 clear O
 refine N.out _ _ hZ fun O => ?_
 clear N K hZ
 try simp only [zz]
 refine rd 33 fun K N => ?_
 go_simp
 go_at_call 53
 refine (hd_progE H7a4.out hk3 HBEa5.out 0 0 1 (by omega) 0 (by decide) _ _ _ _ HO1a5.out HO2a5.out (by have := htl.2.2.2.1; omega)).mono ?_
 rintro e va6 ⟨rfl, FFa6, hh⟩
 rw [he4']
 rw [q4] at hh
 have H7a6 := J hh
 have hZ := H7a6.out.sk
 clear hh
 go_wp2_with fail
 clear O
 refine N.out _ _ hZ fun O => ?_
 clear N K hZ
 try simp only [zz]
 refine rd 34 fun K N => ?_
 go_simp
 go_at_call 11
 refine (no_any' 43 _).mono ?_
 rintro e v0 ⟨rfl, hv0⟩
 subst hv0
 have hZ := H7a6.out.sk
 go_wp2_with fail
 clear O
 refine N.out _ _ hZ fun O => ?_
 clear N K hZ
 try simp only [zz]
 refine tk 35 ?_
 refine tk 36 ?_
 refine td ?_
 clear O
 obtain ⟨k0, k1, k2, k3, k4⟩ := H7a6.out.sk
 go_upto_region 10 with (first | (go_at_call 13; refine (hd_read H7a6.out hk4 hc_S.1 (List.replicate 256 0) (List.replicate 57 0) (by simp) hr4').mono ?_; rintro e v9 hrd; obtain ⟨⟨g1, c1, g2, c2, rfl, o1, o2⟩, hd9, b9⟩ := hrd; have H8 := J hd9; have HR1 := J o1; have HR2 := J o2; clear o1 o2 hd9 b9 k0 k1 k2 k3 k4))
 have hB6 := below_alloc v9 (.cells #[.slice (some ⟨g1, 0, none⟩) 256 c1, .slice (some ⟨g2, 0, none⟩) 57 c2] 36)
 have H9 : Hid (HD w (v9.alloc (.cells #[.slice (some ⟨g1, 0, none⟩) 256 c1, .slice (some ⟨g2, 0, none⟩) 57 c2] 36)).drew p FFa6 ((v9.heap.size, (.cells #[.slice (some ⟨g1, 0, none⟩) 256 c1, .slice (some ⟨g2, 0, none⟩) 57 c2] 36 (0, 0))) :: kb b1 b4) hc4) := ((H8.out.below hB6).below (drew_below _)).hold (alloc_new v9 (.cells #[.slice (some ⟨g1, 0, none⟩) 256 c1, .slice (some ⟨g2, 0, none⟩) 57 c2] 36)) (fun hf => by have h9 := H8.out.ch.fin _ hf; omega) H8.out.bel.size
 have HR1 := J ((HR1.out.below hB6).below (drew_below _))
 have HR2 := J ((HR2.out.below hB6).below (drew_below _))
 generalize hU : v9.alloc (.cells #[.slice (some ⟨g1, 0, none⟩) 256 c1, .slice (some ⟨g2, 0, none⟩) 57 c2] 36) = U6 at H9 HR1 HR2 ⊢
 generalize hb6 : v9.heap.size = b6 at H9 ⊢
 clear hU hB6 hb6 H8
 refine wp_region_held_drew (S := (fun u => u.cell? ⟨b1, 0, none⟩ = some (.int .i64 8) ∧ u.cell? ⟨b1, 1, none⟩ = some (.int .i64 4) ∧ u.cell? ⟨b1, 2, none⟩ = some (.int .i64 1) ∧ u.cell? ⟨b4, 0, none⟩ = some (.int .i64 0) ∧ u.cell? ⟨b4, 1, none⟩ = some (.int .i64 1) ∧ u.cell? ⟨b6, 0, none⟩ = some (.slice (some ⟨g1, 0, none⟩) 256 c1) ∧ u.cell? ⟨b6, 1, none⟩ = some (.slice (some ⟨g2, 0, none⟩) 57 c2))) (by kernel_rfl) (H9.out.sx) fun O => ?_
 refine tk 0 ?_
 refine rd 1 fun K N => ?_
 go_simp
 go_at_call 11
 refine (no_any' 0 _).mono ?_
 rintro e v0 ⟨rfl, hv0⟩
 subst hv0
 have hZ := H9.out.sx
 go_wp2_with fail
 clear O
 refine N.out _ _ hZ fun O => ?_
 clear N K hZ
 try simp only [zz]
 refine tk 2 ?_
 refine tk 3 ?_
 refine tk 4 ?_
 refine tk 5 ?_
 refine rd 6 fun K N => ?_
 go_simp
 go_at_call 54
 refine (even_any _ 8 4 1 (by decide) 0 (by decide)).mono ?_
 rintro e vb1 hev
 obtain ⟨⟨g1, c1, g2, c2, rfl, o1, o2⟩, bev⟩ := hev
 have HO1b1 := J o1
 have HO2b1 := J o2
 have HBEb1 := J bev
 have H9b1 := J (H9.out.below bev)
 have hZ := H9b1.out.sx
 clear o1 o2 bev
 go_wp2_with fail
 clear O
 refine N.out _ _ hZ fun O => ?_
 clear N K hZ
 try simp only [zz]
 refine rd 7 fun K N => ?_
 go_simp
 go_at_call 55
 refine (samePage_eq _ _ _ _ _ 256 57 _ _ _ _ (List.replicate 256 0) (List.replicate 57 0) (own_repl (HR1.out.below HBEb1.out) (by decide)) (own_repl (HR2.out.below HBEb1.out) (by decide)) (own_repl HO1b1.out (by decide)) (own_repl HO2b1.out (by decide))).mono ?_
 rintro e vs ⟨rfl, bs⟩
 have H9s := J (H9b1.out.below bs)
 have hZ := H9s.out.sx
 clear bs
 go_wp2_with fail
 clear O
 refine N.out _ _ hZ fun O => ?_
 clear N K hZ
 try simp only [zz]
 refine tk 8 ?_
 refine tk 9 ?_
 refine tk 10 ?_
 refine tk 11 ?_
 refine tk 12 ?_
 refine rd 13 fun K N => ?_
 go_simp
 go_at_call 56
 refine (hd_flip H9s.out hk4 (flAll.1.mono (by omega)) 0 1 5 (by omega)).mono ?_
 rintro e vb2 ⟨rfl, FFb2, hh⟩
 rw [he5]
 rw [q5] at hh
 have H9b2 := J hh
 have hZ := H9b2.out.sx
 clear hh
 go_wp2_with fail
 clear O
 refine N.out _ _ hZ fun O => ?_
 clear N K hZ
 try simp only [zz]
 refine rd 14 fun K N => ?_
 go_simp
 go_at_call 11
 refine (no_any' 0 _).mono ?_
 rintro e v0 ⟨rfl, hv0⟩
 subst hv0
 have hZ := H9b2.out.sx
 go_wp2_with fail
 clear O
 refine N.out _ _ hZ fun O => ?_
 clear N K hZ
 try simp only [zz]
 refine tk 15 ?_
 refine tk 16 ?_
 refine tk 17 ?_
 refine tk 18 ?_
 refine tk 19 ?_
 refine rd 20 fun K N => ?_
 go_simp
 go_at_call 56
 refine (hd_flip H9b2.out hk5 (flAll.2.1.mono (by omega)) 0 1 2047 (by omega)).mono ?_
 rintro e vb3 ⟨rfl, FFb3, hh⟩
 rw [he6]
 rw [q6] at hh
 have H9b3 := J hh
 have hZ := H9b3.out.sx
 clear hh
 go_wp2_with fail
 clear O
 refine N.out _ _ hZ fun O => ?_
 clear N K hZ
 try simp only [zz]
 refine rd 21 fun K N => ?_
 go_simp
 go_at_call 11
 refine (no_any' 46 _).mono ?_
 rintro e v0 ⟨rfl, hv0⟩
 subst hv0
 have hZ := H9b3.out.sx
 go_wp2_with fail
 clear O
 refine N.out _ _ hZ fun O => ?_
 clear N K hZ
 try simp only [zz]
 refine tk 22 ?_
 refine tk 23 ?_
 refine tk 24 ?_
 refine tk 25 ?_
 refine tk 26 ?_
 refine rd 27 fun K N => ?_
 go_simp
 go_at_call 56
 refine (hd_flip H9b3.out hk6 (flAll.2.2.1.mono (by omega)) 0 1 2048 (by omega)).mono ?_
 rintro e vb4 ⟨rfl, FFb4, hh⟩
 rw [he7]
 rw [q7] at hh
 have H9b4 := J hh
 have hZ := H9b4.out.sx
 clear hh
 go_wp2_with fail
 clear O
 refine N.out _ _ hZ fun O => ?_
 clear N K hZ
 try simp only [zz]
 refine rd 28 fun K N => ?_
 go_simp
 go_at_call 11
 refine (no_any' 0 _).mono ?_
 rintro e v0 ⟨rfl, hv0⟩
 subst hv0
 have hZ := H9b4.out.sx
 go_wp2_with fail
 clear O
 refine N.out _ _ hZ fun O => ?_
 clear N K hZ
 try simp only [zz]
 refine tk 29 ?_
 refine tk 30 ?_
 refine tk 31 ?_
 refine tk 32 ?_
 refine tk 33 ?_
 refine rd 34 fun K N => ?_
 go_simp
 go_at_call 56
 refine (hd_flip H9b4.out hk7 (flAll.2.2.2.1.mono (by omega)) 0 1 2500 (by omega)).mono ?_
 rintro e vb5 ⟨rfl, FFb5, hh⟩
 rw [he8]
 rw [q8] at hh
 have H9b5 := J hh
 have hZ := H9b5.out.sx
 clear hh
 go_wp2_with fail
 clear O
 refine N.out _ _ hZ fun O => ?_
 clear N K hZ
 try simp only [zz]
 refine rd 35 fun K N => ?_
 go_simp
 go_at_call 11
 refine (no_any' 46 _).mono ?_
 rintro e v0 ⟨rfl, hv0⟩
 subst hv0
 have hZ := H9b5.out.sx
 go_wp2_with fail
 clear O
 refine N.out _ _ hZ fun O => ?_
 clear N K hZ
 try simp only [zz]
 refine tk 36 ?_
 refine tk 37 ?_
 refine tk 38 ?_
 refine tk 39 ?_
 refine tk 40 ?_
 refine rd 41 fun K N => ?_
 go_simp
 go_at_call 56
 refine (hd_flip H9b5.out hk8 (flAll.2.2.2.2.mono (by omega)) 0 0 1 (by omega)).mono ?_
 rintro e vb6 ⟨rfl, FFb6, hh⟩
 rw [he9]
 rw [q9] at hh
 have H9b6 := J hh
 have hZ := H9b6.out.sx
 clear hh
 go_wp2_with fail
 clear O
 refine N.out _ _ hZ fun O => ?_
 clear N K hZ
 try simp only [zz]
 refine rd 42 fun K N => ?_
 go_simp
 go_at_call 11
 refine (no_any' 46 _).mono ?_
 rintro e v0 ⟨rfl, hv0⟩
 subst hv0
 have hZ := H9b6.out.sx
 go_wp2_with fail
 clear O
 refine N.out _ _ hZ fun O => ?_
 clear N K hZ
 try simp only [zz]
 refine tk 43 ?_
 refine tk 44 ?_
 refine td ?_
 clear O
 obtain ⟨k0, k1, k2, k3, k4, k5, k6⟩ := H9b6.out.sx
 have fz6 := fun j => frozen_of_row _ b6 j _ 36 (H9b6.out.blk List.mem_cons_self)
 go_upto_region 13 with (first | (go_at_call 13; refine (hd_read H9b6.out hk9 hc_S.2.1 (32 :: List.replicate 255 0) (1 :: List.replicate 56 0) (by simp) hr9).mono ?_; rintro e v12 hrd; obtain ⟨⟨g3, c3, g4, c4, rfl, o1, o2⟩, hd9, b9⟩ := hrd; have H11 := J hd9; have HR3 := J o1; have HR4 := J o2; obtain ⟨j0, j1, j2, j3, j4, j5, j6⟩ := hd9.sx; have fz7 := fun j => frozen_of_row v12 b6 j _ 36 (hd9.blk List.mem_cons_self); clear o1 o2 hd9 b9 k0 k1 k2 k3 k4 k5 k6 fz6))
 have H12 := J (hd_page (x0 := .slice (some ⟨g3, 0, none⟩) 256 c3) (x1 := .slice (some ⟨g4, 0, none⟩) 57 c4) H11.out)
 have HR3 := J (own_page (x0 := .slice (some ⟨g3, 0, none⟩) 256 c3) (x1 := .slice (some ⟨g4, 0, none⟩) 57 c4) (H11.out.blk List.mem_cons_self) HR3.out)
 have HR4 := J (own_page (x0 := .slice (some ⟨g3, 0, none⟩) 256 c3) (x1 := .slice (some ⟨g4, 0, none⟩) 57 c4) (H11.out.blk List.mem_cons_self) HR4.out)
 generalize hU : World.setCell _ ⟨b6, 1, none⟩ _ = U12 at H12 HR3 HR4 ⊢
 clear hU H11 j0 j1 j2 j3 j4 j5 j6 fz7
 obtain ⟨k0, k1, k2, k3, k4, k5, k6⟩ := H12.out.sx
 have d0 := HR3.out.cell 0 (by omega)
 have d1 := HR4.out.cell 0 (by omega)
 simp only [List.getD_cons_zero] at d0 d1
 go_upto_region 15 with (first | (go_at_call 11; refine (no_any' 0 _).mono ?_; rintro e v0 ⟨rfl, hv0⟩; subst hv0) | (go_at_call 51; refine (hd_erase H12.out hk9 (by have := htl.2.2.2.2; omega) 0).mono ?_; rintro e v14 ⟨rfl, FFc, hh⟩; rw [he10]; rw [q10] at hh; have H14 := J hh; clear hh k0 k1 k2 k3 k4 k5 k6 d0 d1))
 obtain ⟨k0, k1, k2, k3, k4, k5, k6⟩ := H14.out.sx
 have fz6 := fun j => frozen_of_row _ b6 j _ 36 (H14.out.blk List.mem_cons_self)
 go_upto_region 16 with (first | (go_at_call 13; refine (hd_read H14.out hk10 hc_S.2.2 (List.replicate 256 255) (List.replicate 57 255) (by simp) hr10).mono ?_; rintro e v15 hrd; obtain ⟨⟨g5, c5, g6, c6, rfl, o1, o2⟩, hd9, b9⟩ := hrd; have H15 := J hd9; have HR5 := J o1; have HR6 := J o2; obtain ⟨j0, j1, j2, j3, j4, j5, j6⟩ := hd9.sx; have fz7 := fun j => frozen_of_row v15 b6 j _ 36 (hd9.blk List.mem_cons_self); clear o1 o2 hd9 b9 k0 k1 k2 k3 k4 k5 k6 fz6))
 have H5 := J ((hd_page (x0 := .slice (some ⟨g5, 0, none⟩) 256 c5) (x1 := .slice (some ⟨g6, 0, none⟩) 57 c6) H15.out).below (drew_below _))
 have HR5 := J ((own_page (x0 := .slice (some ⟨g5, 0, none⟩) 256 c5) (x1 := .slice (some ⟨g6, 0, none⟩) 57 c6) (H15.out.blk List.mem_cons_self) HR5.out).below (drew_below _))
 have HR6 := J ((own_page (x0 := .slice (some ⟨g5, 0, none⟩) 256 c5) (x1 := .slice (some ⟨g6, 0, none⟩) 57 c6) (H15.out.blk List.mem_cons_self) HR6.out).below (drew_below _))
 generalize hU : World.setCell _ ⟨b6, 1, none⟩ _ = U15 at H5 HR5 HR6 ⊢
 clear hU H15 j0 j1 j2 j3 j4 j5 j6 fz7
 refine wp_region_held_drew (S := (fun u => u.cell? ⟨b1, 0, none⟩ = some (.int .i64 8) ∧ u.cell? ⟨b1, 1, none⟩ = some (.int .i64 4) ∧ u.cell? ⟨b1, 2, none⟩ = some (.int .i64 1) ∧ u.cell? ⟨b4, 0, none⟩ = some (.int .i64 0) ∧ u.cell? ⟨b4, 1, none⟩ = some (.int .i64 1) ∧ u.cell? ⟨b6, 0, none⟩ = some (.slice (some ⟨g5, 0, none⟩) 256 c5) ∧ u.cell? ⟨b6, 1, none⟩ = some (.slice (some ⟨g6, 0, none⟩) 57 c6))) (by kernel_rfl) (H5.out.sx) fun O => ?_
 refine tk 0 ?_
 refine rd 1 fun K N => ?_
 go_simp
 go_at_call 11
 refine (no_any' 0 _).mono ?_
 rintro e v0 ⟨rfl, hv0⟩
 subst hv0
 have hZ := H5.out.sx
 go_wp2_with fail
 clear O
 refine N.out _ _ hZ fun O => ?_
 clear N K hZ
 try simp only [zz]
 refine tk 2 ?_
 refine tk 3 ?_
 refine tk 4 ?_
 refine tk 5 ?_
 refine rd 6 fun K N => ?_
 go_simp
 go_at_call 54
 refine (even_any _ 8 4 1 (by decide) 255 (by decide)).mono ?_
 rintro e vd1 hev
 obtain ⟨⟨g1, c1, g2, c2, rfl, o1, o2⟩, bev⟩ := hev
 have HO1d1 := J o1
 have HO2d1 := J o2
 have HBEd1 := J bev
 have H5d1 := J (H5.out.below bev)
 have hZ := H5d1.out.sx
 clear o1 o2 bev
 go_wp2_with fail
 clear O
 refine N.out _ _ hZ fun O => ?_
 clear N K hZ
 try simp only [zz]
 refine rd 7 fun K N => ?_
 go_simp
 go_at_call 55
 refine (samePage_eq _ _ _ _ _ 256 57 _ _ _ _ (List.replicate 256 255) (List.replicate 57 255) (own_repl (HR5.out.below HBEd1.out) (by decide)) (own_repl (HR6.out.below HBEd1.out) (by decide)) (own_repl HO1d1.out (by decide)) (own_repl HO2d1.out (by decide))).mono ?_
 rintro e vs ⟨rfl, bs⟩
 have H5s := J (H5d1.out.below bs)
 have hZ := H5s.out.sx
 clear bs
 go_wp2_with fail
 clear O
 refine N.out _ _ hZ fun O => ?_
 clear N K hZ
 try simp only [zz]
 refine tk 8 ?_
 refine tk 9 ?_
 refine tk 10 ?_
 refine rd 11 fun K N => ?_
 go_simp
 go_at_call 18
 refine (Count_any _ p _ hc10 H5s.out.ch).mono ?_
 rintro e vt ⟨rfl, hvt⟩
 subst hvt
 rw [hn10.1]
 have hZ := H5s.out.sx
 go_wp2_with fail
 clear O
 refine N.out _ _ hZ fun O => ?_
 clear N K hZ
 try simp only [zz]
 refine tk 12 ?_
 refine tk 13 ?_
 refine tk 14 ?_
 refine tk 15 ?_
 refine rd 16 fun K N => ?_
 go_simp
 go_at_call 19
 refine (Trace_any _ p _ hc10 H5s.out.ch (by have := hn10.2; omega)).mono ?_
 rintro e vt ⟨vv, rfl, hov, bt⟩
 rw [hn10.2] at hov
 obtain ⟨gt, ct, hvv, _⟩ := hov.form (by omega)
 subst hvv
 have H5t := J (H5s.out.below bt)
 have hZ := H5t.out.sx
 clear hov bt
 go_wp2_with fail
 clear O
 refine N.out _ _ hZ fun O => ?_
 clear N K hZ
 try simp only [zz]
 refine tk 17 ?_
 refine tk 18 ?_
 refine tk 19 ?_
 refine tk 20 ?_
 refine td ?_
 clear O
 go_wp2
 go_ret
 exact ⟨rfl, H5t.out.bel⟩
theorem img_range {p : Nat} {F : Nat → Prop} (h : ChipAt w p F C) : ∀ z ∈ imgL C, 0 ≤ z ∧ z ≤ 255 := by
 obtain ⟨x, bs, fe, hc⟩ := h
 intro z hz
 unfold imgL imgB at hz
 obtain ⟨i, _, hz⟩ := List.mem_flatMap.1 hz
 obtain ⟨k, _, hz⟩ := List.mem_flatMap.1 hz
 unfold readL at hz
 rw [← hc.bl, List.getElem?_map] at hz
 cases hb : bs[i]? with
 | none => rw [hb] at hz; cases hz
 | some b =>
  rw [hb] at hz
  simp only [Option.map_some, Bc.v, List.getElem?_map] at hz
  cases hq : b.ps[k]? with
  | none => rw [hq] at hz; cases hz
  | some q =>
   rw [hq] at hz
   exact flipsL_range _ _ ((hc.bok b (List.mem_of_getElem? hb)).pg q (List.mem_of_getElem? hq)).byt z hz
theorem marks_own {B g n : Nat} (h : w.heap[g]? = some (.cells (C.bl.map (fun b => Value.bool b.m)).toArray 4 (0, 0))) (hl : C.bl.length = n) (hn : n ≤ 4096) (hB : B ≤ g) : w.ownsRow B 4 1 (.slice (some ⟨g, 0, none⟩) n n) n ((C.bl.map Bl.m).map Value.bool) := by
 refine ⟨by simp [hl], Or.inr ⟨g, n, _, rfl, hB, h, Nat.le_refl _, by simp [maxLen]; omega, by simp [hl], ?_⟩⟩
 rw [List.map_map]
 exact List.take_of_length_le (by simp [hl])
theorem plays9_any (w0 w : World) (b : Nat) (F : Nat → Prop) (C : Ch) (fs : List Fc) (h : BothAt w0 w b F C fs) (hok : C.Ok) (B k : Nat) (G : Nat → Prop) (P M T : List Rw) (hbk : BookAt w B k G P M T) (hl : P.length ≤ 1000000000000) (hlm : M.length ≤ 1000000000000) (hB : w0.heap.size ≤ B) (hFG : ∀ j, F j → ¬ G j) (ob op bit : Int) (fit : Bool) (da : Option Addr) (dn dc : Nat) (za : Option Addr) (zn zc : Nat) :
  Calls Try.prog 34 #[.pointer (some ⟨b, 0, none⟩), .agg #[.int .i64 9, .int .i64 ob, .int .i64 op, .int .i64 bit, .bool fit, .slice da dn dc, .slice za zn zc], .pointer (some ⟨k, 0, none⟩)] w fun e w' => e = .returned (.bool true) ∧ BothAt w0 w' b F C fs ∧ Only G w w' ∧ ∃ r1 r2 G', BookAt w' B k G' (P ++ [r1]) (M ++ [r2]) T ∧ r1.n = C.B * C.P * pgB C.S ∧ r2.n = C.B ∧ (∀ j, G' j → G j ∨ w.heap.size ≤ j) := by
 have HBO := J h
 obtain ⟨p, d, Fp, Fd, hbx, hch, hrf, hp1, hd1, hbF, hFf⟩ := h
 have HTw : Hid (TwoAt w0 w b p d F Fp Fd C fs) := ⟨hbx, hch, hrf, hp1, hd1, hbF, hFf⟩
 have HBK := J hbk
 have HFG := J hFG
 have HBW := J (below_alloc w (.cells #[.int .i64 9, .int .i64 ob, .int .i64 op, .int .i64 bit, .bool fit, .slice da dn dc, .slice za zn zc] 56))
 have HT1 := J (HTw.out.below HBW.out)
 obtain ⟨x0, x1⟩ := cells2 HT1.out.box
 clear hbx hch hrf hp1 hd1 hbF hFf hbk hFG
 go_enter Try.func34, Try.ntmps34
 go_upto_region 31 with (go_at_call 15; refine (ImageB_any _ p Fp C HT1.out.ch hok).mono ?_; rintro e u3 hiv; obtain ⟨⟨gc, cc, gm, rfl, o1, o2, hgm⟩, hb3⟩ := hiv; have HO1 := J o1; have HO2 := J o2; have HGM := J hgm; have HB3 := J hb3; clear o1 o2 hgm hb3 x0 x1)
 have HB3w := J (below_trans HBW.out HB3.out)
 have HBA := J (below_alloc u3 (.cells #[.int .i64 (C.B : Int), .int .i64 (C.P : Int), .int .i64 (C.S : Int), .slice (some ⟨gc, 0, none⟩) (C.B * C.P * pgB C.S) cc, .slice (some ⟨gm, 0, none⟩) C.B C.B] 27))
 have HBA3 := J (below_trans HB3w.out HBA.out)
 have HNQ := J (alloc_new u3 (.cells #[.int .i64 (C.B : Int), .int .i64 (C.P : Int), .int .i64 (C.S : Int), .slice (some ⟨gc, 0, none⟩) (C.B * C.P * pgB C.S) cc, .slice (some ⟨gm, 0, none⟩) C.B C.B] 27))
 have HGl : Hid (∀ j, G j → B ≤ j ∧ j < w.heap.size) := HBK.out.lim
 have HBw : Hid (B ≤ w.heap.size) := by have := HBK.out.lim k HBK.out.gk; unfold Hid; omega
 have HSW : Hid (w.heap.size ≤ (w.alloc (.cells #[.int .i64 9, .int .i64 ob, .int .i64 op, .int .i64 bit, .bool fit, .slice da dn dc, .slice za zn zc] 56)).heap.size) := HBW.out.size
 have HGC : Hid (w.heap.size ≤ gc ∧ gc < u3.heap.size) := ⟨by have h1 := HO1.out.lt.1; have h2 := HSW.out; omega, HO1.out.lt.2⟩
 have HGm : Hid (w.heap.size ≤ gm ∧ gm < u3.heap.size) := ⟨by have h1 := HGM.out; have h2 := HSW.out; omega, lt_of_block HO2.out⟩
 obtain ⟨n1, hn1⟩ : ∃ n, n = C.B * C.P * pgB C.S := ⟨_, rfl⟩
 obtain ⟨nB, hnB⟩ : ∃ n, n = C.B := ⟨_, rfl⟩
 have HN1 := J hn1
 have HN2 := J hnB
 have hbb := hok.b
 have HNB : Hid (nB ≤ 9223372036854775806) := by unfold Hid; omega
 have HW1 : Hid ((u3.alloc (.cells #[.int .i64 (C.B : Int), .int .i64 (C.P : Int), .int .i64 (C.S : Int), .slice (some ⟨gc, 0, none⟩) (C.B * C.P * pgB C.S) cc, .slice (some ⟨gm, 0, none⟩) C.B C.B] 27)).ownsRow B 5 1 (.slice (some ⟨gc, 0, none⟩) n1 cc) n1 ((imgL C).map (Value.int .u8))) := by
  have h1 : u3.ownsRow ((w.alloc (.cells #[.int .i64 9, .int .i64 ob, .int .i64 op, .int .i64 bit, .bool fit, .slice da dn dc, .slice za zn zc] 56)).heap.size + 1) 5 1 (.slice (some ⟨gc, 0, none⟩) (C.B * C.P * pgB C.S) cc) (C.B * C.P * pgB C.S) ((imgL C).map (Value.int .u8)) := HO1.out
  rw [← HN1.out] at h1
  exact owns_dn (owns_bel h1 HBA.out) (by have h2 := HBw.out; have h3 := HSW.out; omega)
 have HW2 : Hid ((u3.alloc (.cells #[.int .i64 (C.B : Int), .int .i64 (C.P : Int), .int .i64 (C.S : Int), .slice (some ⟨gc, 0, none⟩) (C.B * C.P * pgB C.S) cc, .slice (some ⟨gm, 0, none⟩) C.B C.B] 27)).ownsRow B 4 1 (.slice (some ⟨gm, 0, none⟩) nB nB) nB ((C.bl.map Bl.m).map Value.bool)) := by
  have h1 := marks_own (B := B) HO2.out (hok.bl.trans HN2.out.symm) (by omega) (by have h2 := HBw.out; have h3 := HGm.out.1; omega)
  exact owns_bel h1 HBA.out
 have HG1 : Hid (∀ j, (Value.slice (some ⟨gc, 0, none⟩) n1 cc).ownBlock = some j → ¬ G j) := fun j hj hg => by cases hj; have h1 := HGC.out.1; have h2 := (HGl.out gc hg).2; omega
 have HG2 : Hid (∀ j, (Value.slice (some ⟨gm, 0, none⟩) nB nB).ownBlock = some j → ¬ G j) := fun j hj hg => by cases hj; have h1 := HGm.out.1; have h2 := (HGl.out gm hg).2; omega
 have HBKA := J (HBK.out.below HBA3.out)
 have HQ0 : Hid ((u3.alloc (.cells #[.int .i64 (C.B : Int), .int .i64 (C.P : Int), .int .i64 (C.S : Int), .slice (some ⟨gc, 0, none⟩) (C.B * C.P * pgB C.S) cc, .slice (some ⟨gm, 0, none⟩) C.B C.B] 27)).heap[u3.heap.size]? = some (.cells #[.int .i64 (C.B : Int), .int .i64 (C.P : Int), .int .i64 (C.S : Int), .slice (some ⟨gc, 0, none⟩) n1 cc, .slice (some ⟨gm, 0, none⟩) nB nB] 27 (0, 0))) := by rw [hn1, hnB]; exact HNQ.out
 obtain ⟨y0, y1, y2, y3, y4⟩ := cells5 HQ0.out
 obtain ⟨UA, hUA⟩ : ∃ x, u3.alloc (.cells #[.int .i64 (C.B : Int), .int .i64 (C.P : Int), .int .i64 (C.S : Int), .slice (some ⟨gc, 0, none⟩) (C.B * C.P * pgB C.S) cc, .slice (some ⟨gm, 0, none⟩) C.B C.B] 27) = x := ⟨_, rfl⟩
 rw [hUA] at HBA HBA3 HNQ HW1 HW2 HBKA HQ0 y0 y1 y2 y3 y4 ⊢
 obtain ⟨q, hq⟩ : ∃ x, u3.heap.size = x := ⟨_, rfl⟩
 rw [hq] at HQ0 y0 y1 y2 y3 y4 HGC HGm ⊢
 have HQg : Hid (w.heap.size ≤ q) := by rw [← hq]; exact HB3w.out.size
 clear hn1 hnB hUA HNQ HO1 HO2 HBA HB3 hq HB3w
 go_upto_region 32 with (go_at_call 73; refine (image73_any UA B k G P M T HBKA.out hl hlm (C.B : Int) (C.P : Int) (C.S : Int) (some ⟨gc, 0, none⟩) n1 cc _ (some ⟨gm, 0, none⟩) nB nB _ HW1.out HW2.out HG1.out HG2.out).mono ?_; rintro e u6 ⟨rfl, G9, hbk6, hG9, ho6⟩; have HBK6 := J hbk6; have HG9 := J hG9; have HO6 := J ho6; clear hbk6 hG9 ho6 y0 y1 y2 y3 y4)
 obtain ⟨W7, hW7⟩ : ∃ x, u6.drew = x := ⟨_, rfl⟩
 have HW7 := J (show Below u6.heap.size u6 W7 by rw [← hW7]; exact drew_below u6)
 have HTA := J (HTw.out.below HBA3.out)
 have HNF : Hid (∀ j, F j → ¬ (G j ∨ (Value.slice (some ⟨gc, 0, none⟩) n1 cc).ownBlock = some j)) := fun j hj e => by
  rcases e with e | e
  ·exact HFG.out j hj e
  ·have e9 : gc = j := Option.some.inj e
   have h1 := HGC.out.1
   have h2 := (HTw.out.lim j hj).2
   omega
 have HLo : Hid (∀ j, (G j ∨ (Value.slice (some ⟨gc, 0, none⟩) n1 cc).ownBlock = some j) → w0.heap.size ≤ j) := fun j e => by
  rcases e with e | e
  ·exact Nat.le_trans hB (HGl.out j e).1
  ·have e9 : gc = j := Option.some.inj e
   have h1 := HGC.out.1
   have h2 := HBw.out
   omega
 have HRF7 := J ((HTA.out.rf.only HO6.out (fun j hj => HNF.out j (HTw.out.fd j hj).1) HLo.out).below HW7.out)
 have HQ7 := J ((HW7.out.block _ (by have h1 := lt_of_block HQ0.out; have h2 := HO6.out.size; omega)).trans ((HO6.out.block _ (lt_of_block HQ0.out) (fun e => by
  rcases e with e | e
  ·have h1 := (HGl.out q e).2; have h2 := HQg.out; omega
  ·have e9 : gc = q := Option.some.inj e
   have h1 := HGC.out.2
   omega)).trans HQ0.out))
 have HX7 := J ((HW7.out.block _ (by have h1 := lt_of_block HTA.out.box; have h2 := HO6.out.size; omega)).trans ((HO6.out.block _ (lt_of_block HTA.out.box) (HNF.out _ HTw.out.fb)).trans HTA.out.box))
 have HRO : Hid (RowsAt u6 B G9 24 5 1 _ (P ++ [⟨some ⟨gc, 0, none⟩, n1, cc, (imgL C).map (Value.int .u8)⟩]) ∧ RowsAt u6 B G9 25 4 1 _ (M ++ [⟨some ⟨gm, 0, none⟩, nB, nB, (C.bl.map Bl.m).map Value.bool⟩])) := ⟨HBK6.out.ex.choose_spec.choose_spec.choose_spec.2.1, HBK6.out.ex.choose_spec.choose_spec.choose_spec.2.2.1⟩
 have HP1 : Hid (Reads W7 (some ⟨gc, 0, none⟩) n1 (imgL C)) := by
  have h1 := HRO.out.1.own ⟨some ⟨gc, 0, none⟩, n1, cc, (imgL C).map (Value.int .u8)⟩ (by simp)
  exact (owns_reads (show u6.ownsRow B 5 1 (.slice (some ⟨gc, 0, none⟩) n1 cc) n1 ((imgL C).map (Value.int .u8)) from h1) (img_range HTw.out.ch)).below HW7.out
 have HP2 : Hid (ReadsB W7 (some ⟨gm, 0, none⟩) nB (C.bl.map Bl.m)) := by
  have h1 := HRO.out.2.own ⟨some ⟨gm, 0, none⟩, nB, nB, (C.bl.map Bl.m).map Value.bool⟩ (by simp)
  exact (readsB_own (show u6.ownsRow B 4 1 (.slice (some ⟨gm, 0, none⟩) nB nB) nB ((C.bl.map Bl.m).map Value.bool) from h1)).below HW7.out
 have HLN : Hid ((imgL C).length = n1 ∧ (C.bl.map Bl.m).length = nB) := ⟨HP1.out.1, HP2.out.1⟩
 have HS : Hid (∀ u, Below W7.heap.size W7 u → u.cell? ⟨b, 1, none⟩ = some (.pointer (some ⟨d, 0, none⟩)) ∧ u.cell? ⟨q, 0, none⟩ = some (.int .i64 (C.B : Int)) ∧ u.cell? ⟨q, 1, none⟩ = some (.int .i64 (C.P : Int)) ∧ u.cell? ⟨q, 2, none⟩ = some (.int .i64 (C.S : Int)) ∧ u.cell? ⟨q, 3, none⟩ = some (.slice (some ⟨gc, 0, none⟩) n1 cc) ∧ u.cell? ⟨q, 4, none⟩ = some (.slice (some ⟨gm, 0, none⟩) nB nB)) := fun u hu => by
  have h1 := (hu.block _ (lt_of_block HQ7.out)).trans HQ7.out
  exact ⟨(cells2 ((hu.block _ (lt_of_block HX7.out)).trans HX7.out)).2, cells5 h1⟩
 have HSd : Hid ((fun u => u.cell? ⟨b, 1, none⟩ = some (.pointer (some ⟨d, 0, none⟩)) ∧ u.cell? ⟨q, 0, none⟩ = some (.int .i64 (C.B : Int)) ∧ u.cell? ⟨q, 1, none⟩ = some (.int .i64 (C.P : Int)) ∧ u.cell? ⟨q, 2, none⟩ = some (.int .i64 (C.S : Int)) ∧ u.cell? ⟨q, 3, none⟩ = some (.slice (some ⟨gc, 0, none⟩) n1 cc) ∧ u.cell? ⟨q, 4, none⟩ = some (.slice (some ⟨gm, 0, none⟩) nB nB)) u6.drew) := by rw [hW7]; exact HS.out W7 (Below.refl _ _)
 clear hbb
 refine wp_region_held_drew (S := (fun u => u.cell? ⟨b, 1, none⟩ = some (.pointer (some ⟨d, 0, none⟩)) ∧ u.cell? ⟨q, 0, none⟩ = some (.int .i64 (C.B : Int)) ∧ u.cell? ⟨q, 1, none⟩ = some (.int .i64 (C.P : Int)) ∧ u.cell? ⟨q, 2, none⟩ = some (.int .i64 (C.S : Int)) ∧ u.cell? ⟨q, 3, none⟩ = some (.slice (some ⟨gc, 0, none⟩) n1 cc) ∧ u.cell? ⟨q, 4, none⟩ = some (.slice (some ⟨gm, 0, none⟩) nB nB))) (by kernel_rfl) (HSd.out) fun O => ?_
 rw [hW7] at O ⊢
 refine tk 0 ?_
 refine tk 1 ?_
 refine tk 2 ?_
 refine tk 3 ?_
 refine tk 4 ?_
 refine rd 5 fun K N => ?_
 go_simp
 go_at_call 74
 refine (rImage_any w0 W7 d Fd C fs HRF7.out hok).mono ?_
 rintro e u8 him
 obtain ⟨⟨ca2, cn2, cd2, ma2, mn2, md2, rfl, r1, r2⟩, hb8⟩ := him
 have HB8 := J hb8
 obtain rfl : n1 = cn2 := HLN.out.1.symm.trans r1.1
 obtain rfl : nB = mn2 := HLN.out.2.symm.trans r2.1
 have HR1 := J r1
 have HR2 := J r2
 have hZ := HS.out u8 HB8.out
 clear hb8 r1 r2
 go_wp2_with fail
 clear O
 refine N.out _ _ hZ fun O => ?_
 clear N K hZ
 try simp only [zz]
 refine rd 6 fun K N => ?_
 go_simp
 go_at_call 16
 refine (sameImage_eq u8 (C.B : Int) (C.P : Int) (C.S : Int) (some ⟨gc, 0, none⟩) ca2 (some ⟨gm, 0, none⟩) ma2 n1 cc cd2 nB nB md2 (imgL C) (C.bl.map Bl.m) (HP1.out.below HB8.out) HR1.out (HP2.out.below HB8.out) HR2.out HNB.out).mono ?_
 rintro e u9 ⟨rfl, hb9⟩
 have HB9 := J hb9
 have hZ := HS.out u9 (below_trans HB8.out HB9.out)
 clear hb9
 go_wp2_with fail
 clear O
 refine N.out _ _ hZ fun O => ?_
 clear N K hZ
 try simp only [zz]
 refine tk 7 ?_
 refine td ?_
 clear O
 go_wp2
 go_ret
 have HBN := J (below_trans HW7.out (below_trans HB8.out HB9.out))
 have hO : Only (fun j => G j ∨ (Value.slice (some ⟨gc, 0, none⟩) n1 cc).ownBlock = some j) w u9 := ((Only.ofB HBA3.out).trans' HO6.out).trans' (Only.ofB HBN.out)
 refine ⟨rfl, HBO.out.only hO HNF.out HLo.out, hO.mono (fun j hj e => e.elim id (fun e => by have e9 : gc = j := Option.some.inj e; have h1 := HGC.out.1; omega)), _, _, _, HBK6.out.below HBN.out, HN1.out, HN2.out, fun j hj => ?_⟩
 rcases HG9.out j hj with e | e | e | e
 ·exact Or.inl e
 ·have e9 : gc = j := Option.some.inj e
  exact Or.inr (by have h1 := HGC.out.1; omega)
 ·have e9 : gm = j := Option.some.inj e
  exact Or.inr (by have h1 := HGm.out.1; omega)
 ·exact Or.inr (by have h1 := e.1; have h2 := HBA3.out.size; omega)
end Go.Proofs.Ytadlkikjfonkgaa
