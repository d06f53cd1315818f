/-
  SEAT Ytnopljjngbgpdaa: Page.
-/
import Derived.Test.YtnopljjngbgpdaaH
import Derived.Test.YtnopljjngbgpdaaW
namespace Go.Proofs.Ytnopljjngbgpdaa
open Go.RowKit
set_option linter.unusedVariables false

theorem below_cell {x y : World} (h : Below x.heap.size x y) : ∀ (z : Nat) (v : Value), x.cell? ⟨z, 0, none⟩ = some v → y.cell? ⟨z, 0, none⟩ = some v := fun z v hz => by
  rw [h.cell (block_lt_of_cell hz)]; exact hz

set_option maxHeartbeats 2000000 in
set_option maxRecDepth 100000 in
theorem pPage_ok (b q s : Int) (bk off : Nat) (a' : Option Addr) (n c m c' : Nat) (x y : Int) (zs : List Int) (w : World) (k Ln K0 K1 C : Nat) (X : Int) (hnc : n ≤ c) (hc : c ≤ 9223372036854775807) (hn : n ≤ 140737488355000) (hm : m ≤ 140737488355000) (hE : chkE b q s n m = 0) (hf : Fits b q s = true) (hr : Reads w (some ⟨bk, off, none⟩) n zs)
    (hLn : (Ln : Int) = 256 * s + (54 + 3 * s)) (hC : 256 * s = (C : Int)) (hK0 : k * Ln = K0) (hK1' : (k + 1) * Ln = K1) (hK1 : K1 ≤ n) (hk : k ≤ 65536) (hX : x * q = X) (hXk : X + y = (k : Int)) (hx0 : 0 ≤ x) (hx1 : x < b) (hy0 : 0 ≤ y) (hy1 : y < q) :
    Calls Try.prog 13 #[.agg #[.int .i64 b, .int .i64 q, .int .i64 s, .slice (some ⟨bk, off, none⟩) n c, .slice a' m c'], .agg #[.int .i64 x, .int .i64 y]] w fun e w' => ∃ g1 k1 g2 k2, e = .returned (.tuple #[.agg #[.slice (some ⟨g1, 0, none⟩) C k1, .slice (some ⟨g2, 0, none⟩) (Ln - C) k2], .int .i64 0]) ∧ Reads w' (some ⟨g1, 0, none⟩) C (((zs.drop K0).take Ln).take C) ∧ Reads w' (some ⟨g2, 0, none⟩) (Ln - C) (((zs.drop K0).take Ln).drop C) ∧ Below w.heap.size w w' := by
  have hKL : K0 + Ln = K1 := by rw [← hK0, ← hK1', Nat.add_mul]; omega
  obtain ⟨D, hD⟩ : ∃ D, c - K0 = D := ⟨_, rfl⟩
  have hD1 : Ln ≤ D := by omega
  have hD2 : D ≤ 9223372036854775807 := by omega
  obtain ⟨a, ha⟩ : ∃ a : Option Addr, a = some ⟨bk, off, none⟩ := ⟨_, rfl⟩
  have HE : Hid (chkE b q s n m = 0) := hE
  obtain ⟨q1, q2, q3, q4, q5, q6, q7, q8⟩ := fits_all hf
  have hX0 : 0 ≤ X := by rw [← hX]; exact Int.mul_nonneg hx0 (by omega)
  have hX1 : X ≤ 65536 := by omega
  have HLn : Hid ((Ln : Int) = 256 * s + (54 + 3 * s)) := hLn
  have HK0 : Hid (k * Ln = K0) := hK0
  have HK1 : Hid ((k + 1) * Ln = K1) := hK1'
  have hCL : C < Ln := by omega
  have hCp : 0 < C := by omega
  have hLn2 : Ln ≤ 2200 := by omega
  have hrp : ∀ z ∈ (zs.drop K0).take Ln, 0 ≤ z ∧ z ≤ 255 := fun z hz => hr.2.1 z (List.mem_of_mem_drop (List.mem_of_mem_take hz))
  have hpl : ((zs.drop K0).take Ln).length = Ln := by
    have h1 : K0 + Ln = K1 := by rw [← hK0, ← hK1', Nat.add_mul]; omega
    have h2 := hr.1
    simp; omega
  have HRP : Hid _ := hrp
  have HPL : Hid _ := hpl
  have HA : Hid (a = some ⟨bk, off, none⟩) := ha
  have HB : Hid (n ≤ 140737488355000 ∧ m ≤ 140737488355000 ∧ C < Ln ∧ 0 < C ∧ Ln ≤ 2200 ∧ K1 ≤ n ∧ C ≤ Ln ∧ 0 < Ln - C ∧ 0 < Ln ∧ Ln ≤ 140737488355000 ∧ C ≤ Ln ∧ n ≤ c ∧ c ≤ 9223372036854775807) := ⟨hn, hm, hCL, hCp, hLn2, hK1, by omega, by omega, by omega, by omega, by omega, hnc, hc⟩
  have HF : Hid (Fits b q s = true) := hf
  clear hE hLn hK0 hK1' hrp hpl hCL hCp hLn2 hK1 q1 q2 q3 q4 q7 q8 hf hn hm
  have d1 : C ≤ D := by have := HB.out; omega
  have d2 : C < D := by have := HB.out; omega
  have d3 : ¬ D ≤ C := by omega
  have d4 : ¬ D - C = 0 := by omega
  have d5 : ¬ D = C := by omega
  have d6 : C ≤ Ln := HB.out.2.2.2.2.2.2.1
  have HD : Hid (c - K0 = D) := hD
  have hrw : Reads w (some ⟨bk, off + K0, none⟩) Ln ((zs.drop K0).take Ln) := by
    obtain ⟨b1, o1, he, hh⟩ := hr.part K0 K1 (by omega) HB.out.2.2.2.2.2.1 (by have := HB.out; omega)
    cases he
    rwa [show K1 - K0 = Ln by omega] at hh
  have hr1 : Reads w (some ⟨bk, off + K0, none⟩) C (((zs.drop K0).take Ln).take C) := by
    obtain ⟨b1, o1, he, hh⟩ := hrw.part 0 C (by omega) d6 HB.out.2.2.2.1
    cases he
    simpa using hh
  have hr2 : Reads w (some ⟨bk, off + K0 + C, none⟩) (Ln - C) (((zs.drop K0).take Ln).drop C) := by
    obtain ⟨b1, o1, he, hh⟩ := hrw.part C Ln d6 (Nat.le_refl _) HB.out.2.2.1
    cases he
    rwa [List.take_of_length_le (by rw [List.length_drop, HPL.out]; exact Nat.le_refl _)] at hh
  have HR1 : Hid (Reads w (some ⟨bk, off + K0, none⟩) C (((zs.drop K0).take Ln).take C)) := hr1
  have HR2 : Hid (Reads w (some ⟨bk, off + K0 + C, none⟩) (Ln - C) (((zs.drop K0).take Ln).drop C)) := hr2
  clear hr ha hrw hr1 hr2 hKL hD hnc hc HA a
  go_enter Try.func13, Try.ntmps13
  go_upto_region 8 with (first
    | (go_at_call 7; refine (check_any b q s (some ⟨bk, off, none⟩) a' n c m c' _ HB.out.1 HB.out.2.1).mono ?_; rintro e u1 ⟨rfl, b1⟩; rw [HE.out]; have bw1 := below_trans (((below_alloc w (.cells #[.int .i64 b, .int .i64 q, .int .i64 s, .slice (some ⟨bk, off, none⟩) n c, .slice a' m c'] 27)).alloc (below_alloc w _).size _).alloc (((below_alloc w _).alloc (below_alloc w _).size _)).size _) b1; have g1 := grown_of b1 none; obtain ⟨⟨c0, c1, c2, c3, c4⟩, ⟨d0, d1'⟩, ⟨z0, z1⟩, f0⟩ := box572 g1)
    | (go_at_call 27; refine (window_any b q s bk off a' n c m c' _ k Ln K0 K1 HB.out.2.2.2.2.2.2.2.2.2.2.2.2 HB.out.2.2.2.2.2.2.2.2.2.2.2.1 HF.out HLn.out HK0.out HK1.out HB.out.2.2.2.2.2.1 HB.out.1 hk).mono ?_; rintro e u2 ⟨rfl, b2⟩; rw [HD.out]
       have bw2 := below_trans bw1 b2
       have g2 := grownBy_trans g1 (grown_of b2 none)
       clear c0 c1 c2 c3 c4 d0 d1' z0 z1 f0
       obtain ⟨⟨c0, c1, c2, c3, c4⟩, ⟨d0, d1'⟩, ⟨z0, z1⟩, f0⟩ := box572 g2)
    | (go_at_call 28; refine (dataBytes_any b q s _ q5 q6).mono ?_; rintro e u3 ⟨rfl, b3⟩; rw [hC]
       have bw3 := below_trans bw2 b3
       have g3 := grownBy_trans g2 (grown_of b3 none)
       clear c0 c1 c2 c3 c4 d0 d1' z0 z1 f0
       obtain ⟨⟨c0, c1, c2, c3, c4⟩, ⟨d0, d1'⟩, ⟨z0, z1⟩, f0⟩ := box572 g3))
  clear c0 c1 c2 c3 c4 d0 d1' b1 b2 b3 bw1 bw2 g1 g2
  have HJ1 : Hid (∀ (W : World) (q0 : Nat), Below u3.heap.size u3 W → W.cell? ⟨q0, 0, none⟩ = some (.slice (some ⟨bk, off + K0, none⟩) C D) → Calls Try.prog 29 #[.slice (some ⟨q0, 0, none⟩) 1 1] W fun e w' => ∃ g cc, e = .returned (.slice (some ⟨g, 0, none⟩) C cc) ∧ Own w' W.heap.size g C cc (((zs.drop K0).take Ln).take C) ∧ Below W.heap.size W w') :=
    fun W q0 hb hq => join_one q0 _ C D _ W (by have := HB.out; omega) HB.out.2.2.2.1 (HR1.out.below (below_trans bw3 hb)) hq
  have HJ2 : Hid (∀ (W : World) (q0 : Nat), Below u3.heap.size u3 W → W.cell? ⟨q0, 0, none⟩ = some (.slice (some ⟨bk, off + K0 + C, none⟩) (Ln - C) (D - C)) → Calls Try.prog 29 #[.slice (some ⟨q0, 0, none⟩) 1 1] W fun e w' => ∃ g cc, e = .returned (.slice (some ⟨g, 0, none⟩) (Ln - C) cc) ∧ Own w' W.heap.size g (Ln - C) cc (((zs.drop K0).take Ln).drop C) ∧ Below W.heap.size W w') :=
    fun W q0 hb hq => join_one q0 _ (Ln - C) (D - C) _ W (by have := HB.out; omega) HB.out.2.2.2.2.2.2.2.1 (HR2.out.below (below_trans bw3 hb)) hq
  go_region_with (first
    | (go_at_call 29; have bwx := bw4; refine (HJ2.out _ _ (by go_grown; all_goals (first | omega | (simp; omega))) (by first | (simp; done) | exact HC4.out _ _ (by simp))).mono ?_; rintro e u5 ⟨g2, k2, rfl, own2, b5⟩; have HO2 : Hid (Own u5 u3.heap.size g2 (Ln - C) k2 (((zs.drop K0).take Ln).drop C)) := Own.base own2 (by have := bw4.size; simp; omega); clear own2; have bw45 := below_via (u := u4) b5 (by go_grown; all_goals (first | omega | (simp; omega))); have bw5 := below_trans bw4 bw45; clear b5; have g5 := grownBy_trans g3 (grown_of bw5 none); obtain ⟨_, _, ⟨y0, y1⟩, fy⟩ := box572 g5)
    | (go_at_call 29; refine (HJ1.out _ _ (by go_grown; all_goals (first | omega | (simp; omega))) (by simp)).mono ?_; rintro e u4 ⟨g1, k1, rfl, own1, b4⟩; have HO1 : Hid (Own u4 u3.heap.size g1 C k1 (((zs.drop K0).take Ln).take C)) := Own.base own1 (by simp <;> omega); clear own1; have bw4 := below_via (u := u3) b4 (by go_grown; all_goals (first | omega | (simp; omega))); have HC4 : Hid _ := below_cell b4; clear b4; have s4 := bw4.size))
  all_goals
    go_wp2
    refine bodyPost_ret (v := .tuple #[.agg #[.slice (some ⟨g1, 0, none⟩) C k1, .slice (some ⟨g2, 0, none⟩) (Ln - C) k2], .int .i64 0]) (by simp [results, Try.results13, go_sem, y0, y1]) rfl ?_
    have gs : ∀ (v1 v2 : Value), u5.grownBy ((u5.setCell ⟨w.heap.size + 1 + 1, 0, none⟩ v1).setCell ⟨w.heap.size + 1 + 1, 1, none⟩ v2) (some (w.heap.size + 1 + 1)) := fun v1 v2 => grownBy_trans (set_grown u5 _ 0 v1) (set_grown _ _ 1 v2)
    have s1 : w.heap.size + 3 ≤ u3.heap.size := by have := g3.size; simp at this; omega
    have p3 := (Own.below HO1.out bw45).apart (gs (.slice (some ⟨g1, 0, none⟩) C k1) (.slice (some ⟨g2, 0, none⟩) (Ln - C) k2)) (by have := Own.lt HO1.out; omega)
    have p4 := Own.apart HO2.out (gs (.slice (some ⟨g1, 0, none⟩) C k1) (.slice (some ⟨g2, 0, none⟩) (Ln - C) k2)) (by have := Own.lt HO2.out; omega)
    have bw6 := below_trans bw3 bw5
    refine ⟨g1, k1, g2, k2, rfl, ?_, ?_, ?_⟩
    · exact p3.all (fun z hz => HRP.out z (List.mem_of_mem_take hz))
    · exact p4.all (fun z hz => HRP.out z (List.mem_of_mem_drop hz))
    · exact bw6.grown (gs _ _) bw6.size (fun k hk => by simp at hk; omega)

end Go.Proofs.Ytnopljjngbgpdaa
