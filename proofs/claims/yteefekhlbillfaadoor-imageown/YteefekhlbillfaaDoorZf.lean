/-
  SEAT YteefekhlbillfaaDoor: Zf, of several texts.
-/
import Derived.Test.YteefekhlbillfaaDoorZa
import Derived.Test.YteefekhlbillfaaDoorGb
import Derived.Test.YteefekhlbillfaaDoorE
import Derived.Test.YteefekhlbillfaaDoorZe
namespace Go.Proofs.YteefekhlbillfaaDoor
open Go.RowKit
set_option linter.unusedVariables false

theorem box572 {w u : World} {b q s x y : Int} {vc vm : Value} (h : (((w.alloc (.cells #[.int .i64 b, .int .i64 q, .int .i64 s, vc, vm] 30)).alloc (.cells #[.int .i64 x, .int .i64 y] 40)).alloc (.cells #[.slice none 0 0, .slice none 0 0] 47)).grownBy u none) :
    (u.cell? ⟨w.heap.size, 0, none⟩ = some (.int .i64 b) ∧ u.cell? ⟨w.heap.size, 1, none⟩ = some (.int .i64 q) ∧ u.cell? ⟨w.heap.size, 2, none⟩ = some (.int .i64 s) ∧ u.cell? ⟨w.heap.size, 3, none⟩ = some vc ∧ u.cell? ⟨w.heap.size, 4, none⟩ = some vm) ∧
    (u.cell? ⟨w.heap.size + 1, 0, none⟩ = some (.int .i64 x) ∧ u.cell? ⟨w.heap.size + 1, 1, none⟩ = some (.int .i64 y)) ∧
    (u.cell? ⟨w.heap.size + 2, 0, none⟩ = some (.slice none 0 0) ∧ u.cell? ⟨w.heap.size + 2, 1, none⟩ = some (.slice none 0 0)) ∧ ∀ j, u.frozen? ⟨w.heap.size + 2, j, none⟩ = false := by
  have e1 : (w.alloc (.cells #[.int .i64 b, .int .i64 q, .int .i64 s, vc, vm] 30)).heap.size = w.heap.size + 1 := by simp
  have e2 : ((w.alloc (.cells #[.int .i64 b, .int .i64 q, .int .i64 s, vc, vm] 30)).alloc (.cells #[.int .i64 x, .int .i64 y] 40)).heap.size = w.heap.size + 2 := by simp
  have a0 : (((w.alloc (.cells #[.int .i64 b, .int .i64 q, .int .i64 s, vc, vm] 30)).alloc (.cells #[.int .i64 x, .int .i64 y] 40)).alloc (.cells #[.slice none 0 0, .slice none 0 0] 47)).heap[w.heap.size]? = some (.cells #[.int .i64 b, .int .i64 q, .int .i64 s, vc, vm] 30) := by
    rw [Below.heap_alloc _ _ _ (by simp; omega), Below.heap_alloc _ _ _ (by simp)]; exact heap_alloc_new _ _
  have a1 : (((w.alloc (.cells #[.int .i64 b, .int .i64 q, .int .i64 s, vc, vm] 30)).alloc (.cells #[.int .i64 x, .int .i64 y] 40)).alloc (.cells #[.slice none 0 0, .slice none 0 0] 47)).heap[w.heap.size + 1]? = some (.cells #[.int .i64 x, .int .i64 y] 40) := by
    rw [Below.heap_alloc _ _ _ (by simp), ← e1]; exact heap_alloc_new _ _
  have a2 : (((w.alloc (.cells #[.int .i64 b, .int .i64 q, .int .i64 s, vc, vm] 30)).alloc (.cells #[.int .i64 x, .int .i64 y] 40)).alloc (.cells #[.slice none 0 0, .slice none 0 0] 47)).heap[w.heap.size + 2]? = some (.cells #[.slice none 0 0, .slice none 0 0] 47) := by
    rw [← e2]; exact heap_alloc_new _ _
  have c0 := (h.block w.heap.size (by simp; omega) (by simp)).trans a0
  have c1 := (h.block (w.heap.size + 1) (by simp) (by simp)).trans a1
  have c2 := (h.block (w.heap.size + 2) (by simp) (by simp)).trans a2
  clear h a0 a1 a2 e1 e2
  refine ⟨⟨?_, ?_, ?_, ?_, ?_⟩, ⟨?_, ?_⟩, ⟨?_, ?_⟩, fun j => ?_⟩
  all_goals first | (simp [World.cell?, c0]; done) | (simp [World.cell?, c1]; done) | (simp [World.cell?, c2]; done) | (simp [World.frozen?, c2]; done)

theorem bad_ways {x y b q : Int} (h : ¬ (0 ≤ x ∧ x < b ∧ 0 ≤ y ∧ y < q)) : x < 0 ∨ (0 ≤ x ∧ b ≤ x) ∨ (0 ≤ x ∧ x < b ∧ y < 0) ∨ (0 ≤ x ∧ x < b ∧ 0 ≤ y ∧ q ≤ y) := by omega
set_option maxHeartbeats 1000000 in
set_option maxRecDepth 100000 in
theorem pPage_err (b q s : Int) (a a' : Option Addr) (n c m c' : Nat) (x y : Int) (w : World) (hn : n ≤ 140737488355000) (hm : m ≤ 140737488355000) (E : Int) (hE : chkE b q s n m = E) (hE0 : E ≠ 0) :
    Calls Tryd.prog 18 #[.agg #[.int .i64 b, .int .i64 q, .int .i64 s, .slice a n c, .slice a' m c'], .agg #[.int .i64 x, .int .i64 y]] w fun e w' => e = .returned (.tuple #[.agg #[.slice none 0 0, .slice none 0 0], .int .i64 E]) ∧ Below w.heap.size w w' := by
  have HE : Hid (chkE b q s n m = E) := hE
  have k1 : (E != 0) = true := by simpa using hE0
  clear hE
  go_enter Tryd.func18, Tryd.ntmps18
  go_wp2_with (go_at_call 14; refine (check_any b q s a a' n c m c' _ hn hm).mono ?_; rintro e u1 ⟨rfl, b1⟩; rw [HE.out]; have bw1 := below_trans (((below_alloc w (.cells #[.int .i64 b, .int .i64 q, .int .i64 s, .slice a n c, .slice a' m c'] 30)).alloc (below_alloc w _).size _).alloc (((below_alloc w _).alloc (below_alloc w _).size _)).size _) b1; have g1 := grown_of b1 none; obtain ⟨⟨c0, c1, c2, c3, c4⟩, ⟨d0, d1⟩, ⟨z0, z1⟩, f0⟩ := box572 g1)
  refine bodyPost_ret (v := .tuple #[.agg #[.slice none 0 0, .slice none 0 0], .int .i64 E]) (by simp [results, Tryd.results18, go_sem, z0, z1]) rfl ⟨rfl, ?_⟩
  go_grown

set_option maxHeartbeats 2000000 in
set_option maxRecDepth 100000 in
theorem pPage_bad (b q s : Int) (a a' : Option Addr) (n c m c' : Nat) (x y : Int) (w : World) (hn : n ≤ 140737488355000) (hm : m ≤ 140737488355000) (hE : chkE b q s n m = 0) (hxy : ¬ (0 ≤ x ∧ x < b ∧ 0 ≤ y ∧ y < q)) :
    Calls Tryd.prog 18 #[.agg #[.int .i64 b, .int .i64 q, .int .i64 s, .slice a n c, .slice a' m c'], .agg #[.int .i64 x, .int .i64 y]] w fun e w' => e = .returned (.tuple #[.agg #[.slice none 0 0, .slice none 0 0], .int .i64 41]) ∧ Below w.heap.size w w' := by
  have HE : Hid (chkE b q s n m = 0) := hE
  clear hE
  rcases bad_ways hxy with h | ⟨h1, h⟩ | ⟨h1, h2, h⟩ | ⟨h1, h2, h3, h⟩
  all_goals
    clear hxy
    go_enter Tryd.func18, Tryd.ntmps18
    go_wp2_with (go_at_call 14; refine (check_any b q s a a' n c m c' _ hn hm).mono ?_; rintro e u1 ⟨rfl, b1⟩; rw [HE.out]; have bw1 := below_trans (((below_alloc w (.cells #[.int .i64 b, .int .i64 q, .int .i64 s, .slice a n c, .slice a' m c'] 30)).alloc (below_alloc w _).size _).alloc (((below_alloc w _).alloc (below_alloc w _).size _)).size _) b1; have g1 := grown_of b1 none; obtain ⟨⟨c0, c1, c2, c3, c4⟩, ⟨d0, d1⟩, ⟨z0, z1⟩, f0⟩ := box572 g1)
    refine bodyPost_ret (v := .tuple #[.agg #[.slice none 0 0, .slice none 0 0], .int .i64 41]) (by simp [results, Tryd.results18, go_sem, z0, z1]) rfl ⟨rfl, ?_⟩
    go_grown
theorem below_via {u x y : World} (h : Below x.heap.size x y) (k : Below u.heap.size u x) : Below u.heap.size u y := below_trans k h
theorem below_cell {x y : World} (h : Below x.heap.size x y) : ∀ (z : Nat) (v : Value), x.cell? ⟨z, 0, none⟩ = some v → y.cell? ⟨z, 0, none⟩ = some v := fun z v hz => by
  rw [h.cell (block_lt_of_cell hz)]; exact hz

set_option maxHeartbeats 2000000 in
set_option maxRecDepth 100000 in
theorem pPage_ok (b q s : Int) (bk off : Nat) (a' : Option Addr) (n c m c' : Nat) (x y : Int) (zs : List Int) (w : World) (k Ln K0 K1 C : Nat) (X : Int) (hnc : n ≤ c) (hc : c ≤ 9223372036854775807) (hn : n ≤ 140737488355000) (hm : m ≤ 140737488355000) (hE : chkE b q s n m = 0) (hf : Fits b q s = true) (hr : Reads w (some ⟨bk, off, none⟩) n zs)
    (hLn : (Ln : Int) = 256 * s + (54 + 3 * s)) (hC : 256 * s = (C : Int)) (hK0 : k * Ln = K0) (hK1' : (k + 1) * Ln = K1) (hK1 : K1 ≤ n) (hk : k ≤ 65536) (hX : x * q = X) (hXk : X + y = (k : Int)) (hx0 : 0 ≤ x) (hx1 : x < b) (hy0 : 0 ≤ y) (hy1 : y < q) :
    Calls Tryd.prog 18 #[.agg #[.int .i64 b, .int .i64 q, .int .i64 s, .slice (some ⟨bk, off, none⟩) n c, .slice a' m c'], .agg #[.int .i64 x, .int .i64 y]] w fun e w' => ∃ g1 k1 g2 k2, e = .returned (.tuple #[.agg #[.slice (some ⟨g1, 0, none⟩) C k1, .slice (some ⟨g2, 0, none⟩) (Ln - C) k2], .int .i64 0]) ∧ Own w' w.heap.size g1 C k1 (((zs.drop K0).take Ln).take C) ∧ Own w' w.heap.size g2 (Ln - C) k2 (((zs.drop K0).take Ln).drop C) ∧ g1 < g2 ∧ Below w.heap.size w w' := by
  have hKL : K0 + Ln = K1 := by rw [← hK0, ← hK1', Nat.add_mul]; omega
  obtain ⟨D, hD⟩ : ∃ D, c - K0 = D := ⟨_, rfl⟩
  have hD1 : Ln ≤ D := by omega
  have hD2 : D ≤ 9223372036854775807 := by omega
  obtain ⟨a, ha⟩ : ∃ a : Option Addr, a = some ⟨bk, off, none⟩ := ⟨_, rfl⟩
  have HE : Hid (chkE b q s n m = 0) := hE
  obtain ⟨q1, q2, q3, q4, q5, q6, q7, q8⟩ := fits_all hf
  have hX0 : 0 ≤ X := by rw [← hX]; exact Int.mul_nonneg hx0 (by omega)
  have hX1 : X ≤ 65536 := by omega
  have HLn : Hid ((Ln : Int) = 256 * s + (54 + 3 * s)) := hLn
  have HK0 : Hid (k * Ln = K0) := hK0
  have HK1 : Hid ((k + 1) * Ln = K1) := hK1'
  have hCL : C < Ln := by omega
  have hCp : 0 < C := by omega
  have hLn2 : Ln ≤ 2200 := by omega
  have hrp : ∀ z ∈ (zs.drop K0).take Ln, 0 ≤ z ∧ z ≤ 255 := fun z hz => hr.2.1 z (List.mem_of_mem_drop (List.mem_of_mem_take hz))
  have hpl : ((zs.drop K0).take Ln).length = Ln := by
    have h1 : K0 + Ln = K1 := by rw [← hK0, ← hK1', Nat.add_mul]; omega
    have h2 := hr.1
    simp; omega
  have HRP : Hid _ := hrp
  have HPL : Hid _ := hpl
  have HA : Hid (a = some ⟨bk, off, none⟩) := ha
  have HB : Hid (n ≤ 140737488355000 ∧ m ≤ 140737488355000 ∧ C < Ln ∧ 0 < C ∧ Ln ≤ 2200 ∧ K1 ≤ n ∧ C ≤ Ln ∧ 0 < Ln - C ∧ 0 < Ln ∧ Ln ≤ 140737488355000 ∧ C ≤ Ln ∧ n ≤ c ∧ c ≤ 9223372036854775807) := ⟨hn, hm, hCL, hCp, hLn2, hK1, by omega, by omega, by omega, by omega, by omega, hnc, hc⟩
  have HF : Hid (Fits b q s = true) := hf
  clear hE hLn hK0 hK1' hrp hpl hCL hCp hLn2 hK1 q1 q2 q3 q4 q7 q8 hf hn hm
  have d1 : C ≤ D := by have := HB.out; omega
  have d2 : C < D := by have := HB.out; omega
  have d3 : ¬ D ≤ C := by omega
  have d4 : ¬ D - C = 0 := by omega
  have d5 : ¬ D = C := by omega
  have d6 : C ≤ Ln := HB.out.2.2.2.2.2.2.1
  have HD : Hid (c - K0 = D) := hD
  have hrw : Reads w (some ⟨bk, off + K0, none⟩) Ln ((zs.drop K0).take Ln) := by
    obtain ⟨b1, o1, he, hh⟩ := hr.part K0 K1 (by omega) HB.out.2.2.2.2.2.1 (by have := HB.out; omega)
    cases he
    rwa [show K1 - K0 = Ln by omega] at hh
  have hr1 : Reads w (some ⟨bk, off + K0, none⟩) C (((zs.drop K0).take Ln).take C) := by
    obtain ⟨b1, o1, he, hh⟩ := hrw.part 0 C (by omega) d6 HB.out.2.2.2.1
    cases he
    simpa using hh
  have hr2 : Reads w (some ⟨bk, off + K0 + C, none⟩) (Ln - C) (((zs.drop K0).take Ln).drop C) := by
    obtain ⟨b1, o1, he, hh⟩ := hrw.part C Ln d6 (Nat.le_refl _) HB.out.2.2.1
    cases he
    rwa [List.take_of_length_le (by rw [List.length_drop, HPL.out]; exact Nat.le_refl _)] at hh
  have HR1 : Hid (Reads w (some ⟨bk, off + K0, none⟩) C (((zs.drop K0).take Ln).take C)) := hr1
  have HR2 : Hid (Reads w (some ⟨bk, off + K0 + C, none⟩) (Ln - C) (((zs.drop K0).take Ln).drop C)) := hr2
  clear hr ha hrw hr1 hr2 hKL hD hnc hc HA a
  go_enter Tryd.func18, Tryd.ntmps18
  go_upto_region 8 with (first
    | (go_at_call 14; refine (check_any b q s (some ⟨bk, off, none⟩) a' n c m c' _ HB.out.1 HB.out.2.1).mono ?_; rintro e u1 ⟨rfl, b1⟩; rw [HE.out]; have bw1 := below_trans (((below_alloc w (.cells #[.int .i64 b, .int .i64 q, .int .i64 s, .slice (some ⟨bk, off, none⟩) n c, .slice a' m c'] 30)).alloc (below_alloc w _).size _).alloc (((below_alloc w _).alloc (below_alloc w _).size _)).size _) b1; have g1 := grown_of b1 none; obtain ⟨⟨c0, c1, c2, c3, c4⟩, ⟨d0, d1'⟩, ⟨z0, z1⟩, f0⟩ := box572 g1)
    | (go_at_call 44; refine (window_any b q s bk off a' n c m c' _ k Ln K0 K1 HB.out.2.2.2.2.2.2.2.2.2.2.2.2 HB.out.2.2.2.2.2.2.2.2.2.2.2.1 HF.out HLn.out HK0.out HK1.out HB.out.2.2.2.2.2.1 HB.out.1 hk).mono ?_; rintro e u2 ⟨rfl, b2⟩; rw [HD.out]
       have bw2 := below_trans bw1 b2
       have g2 := grownBy_trans g1 (grown_of b2 none)
       clear c0 c1 c2 c3 c4 d0 d1' z0 z1 f0
       obtain ⟨⟨c0, c1, c2, c3, c4⟩, ⟨d0, d1'⟩, ⟨z0, z1⟩, f0⟩ := box572 g2)
    | (go_at_call 42; refine (dataBytes_any b q s _ q5 q6).mono ?_; rintro e u3 ⟨rfl, b3⟩; rw [hC]
       have bw3 := below_trans bw2 b3
       have g3 := grownBy_trans g2 (grown_of b3 none)
       clear c0 c1 c2 c3 c4 d0 d1' z0 z1 f0
       obtain ⟨⟨c0, c1, c2, c3, c4⟩, ⟨d0, d1'⟩, ⟨z0, z1⟩, f0⟩ := box572 g3))
  clear c0 c1 c2 c3 c4 d0 d1' b1 b2 b3 bw1 bw2 g1 g2
  have HJ1 : Hid (∀ (W : World) (q0 : Nat), Below u3.heap.size u3 W → W.cell? ⟨q0, 0, none⟩ = some (.slice (some ⟨bk, off + K0, none⟩) C D) → Calls Tryd.prog 45 #[.slice (some ⟨q0, 0, none⟩) 1 1] W fun e w' => ∃ g cc, e = .returned (.slice (some ⟨g, 0, none⟩) C cc) ∧ Own w' W.heap.size g C cc (((zs.drop K0).take Ln).take C) ∧ Below W.heap.size W w') :=
    fun W q0 hb hq => join_one q0 _ C D _ W (by have := HB.out; omega) HB.out.2.2.2.1 (HR1.out.below (below_trans bw3 hb)) hq
  have HJ2 : Hid (∀ (W : World) (q0 : Nat), Below u3.heap.size u3 W → W.cell? ⟨q0, 0, none⟩ = some (.slice (some ⟨bk, off + K0 + C, none⟩) (Ln - C) (D - C)) → Calls Tryd.prog 45 #[.slice (some ⟨q0, 0, none⟩) 1 1] W fun e w' => ∃ g cc, e = .returned (.slice (some ⟨g, 0, none⟩) (Ln - C) cc) ∧ Own w' W.heap.size g (Ln - C) cc (((zs.drop K0).take Ln).drop C) ∧ Below W.heap.size W w') :=
    fun W q0 hb hq => join_one q0 _ (Ln - C) (D - C) _ W (by have := HB.out; omega) HB.out.2.2.2.2.2.2.2.1 (HR2.out.below (below_trans bw3 hb)) hq
  go_region_with (first
    | (go_at_call 45; have bwx := bw4; refine (HJ2.out _ _ (by go_grown; all_goals (first | omega | (simp; omega))) (by first | (simp; done) | exact HC4.out _ _ (by simp))).mono ?_; rintro e u5 ⟨g2, k2, rfl, own2, b5⟩; have hne : g1 < g2 := (by have h8 := (Own.lt own2).1; have h7 := (Own.lt HO1.out).2; (try simp at h8); omega); have HO2 : Hid (Own u5 u3.heap.size g2 (Ln - C) k2 (((zs.drop K0).take Ln).drop C)) := Own.base own2 (by have := bw4.size; simp; omega); clear own2; have bw45 := below_via (u := u4) b5 (by go_grown; all_goals (first | omega | (simp; omega))); have bw5 := below_trans bw4 bw45; clear b5; have g5 := grownBy_trans g3 (grown_of bw5 none); obtain ⟨_, _, ⟨y0, y1⟩, fy⟩ := box572 g5)
    | (go_at_call 45; refine (HJ1.out _ _ (by go_grown; all_goals (first | omega | (simp; omega))) (by simp)).mono ?_; rintro e u4 ⟨g1, k1, rfl, own1, b4⟩; have HO1 : Hid (Own u4 u3.heap.size g1 C k1 (((zs.drop K0).take Ln).take C)) := Own.base own1 (by simp <;> omega); clear own1; have bw4 := below_via (u := u3) b4 (by go_grown; all_goals (first | omega | (simp; omega))); have HC4 : Hid _ := below_cell b4; clear b4; have s4 := bw4.size))
  all_goals
    go_wp2
    refine bodyPost_ret (v := .tuple #[.agg #[.slice (some ⟨g1, 0, none⟩) C k1, .slice (some ⟨g2, 0, none⟩) (Ln - C) k2], .int .i64 0]) (by simp [results, Tryd.results18, go_sem, y0, y1]) rfl ?_
    have gs : ∀ (v1 v2 : Value), u5.grownBy ((u5.setCell ⟨w.heap.size + 1 + 1, 0, none⟩ v1).setCell ⟨w.heap.size + 1 + 1, 1, none⟩ v2) (some (w.heap.size + 1 + 1)) := fun v1 v2 => grownBy_trans (set_grown u5 _ 0 v1) (set_grown _ _ 1 v2)
    have s1 : w.heap.size + 3 ≤ u3.heap.size := by have := g3.size; simp at this; omega
    have p3 := (Own.below HO1.out bw45).apart (gs (.slice (some ⟨g1, 0, none⟩) C k1) (.slice (some ⟨g2, 0, none⟩) (Ln - C) k2)) (by have := Own.lt HO1.out; omega)
    have p4 := Own.apart HO2.out (gs (.slice (some ⟨g1, 0, none⟩) C k1) (.slice (some ⟨g2, 0, none⟩) (Ln - C) k2)) (by have := Own.lt HO2.out; omega)
    have bw6 := below_trans bw3 bw5
    refine ⟨g1, k1, g2, k2, rfl, Own.base p3 (by omega), Own.base p4 (by omega), hne, ?_⟩
    · exact bw6.grown (gs _ _) bw6.size (fun k hk => by simp at hk; omega)
theorem cut_way {F G : World → Nat → Nat → Nat → Nat → Nat → Nat → Nat → Nat → Nat → Nat → Prop} {goal : Prop} (h1 : (∀ W a b c d e f g h i j, F W a b c d e f g h i j → G W a b c d e f g h i j) → goal) (h2 : ∀ W a b c d e f g h i j, F W a b c d e f g h i j → G W a b c d e f g h i j) : goal := h1 h2

/-- Boxes, and the rows of the two images that were copied. -/
structure Q0 (w W : World) (BX : List (Nat × Array Value × TypeId)) (RA : List (Value × List Int)) (RAM : List (Value × List Bool)) : Prop where
  bel : Below w.heap.size w W
  bx : ∀ e ∈ BX, W.heap[e.1]? = some (.cells e.2.1 e.2.2 (0, 0))
  bd : BX.Pairwise (fun a b => a.1 ≠ b.1)
  la : LiveG encY 5 1 W w.heap.size RA
  lam : LiveG encM 4 1 W w.heap.size RAM
theorem Q0.up {w W W' : World} {BX : List (Nat × Array Value × TypeId)} {RA : List (Value × List Int)} {RAM : List (Value × List Bool)} (h : Q0 w W BX RA RAM) (hb : Below W.heap.size W W') : Q0 w W' BX RA RAM :=
  ⟨below_trans h.bel hb, fun e he => (hb.block _ (lt_of_b (h.bx e he))).trans (h.bx e he), h.bd, h.la.below hb, h.lam.below hb⟩
theorem Q0.box {w W : World} {BX : List (Nat × Array Value × TypeId)} {RA : List (Value × List Int)} {RAM : List (Value × List Bool)} (h : Q0 w W BX RA RAM) (cs : Array Value) (t : TypeId) : Q0 w (W.alloc (.cells cs t)) ((W.heap.size, cs, t) :: BX) RA RAM := by
  have h1 := h.up (below_alloc W (.cells cs t))
  refine ⟨h1.bel, fun e he => ?_, List.pairwise_cons.2 ⟨fun q hq e9 => ?_, h.bd⟩, h1.la, h1.lam⟩
  · rcases List.mem_cons.1 he with rfl | he
    · exact heap_alloc_new W _
    · exact h1.bx e he
  · have h2 := lt_of_b (h.bx q hq)
    rw [← e9] at h2
    exact Nat.lt_irrefl _ h2
theorem Q0.setbox {w W W' : World} (L1 L2 : List (Nat × Array Value × TypeId)) {q : Nat} {cs cs' : Array Value} {t : TypeId} {RA : List (Value × List Int)} {RAM : List (Value × List Bool)} (h : Q0 w W (L1 ++ (q, cs, t) :: L2) RA RAM) (hg : W.grownBy W' (some q)) (hq : W'.heap[q]? = some (.cells cs' t (0, 0))) (h5 : t ≠ 5) (h4 : t ≠ 4) (hw : w.heap.size ≤ q) : Q0 w W' (L1 ++ (q, cs', t) :: L2) RA RAM := by
  have hb : W.heap[q]? = some (.cells cs t (0, 0)) := h.bx (q, cs, t) (List.mem_append.2 (Or.inr List.mem_cons_self))
  have hd := h.bd
  rw [List.pairwise_append, List.pairwise_cons] at hd
  obtain ⟨d1, ⟨d2, d3⟩, d4⟩ := hd
  refine ⟨h.bel.grown hg h.bel.size (fun i hi => by cases hi; exact hw), fun e he => ?_, ?_, h.la.other hg hb h5, h.lam.other hg hb h4⟩
  · rcases List.mem_append.1 he with he | he
    · refine (hg.block _ (lt_of_b (h.bx e (List.mem_append.2 (Or.inl he)))) (fun e9 => ?_)).trans (h.bx e (List.mem_append.2 (Or.inl he)))
      exact d4 e he (q, cs, t) List.mem_cons_self (Option.some.inj e9)
    · rcases List.mem_cons.1 he with rfl | he
      · exact hq
      · refine (hg.block _ (lt_of_b (h.bx e (List.mem_append.2 (Or.inr (List.mem_cons_of_mem _ he))))) (fun e9 => ?_)).trans (h.bx e (List.mem_append.2 (Or.inr (List.mem_cons_of_mem _ he))))
        exact d2 e he (Option.some.inj e9).symm
  · rw [List.pairwise_append, List.pairwise_cons]
    exact ⟨d1, ⟨fun e he => d2 e he, d3⟩, fun e he f hf => by
      rcases List.mem_cons.1 hf with rfl | hf
      · exact d4 e he (q, cs, t) List.mem_cons_self
      · exact d4 e he f (List.mem_cons_of_mem _ hf)⟩
theorem Q0.img {w W W' : World} {BX : List (Nat × Array Value × TypeId)} {RA : List (Value × List Int)} {RAM : List (Value × List Bool)} {g n cc gm m cm : Nat} {zs : List Int} {bs : List Bool} (h : Q0 w W BX RA RAM) (hb : Below W.heap.size W W') (h1 : Own W' W.heap.size g n cc zs) (h2 : OwnB W' W.heap.size gm m cm bs) : Q0 w W' BX ((.slice (some ⟨g, 0, none⟩) n cc, zs) :: RA) ((.slice (some ⟨gm, 0, none⟩) m cm, bs) :: RAM) := by
  have h3 := h.up hb
  exact ⟨h3.bel, h3.bx, h3.bd, h.la.add hb h.bel.size h1.len h1, h.lam.add hb h.bel.size (by have h9 : W'.ownsRow W.heap.size 4 1 (.slice (some ⟨gm, 0, none⟩) m cm) m (bs.map Value.bool) := h2; have := h9.1; simpa using this) h2⟩

/-- All that stands behind the copies: B1 is where the memory ended then. -/
structure Q2 (w W : World) (B1 : Nat) (BX : List (Nat × Array Value × TypeId)) (RA : List (Value × List Int)) (RAM : List (Value × List Bool)) (RB : List (Value × List Int)) (RM : List (Value × List Bool)) (RP : List (Value × List Pl)) : Prop where
  q : Q0 w W BX RA RAM
  hB : B1 ≤ W.heap.size
  lb : LiveG encY 5 1 W B1 RB
  lm : LiveG encM 4 1 W B1 RM
  lp : LiveG flatP 40 2 W B1 RP
  wB : w.heap.size ≤ B1
  fa : ∀ p ∈ RA, ∀ g, p.1.ownBlock = some g → g < B1
  fm : ∀ p ∈ RAM, ∀ g, p.1.ownBlock = some g → g < B1
theorem Q2.start {w W : World} {BX : List (Nat × Array Value × TypeId)} {RA : List (Value × List Int)} {RAM : List (Value × List Bool)} (h : Q0 w W BX RA RAM) : Q2 w W W.heap.size BX RA RAM [] [] [] := ⟨h, Nat.le_refl _, LiveG.nil _ _, LiveG.nil _ _, LiveG.nil _ _, h.bel.size, fun p hp g hg => ((h.la.rows p hp).lt g hg).2, fun p hp g hg => ((h.lam.rows p hp).lt g hg).2⟩
theorem Q2.up {w W W' : World} {B1 : Nat} {BX : List (Nat × Array Value × TypeId)} {RA : List (Value × List Int)} {RAM : List (Value × List Bool)} {RB : List (Value × List Int)} {RM : List (Value × List Bool)} {RP : List (Value × List Pl)} (h : Q2 w W B1 BX RA RAM RB RM RP) (hb : Below W.heap.size W W') : Q2 w W' B1 BX RA RAM RB RM RP :=
  ⟨h.q.up hb, Nat.le_trans h.hB hb.size, h.lb.below hb, h.lm.below hb, h.lp.below hb, h.wB, h.fa, h.fm⟩
theorem Q2.box {w W : World} {B1 : Nat} {BX : List (Nat × Array Value × TypeId)} {RA : List (Value × List Int)} {RAM : List (Value × List Bool)} {RB : List (Value × List Int)} {RM : List (Value × List Bool)} {RP : List (Value × List Pl)} (h : Q2 w W B1 BX RA RAM RB RM RP) (cs : Array Value) (t : TypeId) : Q2 w (W.alloc (.cells cs t)) B1 ((W.heap.size, cs, t) :: BX) RA RAM RB RM RP :=
  ⟨h.q.box cs t, Nat.le_trans h.hB (below_alloc W _).size, h.lb.below (below_alloc W _), h.lm.below (below_alloc W _), h.lp.below (below_alloc W _), h.wB, h.fa, h.fm⟩
theorem Q2.row {w W W' : World} {B1 : Nat} {BX : List (Nat × Array Value × TypeId)} {RA : List (Value × List Int)} {RAM : List (Value × List Bool)} {RB : List (Value × List Int)} {RM : List (Value × List Bool)} {RP : List (Value × List Pl)} {v : Value} {n : Nat} {xs : List Int} (h : Q2 w W B1 BX RA RAM RB RM RP) (hb : Below W.heap.size W W') (hr : W'.ownsRow W.heap.size 5 1 v n (encY xs)) : Q2 w W' B1 BX RA RAM ((v, xs) :: RB) RM RP :=
  ⟨h.q.up hb, Nat.le_trans h.hB hb.size, h.lb.add hb h.hB (by have := hr.1; simpa using this) hr, h.lm.below hb, h.lp.below hb, h.wB, h.fa, h.fm⟩
theorem Q2.img {w W W' : World} {B1 : Nat} {BX : List (Nat × Array Value × TypeId)} {RA : List (Value × List Int)} {RAM : List (Value × List Bool)} {RB : List (Value × List Int)} {RM : List (Value × List Bool)} {RP : List (Value × List Pl)} {v u : Value} {n m : Nat} {xs : List Int} {ys : List Bool} (h : Q2 w W B1 BX RA RAM RB RM RP) (hb : Below W.heap.size W W') (hr : W'.ownsRow W.heap.size 5 1 v n (encY xs)) (hm : W'.ownsRow W.heap.size 4 1 u m (encM ys)) : Q2 w W' B1 BX RA RAM ((v, xs) :: RB) ((u, ys) :: RM) RP :=
  ⟨h.q.up hb, Nat.le_trans h.hB hb.size, h.lb.add hb h.hB (by have := hr.1; simpa using this) hr, h.lm.add hb h.hB (by have := hm.1; simpa using this) hm, h.lp.below hb, h.wB, h.fa, h.fm⟩
theorem Q2.page {w W W' : World} {B1 : Nat} {BX : List (Nat × Array Value × TypeId)} {RA : List (Value × List Int)} {RAM : List (Value × List Bool)} {RB : List (Value × List Int)} {RM : List (Value × List Bool)} {RP : List (Value × List Pl)} {v u : Value} {n m : Nat} {xs ys : List Int} (h : Q2 w W B1 BX RA RAM RB RM RP) (hb : Below W.heap.size W W') (hr : W'.ownsRow W.heap.size 5 1 v n (encY xs)) (hm : W'.ownsRow W.heap.size 5 1 u m (encY ys)) (hf : ∀ g, u.ownBlock = some g → v.ownBlock ≠ some g) : Q2 w W' B1 BX RA RAM ((u, ys) :: (v, xs) :: RB) RM RP := by
  have h1 := h.row hb hr
  refine ⟨h1.q, h1.hB, ⟨fun p hp => ?_, List.pairwise_cons.2 ⟨fun p hp => ?_, h1.lb.far⟩⟩, h1.lm, h1.lp, h.wB, h.fa, h.fm⟩
  · rcases List.mem_cons.1 hp with rfl | hp
    · have e : ys.length = m := by have := hm.1; simpa using this
      rw [e]
      exact ownsRow_base hm h.hB
    · exact h1.lb.rows p hp
  · rcases List.mem_cons.1 hp with rfl | hp
    · exact hf
    · intro g h1 h2
      have a1 := (hm.lt g h1).1
      have a2 := ((h.lb.rows p hp).lt g h2).2
      omega
theorem Q2.pls {w W W' : World} {B1 : Nat} {BX : List (Nat × Array Value × TypeId)} {RA : List (Value × List Int)} {RAM : List (Value × List Bool)} {RB : List (Value × List Int)} {RM : List (Value × List Bool)} {RP : List (Value × List Pl)} {v : Value} {n : Nat} {xs : List Pl} (h : Q2 w W B1 BX RA RAM RB RM RP) (hb : Below W.heap.size W W') (hr : W'.ownsRow W.heap.size 40 2 v n (flatP xs)) : Q2 w W' B1 BX RA RAM RB RM ((v, xs) :: RP) :=
  ⟨h.q.up hb, Nat.le_trans h.hB hb.size, h.lb.below hb, h.lm.below hb, h.lp.add hb h.hB (by have := hr.1; rw [flatP_length] at this; omega) hr, h.wB, h.fa, h.fm⟩

theorem LiveG.perm {α : Type} {enc : List α → List Value} {e : TypeId} {sz : Nat} {w : World} {B : Nat} {R R' : List (Value × List α)} (h : LiveG enc e sz w B R) (hp : R.Perm R') : LiveG enc e sz w B R' :=
  ⟨fun p hp' => h.rows p (hp.symm.subset hp'), (hp.pairwise_iff (fun {a b} (h9 : FarG a b) => (fun g h1 h2 => h9 g h2 h1 : FarG b a))).1 h.far⟩
/-- Rows that lie below a place stay, whatever lies behind it is changed. -/
theorem LiveG.low {α : Type} {enc : List α → List Value} {e : TypeId} {sz : Nat} {w w' : World} {B B1 : Nat} {R : List (Value × List α)} (h : LiveG enc e sz w B R) (hb : Below B1 w w') (hf : ∀ p ∈ R, ∀ g, p.1.ownBlock = some g → g < B1) : LiveG enc e sz w' B R :=
  ⟨fun p hp => by
    obtain ⟨h1, h2⟩ := h.rows p hp
    refine ⟨h1, ?_⟩
    rcases h2 with h2 | ⟨g', cap', cur, hv, hg, hh, r⟩
    · exact Or.inl h2
    · exact Or.inr ⟨g', cap', cur, hv, hg, (hb.block g' (hf p hp g' (by rw [hv]; rfl))).trans hh, r⟩, h.far⟩
theorem LiveG.five {α : Type} {enc : List α → List Value} {e : TypeId} {sz : Nat} {w w' : World} {B : Nat} {R : List (Value × List α)} (h : LiveG enc e sz w B R) (hb : ∀ (i : Nat) (cs : Array Value), w.heap[i]? = some (Obj.cells cs e (0, 0)) → w'.heap[i]? = some (Obj.cells cs e (0, 0))) : LiveG enc e sz w' B R :=
  ⟨fun p hp => by
    obtain ⟨h1, h2⟩ := h.rows p hp
    refine ⟨h1, ?_⟩
    rcases h2 with h2 | ⟨g', cap', cur, hv, hg, hh, r⟩
    · exact Or.inl h2
    · exact Or.inr ⟨g', cap', cur, hv, hg, hb _ _ hh, r⟩, h.far⟩
theorem below_of_grown {W W' : World} {B1 q : Nat} (hg : W.grownBy W' (some q)) (hq : B1 ≤ q) (hB : B1 ≤ W.heap.size) : Below B1 W W' := (Below.refl B1 W).grown hg hB (fun i hi => by cases hi; exact hq)
theorem blk_neT {W W' : World} {q i : Nat} {cs cs' : Array Value} {t t' : TypeId} (hg : W.grownBy W' (some q)) (hq : W.heap[q]? = some (Obj.cells cs' t' (0, 0))) (hi : W.heap[i]? = some (Obj.cells cs t (0, 0))) (hne : t ≠ t') : W'.heap[i]? = some (Obj.cells cs t (0, 0)) := by
  refine (hg.block i (Array.getElem?_eq_some_iff.1 hi).1 (fun e9 => ?_)).trans hi
  have e8 : i = q := Option.some.inj e9
  rw [e8, hq] at hi
  injection hi with hi
  injection hi with _ h8 _
  exact hne h8.symm
/-- A row of bytes is changed in its place. -/
theorem Q2.setrow {w W W' : World} {B1 : Nat} {BX : List (Nat × Array Value × TypeId)} {RA : List (Value × List Int)} {RAM : List (Value × List Bool)} (R1 R2 : List (Value × List Int)) {RM : List (Value × List Bool)} {RP : List (Value × List Pl)} {q n cap : Nat} {xs ys : List Int} (h : Q2 w W B1 BX RA RAM (R1 ++ (.slice (some ⟨q, 0, none⟩) n cap, xs) :: R2) RM RP) (hg : W.grownBy W' (some q)) (hr : W'.ownsRow B1 5 1 (.slice (some ⟨q, 0, none⟩) n cap) n (encY ys)) (hbx : (BX.map (fun e => e.2.2)).all (fun t => t != 5) = true) : Q2 w W' B1 BX RA RAM (R1 ++ (.slice (some ⟨q, 0, none⟩) n cap, ys) :: R2) RM RP := by
  obtain ⟨hBq, cs, hcs⟩ := row_blk (h.lb.rows (.slice (some ⟨q, 0, none⟩) n cap, xs) (List.mem_append.2 (Or.inr List.mem_cons_self))) q rfl
  have hbel := below_of_grown hg hBq h.hB
  refine ⟨⟨h.q.bel.grown hg h.q.bel.size (fun i hi => by cases hi; exact Nat.le_trans h.wB hBq), fun e he => ?_, h.q.bd, h.q.la.low hbel h.fa, h.q.lam.low hbel h.fm⟩, Nat.le_trans h.hB hg.size, LiveG.set R1 R2 h.lb hg (by have := hr.1; simpa using this) hr, h.lm.other hg hcs (by decide), h.lp.other hg hcs (by decide), h.wB, h.fa, h.fm⟩
  refine blk_neT hg hcs (h.q.bx e he) ?_
  have h9 := List.all_eq_true.1 hbx e.2.2 (List.mem_map.2 ⟨e, he, rfl⟩)
  simpa using h9
/-- A row of places is changed: they are done with. -/
theorem Q2.dropP {w W W' : World} {B1 : Nat} {BX : List (Nat × Array Value × TypeId)} {RA : List (Value × List Int)} {RAM : List (Value × List Bool)} {RB : List (Value × List Int)} {RM : List (Value × List Bool)} {RP : List (Value × List Pl)} {v : Value} {xs : List Pl} (h : Q2 w W B1 BX RA RAM RB RM RP) (hm : (v, xs) ∈ RP) (hg : W.grownBy W' v.ownBlock) (hbx : ∀ e ∈ BX, e.2.2 ≠ 40 ∨ e.1 < B1) : Q2 w W' B1 BX RA RAM RB RM [] := by
  have hrow := h.lp.rows _ hm
  cases hv : v.ownBlock with
  | none =>
    rw [hv] at hg
    exact ⟨(h.up (below_of hg)).q, (h.up (below_of hg)).hB, (h.up (below_of hg)).lb, (h.up (below_of hg)).lm, LiveG.nil _ _, h.wB, h.fa, h.fm⟩
  | some q =>
    rw [hv] at hg
    obtain ⟨hBq, cs, hcs⟩ := row_blk hrow q hv
    have hbel := below_of_grown hg hBq h.hB
    refine ⟨⟨h.q.bel.grown hg h.q.bel.size (fun i hi => by cases hi; exact Nat.le_trans h.wB hBq), fun e he => ?_, h.q.bd, h.q.la.low hbel h.fa, h.q.lam.low hbel h.fm⟩, Nat.le_trans h.hB hg.size, h.lb.other hg hcs (by decide), h.lm.other hg hcs (by decide), LiveG.nil _ _, h.wB, h.fa, h.fm⟩
    rcases hbx e he with h9 | h9
    · exact blk_neT hg hcs (h.q.bx e he) h9
    · exact (hbel.block _ h9).trans (h.q.bx e he)
/-- Rows of marks are changed: they are done with. -/
theorem Q2.kt {w W W' : World} {B1 : Nat} {BX : List (Nat × Array Value × TypeId)} {RA : List (Value × List Int)} {RAM : List (Value × List Bool)} {RB : List (Value × List Int)} {RM : List (Value × List Bool)} {RP : List (Value × List Pl)} (h : Q2 w W B1 BX RA RAM RB RM RP) (hk : Kt B1 W W') (hbx : (BX.map (fun e => e.2.2)).all (fun t => t != 4) = true) : Q2 w W' B1 BX RA RAM RB [] [] :=
  ⟨⟨h.q.bel.trans (hk.bel.mono h.wB), fun e he => hk.five _ _ _ (by
      have h9 := List.all_eq_true.1 hbx e.2.2 (List.mem_map.2 ⟨e, he, rfl⟩)
      simpa using h9) (h.q.bx e he), h.q.bd, h.q.la.five (fun i cs hi => hk.five i cs 5 (by decide) hi), h.q.lam.low hk.bel h.fm⟩, Nat.le_trans h.hB hk.bel.size, h.lb.five (fun i cs hi => hk.five i cs 5 (by decide) hi), LiveG.nil _ _, LiveG.nil _ _, h.wB, h.fa, h.fm⟩
/-- What lies behind B1 is done with. -/
theorem Q2.last {w W W' : World} {B1 : Nat} {BX : List (Nat × Array Value × TypeId)} {RA : List (Value × List Int)} {RAM : List (Value × List Bool)} {RB : List (Value × List Int)} {RM : List (Value × List Bool)} {RP : List (Value × List Pl)} (h : Q2 w W B1 BX RA RAM RB RM RP) (hb : Below B1 W W') (BX' : List (Nat × Array Value × TypeId)) (hs : BX'.Sublist BX) (hlt : ∀ e ∈ BX', e.1 < B1) : Q0 w W' BX' RA RAM :=
  ⟨h.q.bel.trans (hb.mono h.wB), fun e he => (hb.block _ (hlt e he)).trans (h.q.bx e (hs.subset he)), h.q.bd.sublist hs, h.q.la.low hb h.fa, h.q.lam.low hb h.fm⟩
/-- A list of rows of marks whose rows all lie apart. -/
theorem live_apartM {w : World} {B : Nat} {P : List (Value × List Bool)} (h : LiveG encM 4 1 w B P) (hsm : ∀ p ∈ P, 0 < p.2.length ∧ p.2.length ≤ 2000000000) (m : Nat) (hm : P.length = m) (cs : Array Value) (hcs : cs.toList = P.map (·.1)) :
    ApartM (w.alloc (.cells cs 28)) B w.heap.size m (fun i => (P.getD i (.slice none 0 0, [])).1) (fun i => (P.getD i (.slice none 0 0, [])).2.length) (fun i => (P.getD i (.slice none 0 0, [])).2) := by
  subst hm
  have hget : ∀ i, (hi : i < P.length) → P.getD i (.slice none 0 0, []) = P[i] := fun i hi => by rw [List.getD_eq_getElem?_getD, List.getElem?_eq_getElem hi]; rfl
  refine ⟨fun i hi => ?_, fun i hi => ?_, fun i hi => ?_, fun i j hi hj hne g hg hg2 => ?_, fun i hi hg => ?_, by simp⟩
  · have h9 := heap_alloc_new w (.cells cs 28)
    simp only [World.cell?, h9]
    rw [← Array.getElem?_toList, hcs, List.getElem?_map, List.getElem?_eq_getElem hi]
    simp only [hget i hi, Option.map_some]
    rfl
  · simp only [hget i hi]
    exact hsm _ (List.getElem_mem hi)
  · simp only [hget i hi]
    exact (h.rows _ (List.getElem_mem hi)).alloc _
  · simp only [hget i hi] at hg
    simp only [hget j hj] at hg2
    have hp := List.pairwise_iff_getElem.1 h.far
    rcases Nat.lt_or_gt_of_ne hne with h1 | h1
    · exact hp i j hi hj h1 g hg hg2
    · exact hp j i hj hi h1 g hg2 hg
  · simp only [hget i hi] at hg
    exact Nat.lt_irrefl _ ((h.rows _ (List.getElem_mem hi)).lt _ hg).2
/-- What Page tells of a place. -/
def inP (b p : Nat) (x y : Int) : Prop := 0 ≤ x ∧ x < (b : Int) ∧ 0 ≤ y ∧ y < (p : Int)
instance (b p : Nat) (x y : Int) : Decidable (inP b p x y) := by unfold inP; infer_instance
def pgA (b p s : Nat) (zs : List Int) (x y : Int) : List Int := if inP b p x y then ((zs.drop ((x * p + y).toNat * (256 * s + (54 + 3 * s)))).take (256 * s + (54 + 3 * s))).take (256 * s) else []
def pgB (b p s : Nat) (zs : List Int) (x y : Int) : List Int := if inP b p x y then ((zs.drop ((x * p + y).toNat * (256 * s + (54 + 3 * s)))).take (256 * s + (54 + 3 * s))).drop (256 * s) else []
def pgE (b p : Nat) (x y : Int) : Int := if inP b p x y then 0 else 41
theorem page_own (b p s bk off n c : Nat) (a' : Option Addr) (c' : Nat) (x y : Int) (zs : List Int) (ms : List Bool) (w : World) (hM : Img.Ok ⟨b, p, s, zs, ms⟩) (hn : zs.length = n) (hr : Reads w (some ⟨bk, off, none⟩) n zs) (hnc : n ≤ c) (hc : c ≤ 9223372036854775807) :
    Calls Tryd.prog 18 #[.agg #[.int .i64 (b : Int), .int .i64 (p : Int), .int .i64 (s : Int), .slice (some ⟨bk, off, none⟩) n c, .slice a' b c'], .agg #[.int .i64 x, .int .i64 y]] w fun e w' => ∃ a1 k1 a2 k2, e = .returned (.tuple #[.agg #[.slice a1 (pgA b p s zs x y).length k1, .slice a2 (pgB b p s zs x y).length k2], .int .i64 (pgE b p x y)]) ∧ w'.ownsRow w.heap.size 5 1 (.slice a1 (pgA b p s zs x y).length k1) (pgA b p s zs x y).length (encY (pgA b p s zs x y)) ∧ w'.ownsRow w.heap.size 5 1 (.slice a2 (pgB b p s zs x y).length k2) (pgB b p s zs x y).length (encY (pgB b p s zs x y)) ∧ (∀ g, (Value.slice a2 (pgB b p s zs x y).length k2).ownBlock = some g → (Value.slice a1 (pgA b p s zs x y).length k1).ownBlock ≠ some g) ∧ Below w.heap.size w w' := by
  have hE : chkE (b : Int) (p : Int) (s : Int) n b = 0 := chk_ok hM hn.symm hM.2.2.1.symm
  have hf : Fits (b : Int) (p : Int) (s : Int) = true := hM.1
  obtain ⟨q1, q2, q3, q4, q5, q6, q7⟩ := fits_nat hf
  have hL : zs.length = b * p * (256 * s + (54 + 3 * s)) := hM.2.1
  have hN : b * p * (256 * s + (54 + 3 * s)) ≤ 65536 * 2200 := Nat.mul_le_mul (by omega) (by omega)
  by_cases hin : inP b p x y
  · obtain ⟨hx0, hx1, hy0, hy1⟩ := hin
    obtain ⟨X, rfl⟩ := Int.eq_ofNat_of_zero_le hx0
    obtain ⟨Y, rfl⟩ := Int.eq_ofNat_of_zero_le hy0
    have hX : X < b := by omega
    have hY : Y < p := by omega
    have hk : X * p + Y < b * p := by
      have h1 : (X + 1) * p ≤ b * p := Nat.mul_le_mul_right _ hX
      rw [Nat.add_mul] at h1
      omega
    have hXp : ((X : Int) * (p : Int)) = ((X * p : Nat) : Int) := by rw [Int.natCast_mul]
    have e0 : ((X : Int) * (p : Int) + (Y : Int)).toNat = X * p + Y := by rw [hXp]; omega
    have hK1 : (X * p + Y + 1) * (256 * s + (54 + 3 * s)) ≤ n := by rw [← hn, hL]; exact Nat.mul_le_mul_right _ hk
    have hin' : inP b p (X : Int) (Y : Int) := ⟨hx0, hx1, hy0, hy1⟩
    have eA : pgA b p s zs (X : Int) (Y : Int) = ((zs.drop ((X * p + Y) * (256 * s + (54 + 3 * s)))).take (256 * s + (54 + 3 * s))).take (256 * s) := by unfold pgA; rw [if_pos hin', e0]
    have eB : pgB b p s zs (X : Int) (Y : Int) = ((zs.drop ((X * p + Y) * (256 * s + (54 + 3 * s)))).take (256 * s + (54 + 3 * s))).drop (256 * s) := by unfold pgB; rw [if_pos hin', e0]
    have eE : pgE b p (X : Int) (Y : Int) = 0 := if_pos hin'
    have hsplit : (X * p + Y + 1) * (256 * s + (54 + 3 * s)) = (X * p + Y) * (256 * s + (54 + 3 * s)) + (256 * s + (54 + 3 * s)) := by rw [Nat.add_mul, Nat.one_mul]
    have lA : (pgA b p s zs (X : Int) (Y : Int)).length = 256 * s := by rw [eA]; simp; omega
    have lB : (pgB b p s zs (X : Int) (Y : Int)).length = 256 * s + (54 + 3 * s) - 256 * s := by rw [eB]; simp; omega
    refine (pPage_ok (b : Int) (p : Int) (s : Int) bk off a' n c b c' (X : Int) (Y : Int) zs w (X * p + Y) (256 * s + (54 + 3 * s)) _ _ (256 * s) ((X * p : Nat) : Int) hnc hc (by omega) (by omega) hE hf hr (by omega) (by omega) rfl rfl hK1 (by omega) hXp (by omega) hx0 hx1 hy0 hy1).mono ?_
    rintro e w' ⟨g1, k1, g2, k2, he, h1, h2, hlt, hb⟩
    rw [eE, lA, lB]
    refine ⟨some ⟨g1, 0, none⟩, k1, some ⟨g2, 0, none⟩, k2, he, ?_, ?_, fun g h3 h4 => ?_, hb⟩
    · rw [eA]; exact h1
    · rw [eB]; exact h2
    · have e1 : g2 = g := Option.some.inj h3
      have e2 : g1 = g := Option.some.inj h4
      omega
  · have eA : pgA b p s zs x y = [] := if_neg hin
    have eB : pgB b p s zs x y = [] := if_neg hin
    have eE : pgE b p x y = 41 := if_neg hin
    refine (pPage_bad (b : Int) (p : Int) (s : Int) _ a' n c b c' x y w (by omega) (by omega) hE hin).mono ?_
    rintro e w' ⟨he, hb⟩
    rw [eA, eB, eE]
    exact ⟨none, 0, none, 0, he, World.ownsRow_nil _ _ _ _, World.ownsRow_nil _ _ _ _, (fun g h => by cases h), hb⟩
end Go.Proofs.YteefekhlbillfaaDoor
