/-
  SEAT Ytnopljjngbgpdaa: the reference's Page.
-/
import Derived.Test.YtnopljjngbgpdaaH
namespace Go.Proofs.Ytnopljjngbgpdaa
open Go.RowKit
set_option linter.unusedVariables false

theorem part_front (a : Option Addr) (l cap j : Nat) (zs : List Int) (w : World) (hl : l ≤ 140737488355000) (hj : j ≤ l) (h : Reads w a l zs) :
    Calls Try.prog 26 #[.slice a l cap, .int .i64 0, .int .i64 j] w fun e w' => ∃ v, e = .returned v ∧ w'.ownsRow w.heap.size 5 1 v j ((zs.take j).map (Value.int .u8)) ∧ Below w.heap.size w w' := by
  have := part_any a l cap 0 j zs w hl (by omega) hj h
  simpa using this

set_option maxHeartbeats 2000000 in
set_option maxRecDepth 100000 in
theorem rPage_ok (b q s : Int) (bk off : Nat) (a' : Option Addr) (n c m c' : Nat) (x y : Int) (zs : List Int) (w : World) (k Ln K0 K1 C : Nat) (X : Int) (hn : n ≤ 140737488355000) (hm : m ≤ 140737488355000) (hE : chkE b q s n m = 0) (hf : Fits b q s = true) (hr : Reads w (some ⟨bk, off, none⟩) n zs)
    (hLn : (Ln : Int) = 256 * s + (54 + 3 * s)) (hC : 256 * s = (C : Int)) (hK0 : k * Ln = K0) (hK1' : (k + 1) * Ln = K1) (hK1 : K1 ≤ n) (hk : k ≤ 65536) (hX : x * q = X) (hXk : X + y = (k : Int)) (hx0 : 0 ≤ x) (hx1 : x < b) (hy0 : 0 ≤ y) (hy1 : y < q) :
    Calls Try.prog 12 #[.agg #[.int .i64 b, .int .i64 q, .int .i64 s, .slice (some ⟨bk, off, none⟩) n c, .slice a' m c'], .agg #[.int .i64 x, .int .i64 y]] w fun e w' => ∃ g1 k1 g2 k2, e = .returned (.tuple #[.agg #[.slice (some ⟨g1, 0, none⟩) C k1, .slice (some ⟨g2, 0, none⟩) (Ln - C) k2], .int .i64 0]) ∧ Reads w' (some ⟨g1, 0, none⟩) C (((zs.drop K0).take Ln).take C) ∧ Reads w' (some ⟨g2, 0, none⟩) (Ln - C) (((zs.drop K0).take Ln).drop C) ∧ Below w.heap.size w w' := by
  obtain ⟨a, ha⟩ : ∃ a : Option Addr, a = some ⟨bk, off, none⟩ := ⟨_, rfl⟩
  have HE : Hid (chkE b q s n m = 0) := hE
  obtain ⟨q1, q2, q3, q4, q5, q6, q7, q8⟩ := fits_all hf
  have hX0 : 0 ≤ X := by rw [← hX]; exact Int.mul_nonneg hx0 (by omega)
  have hX1 : X ≤ 65536 := by omega
  have HLn : Hid ((Ln : Int) = 256 * s + (54 + 3 * s)) := hLn
  have HK0 : Hid (k * Ln = K0) := hK0
  have HK1 : Hid ((k + 1) * Ln = K1) := hK1'
  have hCL : C < Ln := by omega
  have hCp : 0 < C := by omega
  have hLn2 : Ln ≤ 2200 := by omega
  have hrp : ∀ z ∈ (zs.drop K0).take Ln, 0 ≤ z ∧ z ≤ 255 := fun z hz => hr.2.1 z (List.mem_of_mem_drop (List.mem_of_mem_take hz))
  have hpl : ((zs.drop K0).take Ln).length = Ln := by
    have h1 : K0 + Ln = K1 := by rw [← hK0, ← hK1', Nat.add_mul]; omega
    have h2 := hr.1
    simp; omega
  have HRP : Hid _ := hrp
  have HPL : Hid _ := hpl
  have HA : Hid (a = some ⟨bk, off, none⟩) := ha
  have HB : Hid (n ≤ 140737488355000 ∧ m ≤ 140737488355000 ∧ C < Ln ∧ 0 < C ∧ Ln ≤ 2200 ∧ K1 ≤ n ∧ C ≤ Ln ∧ 0 < Ln - C ∧ 0 < Ln ∧ Ln ≤ 140737488355000 ∧ C ≤ Ln) := ⟨hn, hm, hCL, hCp, hLn2, hK1, by omega, by omega, by omega, by omega, by omega⟩
  have HF : Hid (Fits b q s = true) := hf
  clear hE hLn hK0 hK1' hrp hpl hCL hCp hLn2 hK1 q1 q2 q3 q4 q7 q8 hf hn hm
  rw [← ha] at hr ⊢
  have HR : Hid (Reads w a n zs) := hr
  clear ha hr
  go_enter Try.func12, Try.ntmps12
  go_wp2_with (first
    | (go_at_call 9; refine (rcheck_any b q s a a' n c m c' _ HB.out.1 HB.out.2.1).mono ?_; rintro e u1 ⟨rfl, b1⟩; rw [HE.out]; have bw1 := below_trans (((below_alloc w (.cells #[.int .i64 b, .int .i64 q, .int .i64 s, .slice a n c, .slice a' m c'] 27)).alloc (below_alloc w _).size _).alloc (((below_alloc w _).alloc (below_alloc w _).size _)).size _) b1; have g1 := grown_of b1 none; obtain ⟨⟨c0, c1, c2, c3, c4⟩, ⟨d0, d1⟩, ⟨z0, z1⟩, f0⟩ := box572 g1)
    | (go_at_call 25; refine (rpage_any b q s a a' n c m c' zs _ k Ln K0 K1 HB.out.1 q5 q6 (HR.out.below bw1) HLn.out HK0.out HK1.out HB.out.2.2.2.2.2.1 hk).mono ?_; rintro e u2 ⟨v2, rfl, own2, b2⟩
       have bw2 := below_trans bw1 b2
       have g2 := grownBy_trans g1 (grown_of b2 none)
       clear c0 c1 c2 c3 c4 d0 d1 z0 z1 f0
       obtain ⟨⟨c0, c1, c2, c3, c4⟩, ⟨d0, d1⟩, ⟨z0, z1⟩, f0⟩ := box572 g2
       obtain ⟨gp, cp, rfl, _⟩ := own_shape own2 HB.out.2.2.2.2.2.2.2.2.1
       have rd2 : Reads u2 (some ⟨gp, 0, none⟩) Ln ((zs.drop K0).take Ln) := Own.all own2 HRP.out
       clear own2)
    | (go_at_call 26; have bx := b3; refine (part_any (some ⟨gp, 0, none⟩) Ln cp C Ln ((zs.drop K0).take Ln) _ HB.out.2.2.2.2.2.2.2.2.2.1 HB.out.2.2.2.2.2.2.1 (Nat.le_refl _) (rd2.below b3)).mono ?_; rintro e u4 ⟨v4, rfl, own4, b4⟩
       have bw4 := below_trans bw3 b4
       have g4 := grownBy_trans g3 (grown_of b4 none)
       clear c0 c1 c2 c3 c4 d0 d1 z0 z1 f0
       obtain ⟨⟨c0, c1, c2, c3, c4⟩, ⟨d0, d1⟩, ⟨z0, z1⟩, f0⟩ := box572 g4
       obtain ⟨g2', k2, rfl, _⟩ := own_shape own4 HB.out.2.2.2.2.2.2.2.1
       have HO4 : Hid _ := own4
       clear own4)
    | (go_at_call 26; refine (part_front (some ⟨gp, 0, none⟩) Ln cp C ((zs.drop K0).take Ln) _ HB.out.2.2.2.2.2.2.2.2.2.1 HB.out.2.2.2.2.2.2.1 rd2).mono ?_; rintro e u3 ⟨v3, rfl, own3, b3⟩
       have bw3 := below_trans bw2 b3
       have g3 := grownBy_trans g2 (grown_of b3 none)
       clear c0 c1 c2 c3 c4 d0 d1 z0 z1 f0
       obtain ⟨⟨c0, c1, c2, c3, c4⟩, ⟨d0, d1⟩, ⟨z0, z1⟩, f0⟩ := box572 g3
       obtain ⟨g1', k1, rfl, _⟩ := own_shape own3 HB.out.2.2.2.1
       have HO3 : Hid (Own u3 u2.heap.size g1' C k1 (((zs.drop K0).take Ln).take C)) := own3
       clear own3))
  refine bodyPost_ret (v := .tuple #[.agg #[.slice (some ⟨g1', 0, none⟩) C k1, .slice (some ⟨g2', 0, none⟩) (Ln - C) k2], .int .i64 0]) (by simp [results, Try.results12, go_sem, z0, z1]) rfl ?_
  have o3 : Own u3 u2.heap.size g1' C k1 (((zs.drop K0).take Ln).take C) := HO3.out
  have o4 : Own u4 u3.heap.size g2' (Ln - C) k2 (((zs.drop K0).take Ln).drop C) := by
    have := HO4.out
    rw [List.take_of_length_le (by rw [List.length_drop, HPL.out]; exact Nat.le_refl _)] at this
    exact this
  have gs : ∀ (v1 v2 : Value), u4.grownBy ((u4.setCell ⟨w.heap.size + 2, 0, none⟩ v1).setCell ⟨w.heap.size + 2, 1, none⟩ v2) (some (w.heap.size + 2)) := fun v1 v2 => grownBy_trans (set_grown u4 _ 0 v1) (set_grown _ _ 1 v2)
  have s1 : w.heap.size + 3 ≤ u2.heap.size := by have := g2.size; simp at this; omega
  have s2 := b3.size
  have p3 := (Own.below o3 b4).apart (gs (.slice (some ⟨g1', 0, none⟩) C k1) (.slice (some ⟨g2', 0, none⟩) (Ln - C) k2)) (by have := o3.lt; omega)
  have p4 := o4.apart (gs (.slice (some ⟨g1', 0, none⟩) C k1) (.slice (some ⟨g2', 0, none⟩) (Ln - C) k2)) (by have := o4.lt; omega)
  refine ⟨g1', k1, g2', k2, rfl, ?_, ?_, ?_⟩
  · exact p3.all (fun z hz => HRP.out z (List.mem_of_mem_take hz))
  · exact p4.all (fun z hz => HRP.out z (List.mem_of_mem_drop hz))
  · exact bw4.grown (gs _ _) bw4.size (fun k hk => by simp at hk; omega)

end Go.Proofs.Ytnopljjngbgpdaa
