/-
  SEAT Ytadlkikjfonkgaa: a page of one byte: even.
-/
import Derived.Test.YtadlkikjfonkgaaLa
namespace Go.Proofs.Ytadlkikjfonkgaa
open Go.RowKit Go.Conc
set_option linter.unusedVariables false

theorem fitL_one (v : Int) (n : Nat) : fitL [v] n = List.replicate n v := by
  induction n with
  | zero => rfl
  | succ n ih => rw [fitL_succ, ih, List.replicate_succ']; simp [Nat.mod_one]
/-- A page that was made: two rows. -/
structure EvV (w w' : World) (S : Nat) (v : Int) (e : Ending) : Prop where
  ex : ∃ g1 c1 g2 c2, e = .returned (.agg #[.slice (some ⟨g1, 0, none⟩) (256 * S) c1, .slice (some ⟨g2, 0, none⟩) (54 + 3 * S) c2]) ∧ Own w' w.heap.size g1 (256 * S) c1 (List.replicate (256 * S) v) ∧ Own w' w.heap.size g2 (54 + 3 * S) c2 (List.replicate (54 + 3 * S) v)
  bel : Below w.heap.size w w'
theorem reads_one {w : World} {g : Nat} {v : Int} (h : w.heap[g]? = some (.cells #[.int .u8 v] 5 (0, 0))) (hv : 0 ≤ v ∧ v ≤ 255) : Reads w (some ⟨g, 0, none⟩) 1 [v] :=
  ⟨rfl, fun x hx => by simp at hx; rw [hx]; exact hv, (fun h => by cases h), fun x hx i hi => by
    cases hx
    have : i = 0 := by omega
    subst this
    exact cells1 h⟩

theorem own_le {w : World} {B B0 n : Nat} {v : Value} {xs : List Value} (h : w.ownsRow B 5 1 v n xs) (hB : B0 ≤ B) : w.ownsRow B0 5 1 v n xs := by
  obtain ⟨h1, h2⟩ := h
  exact ⟨h1, h2.imp (fun h => h) (fun ⟨g, cap, cur, a1, a2, a3⟩ => ⟨g, cap, cur, a1, Nat.le_trans hB a2, a3⟩)⟩
theorem own_keep4 {w w' : World} {B n : Nat} {v : Value} {xs : List Value} (h : w.ownsRow B 5 1 v n xs) (hb : Below w.heap.size w w') : w'.ownsRow B 5 1 v n xs :=
  owns_keep h (fun g hg => by obtain ⟨cs, hc⟩ := own_tag h hg; exact hb.block g (lt_of_block hc))

set_option maxHeartbeats 4000000 in
set_option maxRecDepth 100000 in
theorem even_any (w : World) (B P S : Nat) (hf : Fits B P S = true) (v : Int) (hv : 0 ≤ v ∧ v ≤ 255) :
    Calls Try.prog 54 #[.agg #[.int .i64 (B : Int), .int .i64 (P : Int), .int .i64 (S : Int)], .int .u8 v] w fun e w' => EvV w w' S v e := by
  have hs := of_decide_eq_true hf
  have s0 : 1 ≤ S := by omega
  have s1 : S ≤ 8 := by omega
  clear hs
  obtain ⟨n1, hn1⟩ : ∃ n1, n1 = 256 * S := ⟨_, rfl⟩
  obtain ⟨n2, hn2⟩ : ∃ n2, n2 = 54 + 3 * S := ⟨_, rfl⟩
  have HN1 : Hid ((256 : Int) * (S : Int) = (n1 : Int)) := by unfold Hid; omega
  have HN2 : Hid ((54 : Int) + 3 * (S : Int) = (n2 : Int)) := by unfold Hid; omega
  have HE := hide (And.intro hn1 hn2)
  have p1 : 0 < n1 := by omega
  have p2 : 0 < n2 := by omega
  have l1 : n1 ≤ 1000000 := by omega
  have l2 : n2 ≤ 1000000 := by omega
  clear hn1 hn2
  obtain ⟨u0, hu0⟩ : ∃ u, u = (w.alloc (.cells #[.int .i64 (B : Int), .int .i64 (P : Int), .int .i64 (S : Int)] 23)).alloc (.cells #[.slice none 0 0, .slice none 0 0] 36) := ⟨_, rfl⟩
  have HB0 : Hid (Below w.heap.size w u0) := by rw [hu0]; exact below_trans (below_alloc _ _) (below_alloc _ _)
  have HG0 : Hid (u0.heap[w.heap.size]? = some (.cells #[.int .i64 (B : Int), .int .i64 (P : Int), .int .i64 (S : Int)] 23 (0, 0))) := by rw [hu0]; exact (alloc_old _ _ (by simp)).trans (alloc_new w _)
  have HX0 : Hid (u0.heap[w.heap.size + 1]? = some (.cells #[.slice none 0 0, .slice none 0 0] 36 (0, 0))) := by rw [hu0]; have h2 := alloc_new (w.alloc (.cells #[.int .i64 (B : Int), .int .i64 (P : Int), .int .i64 (S : Int)] 23)) (.cells #[.slice none 0 0, .slice none 0 0] 36); rw [alloc_size] at h2; exact h2
  go_enter Try.func54, Try.ntmps54
  go_wp2_with (first
    | (go_at_call 42; rw [← hu0]; refine (rSpare_any _ (B : Int) (P : Int) (S : Int) hf).mono ?_; rintro e u1 ⟨rfl, b1⟩; rw [HN2.out]; have HB1 := hide (below_trans HB0.out b1); have hg1 := (b1.block _ (lt_of_block HG0.out)).trans HG0.out; have HX1 := hide ((b1.block _ (lt_of_block HX0.out)).trans HX0.out); obtain ⟨k0, k1, k2⟩ := cells3 hg1; have hlt1 := lt_of_block hg1; clear b1 hg1)
    | (go_at_call 44; refine (rdata_any (B : Int) (P : Int) (S : Int) _ (by omega) (by omega)).mono ?_; rintro e u2 ⟨rfl, b2⟩; rw [HN1.out]; have HR2 := hide ((reads_one (alloc_new u1 (.cells #[.int .u8 v] 5)) hv).below b2); have HB2 := hide (below_trans (below_trans HB1.out (below_alloc u1 (.cells #[.int .u8 v] 5))) b2); have HX2 := hide ((b2.block _ (by have h9 := lt_of_block HX1.out; simp; omega)).trans ((alloc_old u1 (.cells #[.int .u8 v] 5) (lt_of_block HX1.out)).trans HX1.out)); clear b2 k0 k1 k2 hlt1)
    | (go_at_call 43; refine (fit_any _ 1 1 [v] _ (reads_one (alloc_new u3 (.cells #[.int .u8 v] 5)) hv) (by omega) n2 l2).mono ?_; rintro e u4 ⟨vb, rfl, o2, b4⟩; obtain ⟨g2, c2, rfl, _⟩ := own_shape o2 p2; have HB4 := hide (below_trans (below_trans HB3.out (below_alloc u3 (.cells #[.int .u8 v] 5))) b4); have HO2 := hide (own_le (B0 := w.heap.size) o2 (by simp; have := HB3.out.size; omega)); have hx4 := (b4.block _ (by have h9 := lt_of_block HX3.out; simp; omega)).trans ((alloc_old u3 (.cells #[.int .u8 v] 5) (lt_of_block HX3.out)).trans HX3.out); have HX4 := hide hx4; have HO1b := hide (own_keep4 HO1.out (below_trans (below_alloc u3 (.cells #[.int .u8 v] 5)) b4)); obtain ⟨y0, y1⟩ := cells2 hx4; have fz := fun j => frozen_of_row u4 (w.heap.size + 1) j _ 36 hx4; clear b4 o2 hx4)
    | (go_at_call 43; refine (fit_any _ 1 1 [v] _ HR2.out (by omega) n1 l1).mono ?_; rintro e u3 ⟨va, rfl, o1, b3⟩; obtain ⟨g1, c1, rfl, _⟩ := own_shape o1 p1; have HB3 := hide (below_trans HB2.out b3); have HO1 := hide (own_le o1 HB2.out.size); have HX3 := hide ((b3.block _ (lt_of_block HX2.out)).trans HX2.out); clear b3 o1))
  have x5 := heap_setCell_same (u4.setCell ⟨w.heap.size + 1, 0, none⟩ (.slice (some ⟨g1, 0, none⟩) n1 c1)) (w.heap.size + 1) 1 #[.slice (some ⟨g1, 0, none⟩) n1 c1, .slice none 0 0] 36 (.slice (some ⟨g2, 0, none⟩) n2 c2) (heap_setCell_same u4 (w.heap.size + 1) 0 #[.slice none 0 0, .slice none 0 0] 36 (.slice (some ⟨g1, 0, none⟩) n1 c1) HX4.out)
  have o5 := (Only.setCell (· = w.heap.size + 1) u4 (w.heap.size + 1) 0 (.slice (some ⟨g1, 0, none⟩) n1 c1) rfl).trans' (Only.setCell (· = w.heap.size + 1) _ (w.heap.size + 1) 1 (.slice (some ⟨g2, 0, none⟩) n2 c2) rfl)
  generalize hz : World.setCell _ ⟨w.heap.size + 1, 1, none⟩ _ = z at x5 o5 ⊢
  clear hz y0 y1 fz
  obtain ⟨y0, y1⟩ := cells2 x5
  refine bodyPost_ret (v := .agg #[.slice (some ⟨g1, 0, none⟩) n1 c1, .slice (some ⟨g2, 0, none⟩) n2 c2]) (by simp [results, Try.results54, go_sem, y0, y1]) rfl ?_
  have kp : ∀ {g n c : Nat} {xs : List Value}, u4.ownsRow w.heap.size 5 1 (.slice (some ⟨g, 0, none⟩) n c) n xs → z.ownsRow w.heap.size 5 1 (.slice (some ⟨g, 0, none⟩) n c) n xs := fun h => owns_keep h (fun k hk => by
    obtain ⟨cs, hc⟩ := own_tag h hk
    exact o5.block k (lt_of_block hc) (tag_ne hc HX4.out (t := 5) (u := 36) rfl rfl (by decide)))
  have q1 := kp HO1b.out
  have q2 := kp HO2.out
  rw [fitL_one] at q1 q2
  obtain ⟨e1, e2⟩ := HE.out
  subst e1 e2
  exact ⟨⟨g1, c1, g2, c2, rfl, q1, q2⟩, ((Only.ofB (F := fun k => w.heap.size ≤ k) HB4.out).trans o5 (fun k _ e => by omega)).below (fun _ h => h) (Nat.le_refl _)⟩
end Go.Proofs.Ytadlkikjfonkgaa
