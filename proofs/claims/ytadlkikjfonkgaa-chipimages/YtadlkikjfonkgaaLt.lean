/-
  SEAT Ytadlkikjfonkgaa: full.
-/
import Derived.Test.YtadlkikjfonkgaaLs
import Derived.Test.YtadlkikjfonkgaaLr
namespace Go.Proofs.Ytadlkikjfonkgaa
open Go.RowKit Go.Conc
set_option linter.unusedVariables false

theorem rSpare_no (w : World) (b p s : Int) (hf : Fits b p s = false) : Calls Try.prog 42 #[.agg #[.int .i64 b, .int .i64 p, .int .i64 s]] w fun e w' => e = .returned (.tuple #[.int .i64 0, .int .i64 40]) ∧ Below w.heap.size w w' := by
  have HB0 := hide (below_alloc w (.cells #[.int .i64 b, .int .i64 p, .int .i64 s] 23))
  go_enter Try.func42, Try.ntmps42
  go_wp2_with (first | (go_at_call 31; refine (shape_any b p s _).mono ?_; rintro e u1 ⟨rfl, b1⟩; rw [hf]; have HB1 := hide (below_trans HB0.out b1); clear b1))
  refine bodyPost_ret (v := .tuple #[.int .i64 0, .int .i64 40]) (by simp [results, Try.results42, go_sem]) rfl ⟨rfl, ?_⟩
  exact HB1.out
/-- The three boxes of full. -/
structure FB (w u : World) (B P S : Int) (v3 v4 : Value) : Prop where
  bel : Below w.heap.size w u
  bg : u.heap[w.heap.size]? = some (.cells #[.int .i64 B, .int .i64 P, .int .i64 S] 23 (0, 0))
  br : u.heap[w.heap.size + 1]? = some (.cells #[.int .i64 0, .int .i64 0, .int .i64 0, .slice none 0 0, .slice none 0 0] 27 (0, 0))
  bm : u.heap[w.heap.size + 2]? = some (.cells #[.int .i64 B, .int .i64 P, .int .i64 S, v3, v4] 27 (0, 0))
theorem FB.keep {w u v : World} {B P S : Int} {v3 v4 : Value} (h : FB w u B P S v3 v4) (hb : Below u.heap.size u v) : FB w v B P S v3 v4 :=
  ⟨below_trans h.bel hb, (hb.block _ (lt_of_block h.bg)).trans h.bg, (hb.block _ (lt_of_block h.br)).trans h.br, (hb.block _ (lt_of_block h.bm)).trans h.bm⟩
theorem FB.start (w : World) (B P S : Int) : FB w (((w.alloc (.cells #[.int .i64 B, .int .i64 P, .int .i64 S] 23)).alloc (.cells #[.int .i64 0, .int .i64 0, .int .i64 0, .slice none 0 0, .slice none 0 0] 27)).alloc (.cells #[.int .i64 B, .int .i64 P, .int .i64 S, .slice none 0 0, .slice none 0 0] 27)) B P S (.slice none 0 0) (.slice none 0 0) := by
  refine ⟨below_trans (below_trans (below_alloc _ _) (below_alloc _ _)) (below_alloc _ _), ?_, ?_, ?_⟩
  · exact (alloc_old _ _ (by simp; omega)).trans ((alloc_old _ _ (by simp)).trans (alloc_new w _))
  · refine (alloc_old _ _ (by simp)).trans ?_
    have h9 := alloc_new (w.alloc (.cells #[.int .i64 B, .int .i64 P, .int .i64 S] 23)) (.cells #[.int .i64 0, .int .i64 0, .int .i64 0, .slice none 0 0, .slice none 0 0] 27)
    rw [alloc_size] at h9
    exact h9
  · have h9 := alloc_new ((w.alloc (.cells #[.int .i64 B, .int .i64 P, .int .i64 S] 23)).alloc (.cells #[.int .i64 0, .int .i64 0, .int .i64 0, .slice none 0 0, .slice none 0 0] 27)) (.cells #[.int .i64 B, .int .i64 P, .int .i64 S, .slice none 0 0, .slice none 0 0] 27)
    rw [alloc_size, alloc_size] at h9
    exact h9
set_option maxHeartbeats 4000000 in
theorem full_no (w : World) (B P S : Int) (hf : (Fits B P S && decide (B * P ≤ 128)) = false) (a : Option Addr) (len cap : Nat) (ma : Option Addr) (mn mc : Nat) :
    Calls Try.prog 9 #[.agg #[.int .i64 B, .int .i64 P, .int .i64 S], .slice a len cap, .slice ma mn mc] w fun e w' => e = .returned (.agg #[.int .i64 B, .int .i64 P, .int .i64 S, .slice none 0 0, .slice none 0 0]) ∧ Below w.heap.size w w' := by
  have H0 := hide (FB.start w B P S)
  cases h1 : Fits B P S with
  | false =>
    clear hf
    go_enter Try.func9, Try.ntmps9
    go_wp2_with (first | (go_at_call 42; refine (rSpare_no _ B P S h1).mono ?_; rintro e u1 ⟨rfl, b1⟩; have H1 := hide (H0.out.keep b1); obtain ⟨x0, x1, x2, x3, x4⟩ := cells5 H1.out.bm; obtain ⟨y0, y1, y2, y3, y4⟩ := cells5 H1.out.br; have fz := fun j => frozen_of_row u1 (w.heap.size + 1) j _ 27 H1.out.br; clear b1))
    have hs := set50 H1.out.br (.int .i64 B) (.int .i64 P) (.int .i64 S) (.slice none 0 0) (.slice none 0 0)
    have ho := only50 u1 (w.heap.size + 1) (.int .i64 B) (.int .i64 P) (.int .i64 S) (.slice none 0 0) (.slice none 0 0)
    generalize hT : World.setCell _ ⟨w.heap.size + 1, 4, none⟩ _ = v9 at hs ho ⊢
    clear x0 x1 x2 x3 x4 y0 y1 y2 y3 y4 fz
    obtain ⟨y0, y1, y2, y3, y4⟩ := cells5 hs
    refine bodyPost_ret (v := .agg #[.int .i64 B, .int .i64 P, .int .i64 S, .slice none 0 0, .slice none 0 0]) (by simp [results, Try.results9, go_sem, y0, y1, y2, y3, y4]) rfl ⟨rfl, ?_⟩
    exact H1.out.bel.trans (ho.below (fun j hj => by omega) H1.out.bel.size)
  | true =>
    rw [h1] at hf
    have hf2 : (Fits B P S && decide (B * P ≤ 128)) = false := by rw [h1]; exact hf
    clear hf
    go_enter Try.func9, Try.ntmps9
    go_wp2_with (first | (go_at_call 42; refine (rSpare_any _ B P S h1).mono ?_; rintro e u0 ⟨rfl, b0⟩; have H1 := hide (H0.out.keep b0); obtain ⟨z0, z1, z2⟩ := cells3 H1.out.bg; clear b0) | (go_at_call 32; refine (few_any B P S _).mono ?_; rintro e u1 ⟨rfl, b1⟩; rw [hf2]; have H2 := hide (H1.out.keep b1); obtain ⟨x0, x1, x2, x3, x4⟩ := cells5 H2.out.bm; obtain ⟨y0, y1, y2, y3, y4⟩ := cells5 H2.out.br; have fz := fun j => frozen_of_row u1 (w.heap.size + 1) j _ 27 H2.out.br; clear b1 z0 z1 z2))
    have hs := set50 H2.out.br (.int .i64 B) (.int .i64 P) (.int .i64 S) (.slice none 0 0) (.slice none 0 0)
    have ho := only50 u1 (w.heap.size + 1) (.int .i64 B) (.int .i64 P) (.int .i64 S) (.slice none 0 0) (.slice none 0 0)
    generalize hT : World.setCell _ ⟨w.heap.size + 1, 4, none⟩ _ = v9 at hs ho ⊢
    clear x0 x1 x2 x3 x4 y0 y1 y2 y3 y4 fz
    obtain ⟨y0, y1, y2, y3, y4⟩ := cells5 hs
    refine bodyPost_ret (v := .agg #[.int .i64 B, .int .i64 P, .int .i64 S, .slice none 0 0, .slice none 0 0]) (by simp [results, Try.results9, go_sem, y0, y1, y2, y3, y4]) rfl ⟨rfl, ?_⟩
    exact H2.out.bel.trans (ho.below (fun j hj => by omega) H2.out.bel.size)
def marksL (ms : List Bool) (m : Nat) : List Bool := (List.range m).map (fun i => ms.getD i false)
theorem marksL_succ (ms : List Bool) (m : Nat) : marksL ms (m + 1) = marksL ms m ++ [ms.getD m false] := by
  unfold marksL
  rw [List.range_succ, List.map_append]
  rfl
/-- What stands while full goes on. -/
structure FU (w u : World) (B P S : Nat) (gc n cc : Nat) (zs : List Int) (vm : Value) (ms : List Bool) (m : Nat) : Prop where
  fb : FB w u B P S (.slice (some ⟨gc, 0, none⟩) n cc) vm
  oc : Own u (w.heap.size + 3) gc n cc zs
  om : u.ownsRow (w.heap.size + 3) 4 1 vm m ((marksL ms m).map Value.bool)
theorem FU.start {w u : World} {B P S gc n cc : Nat} {zs : List Int} {ms : List Bool} (h : FB w u B P S (.slice none 0 0) (.slice none 0 0)) (ho : Own u (w.heap.size + 3) gc n cc zs) : FU w (u.setCell ⟨w.heap.size + 2, 3, none⟩ (.slice (some ⟨gc, 0, none⟩) n cc)) B P S gc n cc zs (.slice none 0 0) ms 0 := by
  have o1 := Only.setCell (· = w.heap.size + 2) u (w.heap.size + 2) 3 (.slice (some ⟨gc, 0, none⟩) n cc) rfl
  refine ⟨⟨h.bel.trans (o1.below (fun j hj => by omega) h.bel.size), (o1.block _ (lt_of_block h.bg) (by omega)).trans h.bg, (o1.block _ (lt_of_block h.br) (by omega)).trans h.br, heap_setCell_same u _ 3 _ 27 _ h.bm⟩, ?_, World.ownsRow_nil _ _ _ _⟩
  exact owns_keep ho (fun g hg => by cases hg; exact o1.block gc ho.lt.2 (by have := ho.lt.1; omega))
theorem own_in {w u : World} {v : Value} {B n e : Nat} {xs : List Value} (h : u.ownsRow B e 1 v n xs) {g : Nat} (hg : v.ownBlock = some g) : B ≤ g := by
  rcases h.2 with ⟨hv, _⟩ | ⟨g', cap, cur, hv, hb, _⟩
  · rw [hv] at hg; cases hg
  · rw [hv] at hg; cases hg; exact hb
theorem FU.app1 {w u w1 : World} {B P S gc n cc : Nat} {zs : List Int} {vm : Value} {ms : List Bool} {m : Nat} {o : Obj} (h : FU w u B P S gc n cc zs vm ms m) (hg : (u.drew.alloc o).grownBy w1 vm.ownBlock) : w1.heap[w.heap.size + 2]? = some (.cells #[.int .i64 (B : Int), .int .i64 (P : Int), .int .i64 (S : Int), .slice (some ⟨gc, 0, none⟩) n cc, vm] 27 (0, 0)) := by
  have hl := lt_of_block h.fb.bm
  exact (hg.block _ (by simp; omega) (fun e => by have := own_in (w := w) h.om e.symm; omega)).trans ((alloc_old _ _ hl).trans h.fb.bm)
theorem FU.app2 {w u w1 : World} {B P S gc n cc : Nat} {zs : List Int} {vm : Value} {ms : List Bool} {m : Nat} {o : Obj} (h : FU w u B P S gc n cc zs vm ms m) (hg : (u.drew.alloc o).grownBy w1 vm.ownBlock) {g j : Nat} {v : Value} (hc : (u.drew.alloc o).cell? ⟨g, j, none⟩ = some v) (hl : g < w.heap.size) : w1.cell? ⟨g, j, none⟩ = some v :=
  hg.cell hc (fun e => by have := own_in (w := w) (g := g) h.om e.symm; omega)
theorem FU.app {w u w1 : World} {B P S gc n cc : Nat} {zs : List Int} {vm v1 : Value} {ms : List Bool} {m : Nat} {o : Obj} {mv : Bool} (h : FU w u B P S gc n cc zs vm ms m) (ho : w1.ownsRow (w.heap.size + 3) 4 1 v1 (m + 1) ((marksL ms m).map Value.bool ++ [.bool mv])) (hg : (u.drew.alloc o).grownBy w1 vm.ownBlock) (hm : mv = ms.getD m false) :
    FU w (w1.setCell ⟨w.heap.size + 2, 4, none⟩ v1) B P S gc n cc zs v1 ms (m + 1) := by
  have hx1 := h.app1 hg
  have hl := lt_of_block h.fb.bm
  have o0 : Only (fun k => w.heap.size + 2 ≤ k) u w1 := (Only.ofB (below_trans (drew_below u) (below_alloc _ o))).trans (Only.ofG (F := fun k => w.heap.size + 2 ≤ k) hg (fun j hj => by have := own_in (w := w) h.om hj; omega)) (fun _ _ h => h)
  have o1 := o0.trans' (Only.setCell (fun k => w.heap.size + 2 ≤ k) w1 (w.heap.size + 2) 4 v1 (Nat.le_refl _))
  have o2 := Only.setCell (· = w.heap.size + 2) w1 (w.heap.size + 2) 4 v1 rfl
  have kk : ∀ {e size k : Nat} {v : Value} {xs : List Value}, w1.ownsRow (w.heap.size + 3) e size v k xs → (w1.setCell ⟨w.heap.size + 2, 4, none⟩ v1).ownsRow (w.heap.size + 3) e size v k xs := fun hh => by
    refine owns_keep hh (fun g hg => ?_)
    rcases hh.2 with ⟨hv, _⟩ | ⟨g', cap, cur, hv, hb, hc, _⟩
    · rw [hv] at hg; cases hg
    · rw [hv] at hg
      cases hg
      exact o2.block g' (lt_of_block hc) (by omega)
  refine ⟨⟨h.fb.bel.trans (o1.below (fun j hj => by omega) h.fb.bel.size), (o1.block _ (lt_of_block h.fb.bg) (by omega)).trans h.fb.bg, (o1.block _ (lt_of_block h.fb.br) (by omega)).trans h.fb.br, heap_setCell_same w1 _ 4 _ 27 _ hx1⟩, ?_, ?_⟩
  · have hoc : Own w1 (w.heap.size + 3) gc n cc zs := by
      have h5 : Own (u.drew.alloc o) (w.heap.size + 3) gc n cc zs := h.oc.below (below_trans (drew_below u) (below_alloc _ o))
      refine owns_keep h5 (fun g hg' => ?_)
      obtain ⟨cs, hc⟩ := own_tag h5 hg'
      refine hg.block g (lt_of_block hc) (fun e => ?_)
      obtain ⟨cs2, hc2⟩ := own_tag h.om e.symm
      have hc3 : (u.drew.alloc o).heap[g]? = some (.cells cs2 4 (0, 0)) := (alloc_old _ _ (lt_of_block hc2)).trans hc2
      exact tag_ne hc hc3 (t := 5) (u := 4) rfl rfl (by decide) rfl
    exact kk hoc
  · rw [marksL_succ, List.map_append, ← hm]
    exact kk ho
theorem news_bool (w : World) (z : Bool) : ∀ j u, [Value.bool z][j]? = some u → (w.drew.alloc (.cells #[.bool z] 4)).cell? ((⟨w.heap.size, 0, none⟩ : Addr).add j) = some u := by
  intro j u hj
  cases j with
  | succ j => simp at hj
  | zero =>
  simp at hj
  subst hj
  have h9 := cells1 (alloc_new w.drew (.cells #[.bool z] 4))
  rw [plain_add]
  exact h9
theorem alloc_cell {w : World} {g j : Nat} {v : Value} (o : Obj) (h : w.cell? ⟨g, j, none⟩ = some v) : (w.drew.alloc o).cell? ⟨g, j, none⟩ = some v := ((below_trans (drew_below w) (below_alloc _ o)).cell (block_lt_of_cell h)).trans h

set_option maxHeartbeats 4000000 in
set_option maxRecDepth 100000 in
theorem full_yes (w : World) (B P S : Nat) (hf : Fits B P S = true) (h128 : B * P ≤ 128) (a : Option Addr) (len cap : Nat) (b : List Int) (hR : Reads w a len b) (hl : len ≤ 9223372036854775807) (ma : Option Addr) (mn mc : Nat) (ms : List Bool) (hM : ReadsB w ma mn ms) (hmn : mn ≤ 9223372036854775807) :
    Calls Try.prog 9 #[.agg #[.int .i64 (B : Int), .int .i64 (P : Int), .int .i64 (S : Int)], .slice a len cap, .slice ma mn mc] w fun e w' => ∃ gc cc vm, e = .returned (.agg #[.int .i64 (B : Int), .int .i64 (P : Int), .int .i64 (S : Int), .slice (some ⟨gc, 0, none⟩) (B * P * pgB S) cc, vm]) ∧ Own w' w.heap.size gc (B * P * pgB S) cc (fitL b (B * P * pgB S)) ∧ w'.ownsRow w.heap.size 4 1 vm B ((marksL ms B).map Value.bool) ∧ Below w.heap.size w w' := by
  have hFB := of_decide_eq_true hf
  have hS : 1 ≤ S ∧ S ≤ 8 := by omega
  have hB4 : B ≤ 4096 := by omega
  have hB8 : 8 ≤ B := by omega
  have hP4 : 4 ≤ P := by omega
  obtain ⟨n1, hn1⟩ : ∃ n1, n1 = 256 * S := ⟨_, rfl⟩
  obtain ⟨n2, hn2⟩ : ∃ n2, n2 = 54 + 3 * S := ⟨_, rfl⟩
  obtain ⟨l0, hl0e⟩ : ∃ l, l = pgB S := ⟨_, rfl⟩
  obtain ⟨m0, hm0e⟩ : ∃ l, l = B * P := ⟨_, rfl⟩
  obtain ⟨n0, hn0e⟩ : ∃ l, l = m0 * l0 := ⟨_, rfl⟩
  have hl12 : n1 + n2 = l0 := by rw [hn1, hn2, hl0e]; rfl
  have hl0 : l0 ≤ 2126 := by rw [hl0e]; exact pgB_le hS.2
  have hm0 : m0 ≤ 128 := by omega
  have hn0 : n0 ≤ 272128 := by rw [hn0e]; exact Nat.le_trans (Nat.mul_le_mul hm0 hl0) (by decide)
  have hn0p : 0 < n0 := by
    rw [hn0e]
    refine Nat.mul_pos ?_ ?_
    · rw [hm0e]; exact Nat.mul_pos (by omega) (by omega)
    · omega
  have HN1 : Hid ((256 : Int) * (S : Int) = (n1 : Int)) := by unfold Hid; omega
  have HN2 : Hid ((54 : Int) + 3 * (S : Int) = (n2 : Int)) := by unfold Hid; omega
  have HM0 : Hid (IntKind.i64.wrap ((B : Int) * (P : Int)) = (m0 : Int)) := by unfold Hid; rw [hm0e] at *; rw [← Int.natCast_mul]; simp only [IntKind.wrap_i64]; omega
  have HL0 : Hid (IntKind.i64.wrap ((n1 : Int) + (n2 : Int)) = (l0 : Int)) := by unfold Hid; simp only [IntKind.wrap_i64]; omega
  have HN0 : Hid (IntKind.i64.wrap ((m0 : Int) * (l0 : Int)) = (n0 : Int)) := by unfold Hid; rw [← Int.natCast_mul, ← hn0e]; simp only [IntKind.wrap_i64]; omega
  have HEE : Hid (B * P * pgB S = n0) := by unfold Hid; rw [hn0e, hm0e, hl0e]
  rw [HEE.out]
  have hfew : (Fits (B : Int) (P : Int) (S : Int) && decide ((B : Int) * (P : Int) ≤ 128)) = true := by
    rw [hf, ← Int.natCast_mul]
    simp
    omega
  have hSi : (1 : Int) ≤ (S : Int) ∧ (S : Int) ≤ 8 := by omega
  have HR := hide hR
  have HM := hide hM
  have H0 := hide (FB.start w B P S)
  obtain ⟨j0, kj, kz0, kz1, kz2⟩ := info_parts info4
  clear hFB hR hM hn1 hn2 hl0e hm0e hn0e
  go_enter Try.func9, Try.ntmps9
  go_upto_region 5 with (first | (go_at_call 42; refine (rSpare_any _ B P S hf).mono ?_; rintro e u0 ⟨rfl, b0⟩; rw [HN2.out]; have H1 := hide (H0.out.keep b0); obtain ⟨z0, z1, z2⟩ := cells3 H1.out.bg; clear b0) | (go_at_call 32; refine (few_any B P S _).mono ?_; rintro e u1 ⟨rfl, b1⟩; rw [hfew]; have H2 := hide (H1.out.keep b1); clear b1 z0 z1 z2))
  refine wp_region_held_drew (S := (fun u => u.cell? ⟨w.heap.size, 0, none⟩ = some (.int .i64 (B : Int)) ∧ u.cell? ⟨w.heap.size, 1, none⟩ = some (.int .i64 (P : Int)) ∧ u.cell? ⟨w.heap.size, 2, none⟩ = some (.int .i64 (S : Int)))) (by kernel_rfl) (cells3 H2.out.bg) (fun hHeld => ?_)
  refine wpAnyH_take (i := 0) (oi := { dst := some 26, op := Op.move (Operand.tmp 1), type := 24, pos := "law.go:279", after := #[], guard := none }) (v := ?v0f) rfl (by kernel_rfl) (by kernel_rfl) (by kernel_rfl) (fun _ _ _ h => h) (Or.inl ⟨by rfl, ?y0f⟩) (by assumption) ?r0f
  case y0f => (intro x hx; (try dsimp only at hx); go_simp; try with_reducible rfl)
  try simp only [Act.put, List.setIfInBounds_toArray, List.set_cons_zero, List.set_cons_succ]
  refine wpAnyH_take (i := 1) (oi := { dst := some 27, op := Op.fieldAddr 23 (Operand.tmp 3) 0, type := 0, pos := "law.go:279", after := #[], guard := none }) (v := ?v1f) rfl (by kernel_rfl) (by kernel_rfl) (by kernel_rfl) (fun _ _ _ h => h) (Or.inl ⟨by rfl, ?y1f⟩) (by assumption) ?r1f
  case y1f => (intro x hx; (try dsimp only at hx); go_simp; try with_reducible rfl)
  try simp only [Act.put, List.setIfInBounds_toArray, List.set_cons_zero, List.set_cons_succ]
  refine wpAnyH_take (i := 2) (oi := { dst := some 28, op := Op.load 3 (Operand.tmp 27), type := 3, pos := "law.go:279", after := #[{ on := 1, ground := Ground.data }], guard := none }) (v := ?v2f) rfl (by kernel_rfl) (by kernel_rfl) (by kernel_rfl) (fun _ _ _ h => h) (Or.inl ⟨by rfl, ?y2f⟩) (by assumption) ?r2f
  case y2f => (intro x hx; (try dsimp only at hx); go_simp; try with_reducible rfl)
  try simp only [Act.put, List.setIfInBounds_toArray, List.set_cons_zero, List.set_cons_succ]
  refine wpAnyH_take (i := 3) (oi := { dst := some 29, op := Op.fieldAddr 23 (Operand.tmp 3) 1, type := 0, pos := "law.go:279", after := #[], guard := none }) (v := ?v3f) rfl (by kernel_rfl) (by kernel_rfl) (by kernel_rfl) (fun _ _ _ h => h) (Or.inl ⟨by rfl, ?y3f⟩) (by assumption) ?r3f
  case y3f => (intro x hx; (try dsimp only at hx); go_simp; try with_reducible rfl)
  try simp only [Act.put, List.setIfInBounds_toArray, List.set_cons_zero, List.set_cons_succ]
  refine wpAnyH_take (i := 4) (oi := { dst := some 30, op := Op.load 3 (Operand.tmp 29), type := 3, pos := "law.go:279", after := #[{ on := 3, ground := Ground.data }], guard := none }) (v := ?v4f) rfl (by kernel_rfl) (by kernel_rfl) (by kernel_rfl) (fun _ _ _ h => h) (Or.inl ⟨by rfl, ?y4f⟩) (by assumption) ?r4f
  case y4f => (intro x hx; (try dsimp only at hx); go_simp; try with_reducible rfl)
  try simp only [Act.put, List.setIfInBounds_toArray, List.set_cons_zero, List.set_cons_succ]
  refine wpAnyH_take (i := 5) (oi := { dst := some 31, op := Op.binOp BinOp.mul 3 (Operand.tmp 28) (Operand.tmp 30) 3, type := 3, pos := "law.go:279", after := #[{ on := 2, ground := Ground.data }, { on := 4, ground := Ground.data }], guard := none }) (v := ?v5f) rfl (by kernel_rfl) (by kernel_rfl) (by kernel_rfl) (fun _ _ _ h => h) (Or.inl ⟨by rfl, ?y5f⟩) (by assumption) ?r5f
  case y5f => (intro x hx; (try dsimp only at hx); go_simp; try with_reducible rfl)
  try simp only [Act.put, List.setIfInBounds_toArray, List.set_cons_zero, List.set_cons_succ]
  rw [HM0.out]
  refine wpAnyH_take (i := 6) (oi := { dst := some 32, op := Op.load 23 (Operand.tmp 3), type := 23, pos := "law.go:279", after := #[], guard := none }) (v := ?v6f) rfl (by kernel_rfl) (by kernel_rfl) (by kernel_rfl) (fun _ _ _ h => h) (Or.inl ⟨by rfl, ?y6f⟩) (by assumption) ?r6f
  case y6f => (intro x hx; (try dsimp only at hx); go_simp; try with_reducible rfl)
  try simp only [Act.put, List.setIfInBounds_toArray, List.set_cons_zero, List.set_cons_succ]
  refine wpAnyH_take (i := 8) (oi := { dst := some 34, op := Op.move (Operand.tmp 8), type := 3, pos := "law.go:279", after := #[], guard := none }) (v := ?v8f) rfl (by kernel_rfl) (by kernel_rfl) (by kernel_rfl) (fun _ _ _ h => h) (Or.inl ⟨by rfl, ?y8f⟩) (by assumption) ?r8f
  case y8f => (intro x hx; (try dsimp only at hx); go_simp; try with_reducible rfl)
  try simp only [Act.put, List.setIfInBounds_toArray, List.set_cons_zero, List.set_cons_succ]
  refine wpAnyH_ready (rs := [7]) (by kernel_rfl) (by simp) ?_
  refine AllReadyH.cons (o := { dst := some 33, op := Op.call { callee := Callee.value (Operand.func 44), args := #[Operand.tmp 32], argTypes := #[23] }, type := 3, pos := "law.go:279", after := #[{ on := 6, ground := Ground.data }], guard := none }) rfl (fun K hK => ?_) AllReadyH.nil
  go_simp
  go_at_call 44
  refine (rdata_any _ _ _ _ (by omega) (by omega)).mono ?_
  rintro e u3 ⟨rfl, b3⟩
  rw [HN1.out]
  have H3 := hide (H2.out.keep (below_trans (drew_below _) b3))
  have hSnew := cells3 H3.out.bg
  clear b3
  go_wp2_with fail
  refine hK.out _ _ hSnew (fun hHeld7 => ?_)
  clear hK K hSnew
  clear hHeld
  have hHeld := hHeld7
  clear hHeld7
  try simp only [Act.put, List.setIfInBounds_toArray, List.set_cons_zero, List.set_cons_succ]
  refine wpAnyH_take (i := 9) (oi := { dst := some 35, op := Op.binOp BinOp.add 3 (Operand.tmp 33) (Operand.tmp 34) 3, type := 3, pos := "law.go:279", after := #[{ on := 7, ground := Ground.data }, { on := 8, ground := Ground.data }], guard := none }) (v := ?v9f) rfl (by kernel_rfl) (by kernel_rfl) (by kernel_rfl) (fun _ _ _ h => h) (Or.inl ⟨by rfl, ?y9f⟩) (by assumption) ?r9f
  case y9f => (intro x hx; (try dsimp only at hx); go_simp; try with_reducible rfl)
  try simp only [Act.put, List.setIfInBounds_toArray, List.set_cons_zero, List.set_cons_succ]
  rw [HL0.out]
  refine wpAnyH_take (i := 10) (oi := { dst := some 36, op := Op.binOp BinOp.mul 3 (Operand.tmp 31) (Operand.tmp 35) 3, type := 3, pos := "law.go:279", after := #[{ on := 5, ground := Ground.data }, { on := 9, ground := Ground.data }], guard := none }) (v := ?v10f) rfl (by kernel_rfl) (by kernel_rfl) (by kernel_rfl) (fun _ _ _ h => h) (Or.inl ⟨by rfl, ?y10f⟩) (by assumption) ?r10f
  case y10f => (intro x hx; (try dsimp only at hx); go_simp; try with_reducible rfl)
  try simp only [Act.put, List.setIfInBounds_toArray, List.set_cons_zero, List.set_cons_succ]
  rw [HN0.out]
  refine wpAnyH_ready (rs := [11]) (by kernel_rfl) (by simp) ?_
  refine AllReadyH.cons (o := { dst := some 37, op := Op.call { callee := Callee.value (Operand.func 43), args := #[Operand.tmp 26, Operand.tmp 36], argTypes := #[24, 3] }, type := 24, pos := "law.go:279", after := #[{ on := 0, ground := Ground.data }, { on := 10, ground := Ground.data }, { on := 7, ground := Ground.chain }], guard := none }) rfl (fun K hK => ?_) AllReadyH.nil
  go_simp
  go_at_call 43
  refine (fit_any a len cap b _ (HR.out.below H3.out.bel) hl n0 (by omega)).mono ?_
  rintro e u4 ⟨v4, rfl, ow4, b4⟩
  obtain ⟨gc, cc, rfl, le4, _⟩ := own_shape ow4 hn0p
  have H4 := hide (H3.out.keep b4)
  have HO4 := hide (own_base (B' := w.heap.size + 3) ow4 (lt_of_block H3.out.bm))
  have hSnew := cells3 H4.out.bg
  obtain ⟨x0, x1, x2, x3, x4⟩ := cells5 H4.out.bm
  have fz4 := fun j => frozen_of_row u4 (w.heap.size + 2) j _ 27 H4.out.bm
  clear b4 ow4
  go_wp2_with fail
  refine hK.out _ _ hSnew (fun hHeld11 => ?_)
  clear hK K hSnew
  clear hHeld
  have hHeld := hHeld11
  clear hHeld11
  try simp only [Act.put, List.setIfInBounds_toArray, List.set_cons_zero, List.set_cons_succ]
  refine wpAnyH_take (i := 12) (oi := { dst := some 38, op := Op.fieldAddr 27 (Operand.tmp 7) 1, type := 0, pos := "law.go:279", after := #[{ on := 0, ground := Ground.phase }, { on := 1, ground := Ground.phase }, { on := 2, ground := Ground.phase }, { on := 3, ground := Ground.phase }, { on := 4, ground := Ground.phase }, { on := 5, ground := Ground.phase }, { on := 6, ground := Ground.phase }, { on := 7, ground := Ground.phase }, { on := 8, ground := Ground.phase }, { on := 9, ground := Ground.phase }, { on := 10, ground := Ground.phase }, { on := 11, ground := Ground.phase }], guard := none }) (v := ?v12f) rfl (by kernel_rfl) (by kernel_rfl) (by kernel_rfl) (fun _ _ _ h => h) (Or.inl ⟨by rfl, ?y12f⟩) (by assumption) ?r12f
  case y12f => (intro x hx; (try dsimp only at hx); go_simp; try with_reducible rfl)
  try simp only [Act.put, List.setIfInBounds_toArray, List.set_cons_zero, List.set_cons_succ]
  refine wpAnyH_ready (rs := [13]) (by kernel_rfl) (by simp) ?_
  refine AllReadyH.cons (o := { dst := none, op := Op.store 24 (Operand.tmp 38) (Operand.tmp 37), type := 0, pos := "law.go:279", after := #[{ on := 12, ground := Ground.data }, { on := 11, ground := Ground.data }, { on := 11, ground := Ground.chain }, { on := 0, ground := Ground.phase }, { on := 1, ground := Ground.phase }, { on := 2, ground := Ground.phase }, { on := 3, ground := Ground.phase }, { on := 4, ground := Ground.phase }, { on := 5, ground := Ground.phase }, { on := 6, ground := Ground.phase }, { on := 7, ground := Ground.phase }, { on := 8, ground := Ground.phase }, { on := 9, ground := Ground.phase }, { on := 10, ground := Ground.phase }, { on := 11, ground := Ground.phase }], guard := none }) rfl (fun K hK => ?_) AllReadyH.nil
  go_simp
  go_wp2_with fail
  have HU := hide (FU.start (ms := ms) H4.out HO4.out)
  have hSnew := cells3 HU.out.fb.bg
  refine hK.out _ _ hSnew (fun hHeld13 => ?_)
  clear hK K hSnew
  clear hHeld
  have hHeld := hHeld13
  clear hHeld13
  try simp only [Act.put, List.setIfInBounds_toArray, List.set_cons_zero, List.set_cons_succ]
  refine wpAnyH_done (by kernel_rfl) ?_ _
  clear hHeld x0 x1 x2 x3 x4 fz4
  generalize hT : World.setCell u4 ⟨w.heap.size + 2, 3, none⟩ _ = u5 at HU ⊢
  clear hT H0 H2 H3 H4 HO4
  go_wp2
  go_loopw [10] (fun s10 wr => ∃ (i : Nat) (vm : Value), i ≤ B ∧ s10 = .int .i64 i ∧ Hid (FU w wr B P S gc n0 cc (fitL b n0) vm ms i)) (fun s10 _ => B - (intOf s10).toNat)
  case atStart => exact ⟨0, _, Nat.zero_le _, rfl, HU⟩
  case round =>
    clear HU
    obtain ⟨i, vm, hi, rfl, HI⟩ := hrel
    obtain ⟨z0, z1, z2⟩ := cells3 HI.out.fb.bg
    obtain ⟨x0, x1, x2, x3, x4⟩ := cells5 HI.out.fb.bm
    by_cases hlt : i < B
    · have dm : decide ((i : Int) < (B : Int)) = true := decide_eq_true (by omega)
      clear x0 x1 x2 x3 z1 z2
      have hqlt : w.heap.size + 1 + 1 < wr.heap.size := lt_of_block HI.out.fb.bm
      go_upto_region 9 with fail
      clear z0
      have HOM : Hid ((wr.drew.alloc (.cells #[.bool (ms.getD i false)] 4)).ownsRow (w.heap.size + 3) 4 1 vm i ((marksL ms i).map Value.bool)) := owns_keep HI.out.om (fun g hg => by obtain ⟨cs, hc⟩ := own_tag HI.out.om hg; exact alloc_old _ _ (lt_of_block hc))
      by_cases hin : i < mn
      · have di : decide ((i : Int) < (mn : Int)) = true := decide_eq_true (by omega)
        have i1 : (i : Int) < (mn : Int) := by omega
        obtain ⟨gM, off, rfl, hgM, hcells⟩ := HM.out.pos (by omega)
        have q1 := (HI.out.fb.bel.cell (block_lt_of_cell (hcells i hin))).trans (hcells i hin)
        obtain ⟨mv, hmv⟩ : ∃ v, v = ms.getD i false := ⟨_, rfl⟩
        rw [← hmv] at q1 HOM
        have HMV := hide hmv
        have hgM2 : ¬ gM = w.heap.size + 2 := by omega
        clear hcells hmv
        refine wp_region_held_drew (S := (fun u => u.cell? ⟨gM, off + i, none⟩ = some (.bool mv))) (by kernel_rfl) (q1) (fun hHeld => ?_)
        refine wpAnyH_take (i := 0) (oi := { dst := some 45, op := Op.fieldAddr 27 (Operand.tmp 7) 2, type := 0, pos := "law.go:281", after := #[], guard := none }) (v := ?v0i) rfl (by kernel_rfl) (by kernel_rfl) (by kernel_rfl) (fun _ _ _ h => h) (Or.inl ⟨by rfl, ?y0i⟩) (by assumption) ?r0i
        case y0i => (intro x hx; (try dsimp only at hx); go_simp; try with_reducible rfl)
        try simp only [Act.put, List.setIfInBounds_toArray, List.set_cons_zero, List.set_cons_succ]
        refine wpAnyH_take (i := 2) (oi := { dst := some 47, op := Op.move (Operand.tmp 10), type := 3, pos := "law.go:281", after := #[], guard := none }) (v := ?v2i) rfl (by kernel_rfl) (by kernel_rfl) (by kernel_rfl) (fun _ _ _ h => h) (Or.inl ⟨by rfl, ?y2i⟩) (by assumption) ?r2i
        case y2i => (intro x hx; (try dsimp only at hx); go_simp; try with_reducible rfl)
        try simp only [Act.put, List.setIfInBounds_toArray, List.set_cons_zero, List.set_cons_succ]
        refine wpAnyH_take (i := 3) (oi := { dst := some 48, op := Op.move (Operand.tmp 2), type := 25, pos := "law.go:281", after := #[], guard := none }) (v := ?v3i) rfl (by kernel_rfl) (by kernel_rfl) (by kernel_rfl) (fun _ _ _ h => h) (Or.inl ⟨by rfl, ?y3i⟩) (by assumption) ?r3i
        case y3i => (intro x hx; (try dsimp only at hx); go_simp; try with_reducible rfl)
        try simp only [Act.put, List.setIfInBounds_toArray, List.set_cons_zero, List.set_cons_succ]
        refine wpAnyH_take (i := 4) (oi := { dst := some 49, op := Op.call { callee := Callee.builtin Builtin.len, args := #[Operand.tmp 48], argTypes := #[25] }, type := 3, pos := "law.go:281", after := #[{ on := 3, ground := Ground.data }], guard := none }) (v := ?v4i) rfl (by kernel_rfl) (by kernel_rfl) (by kernel_rfl) (fun _ _ _ h => h) (Or.inl ⟨by rfl, ?y4i⟩) (by assumption) ?r4i
        case y4i => (intro x hx; (try dsimp only at hx); go_simp; try with_reducible rfl)
        try simp only [Act.put, List.setIfInBounds_toArray, List.set_cons_zero, List.set_cons_succ]
        refine wpAnyH_take (i := 5) (oi := { dst := some 50, op := Op.binOp BinOp.lss 3 (Operand.tmp 47) (Operand.tmp 49) 3, type := 4, pos := "law.go:281", after := #[{ on := 2, ground := Ground.data }, { on := 4, ground := Ground.data }], guard := none }) (v := ?v5i) rfl (by kernel_rfl) (by kernel_rfl) (by kernel_rfl) (fun _ _ _ h => h) (Or.inl ⟨by rfl, ?y5i⟩) (by assumption) ?r5i
        case y5i => (intro x hx; (try dsimp only at hx); go_simp; try with_reducible rfl)
        try simp only [Act.put, List.setIfInBounds_toArray, List.set_cons_zero, List.set_cons_succ]
        refine wpAnyH_take (i := 6) (oi := { dst := some 51, op := Op.move (Operand.tmp 50), type := 4, pos := "law.go:281", after := #[{ on := 5, ground := Ground.data }], guard := none }) (v := ?v6i) rfl (by kernel_rfl) (by kernel_rfl) (by kernel_rfl) (fun _ _ _ h => h) (Or.inl ⟨by rfl, ?y6i⟩) (by assumption) ?r6i
        case y6i => (intro x hx; (try dsimp only at hx); go_simp; try with_reducible rfl)
        try simp only [Act.put, List.setIfInBounds_toArray, List.set_cons_zero, List.set_cons_succ]
        refine wpAnyH_take (i := 7) (oi := { dst := some 52, op := Op.move (Operand.tmp 2), type := 25, pos := "law.go:281", after := #[{ on := 6, ground := Ground.guard }], guard := some (6, true) }) (v := ?v7i) rfl (by kernel_rfl) (by kernel_rfl) (by kernel_rfl) (fun _ _ _ h => h) (Or.inl ⟨by rfl, ?y7i⟩) (by assumption) ?r7i
        case y7i => (intro x hx; (try dsimp only at hx); go_simp; try with_reducible rfl)
        try simp only [Act.put, List.setIfInBounds_toArray, List.set_cons_zero, List.set_cons_succ]
        refine wpAnyH_take (i := 8) (oi := { dst := some 53, op := Op.move (Operand.tmp 10), type := 3, pos := "law.go:281", after := #[{ on := 6, ground := Ground.guard }], guard := some (6, true) }) (v := ?v8i) rfl (by kernel_rfl) (by kernel_rfl) (by kernel_rfl) (fun _ _ _ h => h) (Or.inl ⟨by rfl, ?y8i⟩) (by assumption) ?r8i
        case y8i => (intro x hx; (try dsimp only at hx); go_simp; try with_reducible rfl)
        try simp only [Act.put, List.setIfInBounds_toArray, List.set_cons_zero, List.set_cons_succ]
        refine wpAnyH_take (i := 9) (oi := { dst := some 54, op := Op.indexAddr 25 (Operand.tmp 52) (Operand.tmp 53), type := 0, pos := "law.go:281", after := #[{ on := 7, ground := Ground.data }, { on := 8, ground := Ground.data }, { on := 6, ground := Ground.guard }], guard := some (6, true) }) (v := ?v9i) rfl (by kernel_rfl) (by kernel_rfl) (by kernel_rfl) (fun _ _ _ h => h) (Or.inl ⟨by rfl, ?y9i⟩) (by assumption) ?r9i
        case y9i => (intro x hx; (try dsimp only at hx); go_simp; try with_reducible rfl)
        try simp only [Act.put, List.setIfInBounds_toArray, List.set_cons_zero, List.set_cons_succ]
        refine wpAnyH_take (i := 10) (oi := { dst := some 55, op := Op.load 4 (Operand.tmp 54), type := 4, pos := "law.go:281", after := #[{ on := 9, ground := Ground.data }, { on := 6, ground := Ground.guard }], guard := some (6, true) }) (v := ?v10i) rfl (by kernel_rfl) (by kernel_rfl) (by kernel_rfl) (fun _ _ _ h => h) (Or.inl ⟨by rfl, ?y10i⟩) (by assumption) ?r10i
        case y10i => (intro x hx; (try dsimp only at hx); go_simp; try with_reducible rfl)
        try simp only [Act.put, List.setIfInBounds_toArray, List.set_cons_zero, List.set_cons_succ]
        refine wpAnyH_take (i := 11) (oi := { dst := some 56, op := Op.pick (Operand.tmp 51) (Operand.tmp 55) (Operand.const (Value.bool false)), type := 4, pos := "law.go:281", after := #[{ on := 6, ground := Ground.data }, { on := 10, ground := Ground.data }], guard := none }) (v := ?v11i) rfl (by kernel_rfl) (by kernel_rfl) (by kernel_rfl) (fun _ _ _ h => h) (Or.inl ⟨by rfl, ?y11i⟩) (by assumption) ?r11i
        case y11i => (intro x hx; (try dsimp only at hx); go_simp; try with_reducible rfl)
        try simp only [Act.put, List.setIfInBounds_toArray, List.set_cons_zero, List.set_cons_succ]
        refine wpAnyH_ready (rs := [1, 12]) (by kernel_rfl) (by simp) ?_
        refine AllReadyH.cons (o := { dst := some 46, op := Op.load 25 (Operand.tmp 45), type := 25, pos := "law.go:281", after := #[{ on := 0, ground := Ground.data }], guard := none }) rfl (fun K hK => ?_) (AllReadyH.cons (o := { dst := some 57, op := Op.buildSlice 25 1 #[(0, Operand.tmp 56)], type := 25, pos := "law.go:281", after := #[{ on := 11, ground := Ground.data }], guard := none }) rfl (fun K hK => ?_) AllReadyH.nil)
        · go_simp
          go_wp2_with fail
          have hSnew := hHeld
          refine hK.out _ _ hSnew (fun hHeld1 => ?_)
          clear hK K hSnew hHeld
          have hHeld := hHeld1
          clear hHeld1
          try simp only [Act.put, List.setIfInBounds_toArray, List.set_cons_zero, List.set_cons_succ]
          refine wpAnyH_ready (rs := [12]) (by kernel_rfl) (by simp) ?_
          refine AllReadyH.cons (o := { dst := some 57, op := Op.buildSlice 25 1 #[(0, Operand.tmp 56)], type := 25, pos := "law.go:281", after := #[{ on := 11, ground := Ground.data }], guard := none }) rfl (fun K hK => ?_) AllReadyH.nil
          go_simp
          go_wp2_with fail
          change K _ (wr.drew.alloc (.cells #[.bool mv] 4))
          have hSnew := (alloc_cell (.cells #[.bool mv] 4) q1)
          refine hK.out _ _ hSnew (fun hHeld12 => ?_)
          clear hK K hSnew hHeld
          have hHeld := hHeld12
          clear hHeld12
          try simp only [Act.put, List.setIfInBounds_toArray, List.set_cons_zero, List.set_cons_succ]
          refine wpAnyH_ready (rs := [13]) (by kernel_rfl) (by simp) ?_
          refine AllReadyH.cons (o := { dst := some 58, op := Op.call { callee := Callee.builtin Builtin.append, args := #[Operand.tmp 46, Operand.tmp 57], argTypes := #[25, 25] }, type := 25, pos := "law.go:281", after := #[{ on := 1, ground := Ground.data }, { on := 12, ground := Ground.data }, { on := 6, ground := Ground.chain }], guard := none }) rfl (fun K hK => ?_) AllReadyH.nil
          refine wp_append_own _ (.tmp 46) (.tmp 57) 25 rfl (w.heap.size + 3) 4 j0 (.bool false) 1 1 Try.underlying25 kj kz0 kz1 kz2 rfl (by decide) _ i _ rfl HOM.out ⟨wr.heap.size, 0, none⟩ 1 1 [.bool mv] rfl rfl (news_bool _ _) (by simp [Value.oneCell']) (by simp [maxLen]; omega) (by omega) (by have := lt_of_block HI.out.fb.bm; simp; omega) ?_
          intro v1 w1 ow1 gr1 _
          obtain ⟨g9, c9, rfl, _⟩ := ow1.form (by omega)
          have HA := hide (FU.app HI.out ow1 gr1 HMV.out)
          have hx1 := FU.app1 HI.out gr1
          have fx1 := fun j => frozen_of_row w1 (w.heap.size + 2) j _ 27 hx1
          obtain ⟨z0, z1, z2, z3, z4⟩ := cells5 hx1
          have hSnew := FU.app2 HI.out gr1 hHeld hgM
          clear ow1 gr1 hx1 z0 z1 z2 z3
          refine hK.out _ _ hSnew (fun hHeld13 => ?_)
          clear hK K hSnew hHeld
          have hHeld := hHeld13
          clear hHeld13
          try simp only [Act.put, List.setIfInBounds_toArray, List.set_cons_zero, List.set_cons_succ]
          refine wpAnyH_take (i := 14) (oi := { dst := some 59, op := Op.fieldAddr 27 (Operand.tmp 7) 2, type := 0, pos := "law.go:281", after := #[{ on := 0, ground := Ground.phase }, { on := 1, ground := Ground.phase }, { on := 2, ground := Ground.phase }, { on := 3, ground := Ground.phase }, { on := 4, ground := Ground.phase }, { on := 5, ground := Ground.phase }, { on := 6, ground := Ground.phase }, { on := 7, ground := Ground.phase }, { on := 8, ground := Ground.phase }, { on := 9, ground := Ground.phase }, { on := 10, ground := Ground.phase }, { on := 11, ground := Ground.phase }, { on := 12, ground := Ground.phase }, { on := 13, ground := Ground.phase }], guard := none }) (v := ?v14iA) rfl (by kernel_rfl) (by kernel_rfl) (by kernel_rfl) (fun _ _ _ h => h) (Or.inl ⟨by rfl, ?y14iA⟩) (by assumption) ?r14iA
          case y14iA => (intro x hx; (try dsimp only at hx); go_simp; try with_reducible rfl)
          try simp only [Act.put, List.setIfInBounds_toArray, List.set_cons_zero, List.set_cons_succ]
          refine wpAnyH_ready (rs := [15]) (by kernel_rfl) (by simp) ?_
          refine AllReadyH.cons (o := { dst := none, op := Op.store 25 (Operand.tmp 59) (Operand.tmp 58), type := 0, pos := "law.go:281", after := #[{ on := 14, ground := Ground.data }, { on := 13, ground := Ground.data }, { on := 13, ground := Ground.chain }, { on := 0, ground := Ground.phase }, { on := 1, ground := Ground.phase }, { on := 2, ground := Ground.phase }, { on := 3, ground := Ground.phase }, { on := 4, ground := Ground.phase }, { on := 5, ground := Ground.phase }, { on := 6, ground := Ground.phase }, { on := 7, ground := Ground.phase }, { on := 8, ground := Ground.phase }, { on := 9, ground := Ground.phase }, { on := 10, ground := Ground.phase }, { on := 11, ground := Ground.phase }, { on := 12, ground := Ground.phase }, { on := 13, ground := Ground.phase }], guard := none }) rfl (fun K hK => ?_) AllReadyH.nil
          go_simp
          go_wp2_with fail
          have hSnew := (Only.setCell (· = w.heap.size + 2) w1 (w.heap.size + 2) 4 (.slice (some ⟨g9, 0, none⟩) (i + 1) c9) rfl).cell hHeld hgM2
          refine hK.out _ _ hSnew (fun hHeld15 => ?_)
          clear hK K hSnew hHeld
          have hHeld := hHeld15
          clear hHeld15
          try simp only [Act.put, List.setIfInBounds_toArray, List.set_cons_zero, List.set_cons_succ]
          refine wpAnyH_done (by kernel_rfl) ?_ _
          clear hHeld x4 z4 fx1
          go_wp2
          go_roundw
          case rel => exact ⟨i + 1, _, by omega, by go_num, HA⟩
          case measure => simp [intOf]; omega
        · go_simp
          go_wp2_with fail
          change K _ (wr.drew.alloc (.cells #[.bool mv] 4))
          have hSnew := (alloc_cell (.cells #[.bool mv] 4) q1)
          refine hK.out _ _ hSnew (fun hHeld12 => ?_)
          clear hK K hSnew hHeld
          have hHeld := hHeld12
          clear hHeld12
          try simp only [Act.put, List.setIfInBounds_toArray, List.set_cons_zero, List.set_cons_succ]
          refine wpAnyH_ready (rs := [1]) (by kernel_rfl) (by simp) ?_
          refine AllReadyH.cons (o := { dst := some 46, op := Op.load 25 (Operand.tmp 45), type := 25, pos := "law.go:281", after := #[{ on := 0, ground := Ground.data }], guard := none }) rfl (fun K hK => ?_) AllReadyH.nil
          have x4b := alloc_cell (.cells #[.bool mv] 4) x4
          go_simp
          go_wp2_with fail
          change K _ (wr.drew.alloc (.cells #[.bool mv] 4))
          have hSnew := hHeld
          refine hK.out _ _ hSnew (fun hHeld1 => ?_)
          clear hK K hSnew hHeld
          have hHeld := hHeld1
          clear hHeld1
          try simp only [Act.put, List.setIfInBounds_toArray, List.set_cons_zero, List.set_cons_succ]
          refine wpAnyH_ready (rs := [13]) (by kernel_rfl) (by simp) ?_
          refine AllReadyH.cons (o := { dst := some 58, op := Op.call { callee := Callee.builtin Builtin.append, args := #[Operand.tmp 46, Operand.tmp 57], argTypes := #[25, 25] }, type := 25, pos := "law.go:281", after := #[{ on := 1, ground := Ground.data }, { on := 12, ground := Ground.data }, { on := 6, ground := Ground.chain }], guard := none }) rfl (fun K hK => ?_) AllReadyH.nil
          refine wp_append_own _ (.tmp 46) (.tmp 57) 25 rfl (w.heap.size + 3) 4 j0 (.bool false) 1 1 Try.underlying25 kj kz0 kz1 kz2 rfl (by decide) _ i _ rfl HOM.out ⟨wr.heap.size, 0, none⟩ 1 1 [.bool mv] rfl rfl (news_bool _ _) (by simp [Value.oneCell']) (by simp [maxLen]; omega) (by omega) (by have := lt_of_block HI.out.fb.bm; simp; omega) ?_
          intro v1 w1 ow1 gr1 _
          obtain ⟨g9, c9, rfl, _⟩ := ow1.form (by omega)
          have HA := hide (FU.app HI.out ow1 gr1 HMV.out)
          have hx1 := FU.app1 HI.out gr1
          have fx1 := fun j => frozen_of_row w1 (w.heap.size + 2) j _ 27 hx1
          obtain ⟨z0, z1, z2, z3, z4⟩ := cells5 hx1
          have hSnew := FU.app2 HI.out gr1 hHeld hgM
          clear ow1 gr1 hx1 z0 z1 z2 z3
          refine hK.out _ _ hSnew (fun hHeld13 => ?_)
          clear hK K hSnew hHeld
          have hHeld := hHeld13
          clear hHeld13
          try simp only [Act.put, List.setIfInBounds_toArray, List.set_cons_zero, List.set_cons_succ]
          refine wpAnyH_take (i := 14) (oi := { dst := some 59, op := Op.fieldAddr 27 (Operand.tmp 7) 2, type := 0, pos := "law.go:281", after := #[{ on := 0, ground := Ground.phase }, { on := 1, ground := Ground.phase }, { on := 2, ground := Ground.phase }, { on := 3, ground := Ground.phase }, { on := 4, ground := Ground.phase }, { on := 5, ground := Ground.phase }, { on := 6, ground := Ground.phase }, { on := 7, ground := Ground.phase }, { on := 8, ground := Ground.phase }, { on := 9, ground := Ground.phase }, { on := 10, ground := Ground.phase }, { on := 11, ground := Ground.phase }, { on := 12, ground := Ground.phase }, { on := 13, ground := Ground.phase }], guard := none }) (v := ?v14iB) rfl (by kernel_rfl) (by kernel_rfl) (by kernel_rfl) (fun _ _ _ h => h) (Or.inl ⟨by rfl, ?y14iB⟩) (by assumption) ?r14iB
          case y14iB => (intro x hx; (try dsimp only at hx); go_simp; try with_reducible rfl)
          try simp only [Act.put, List.setIfInBounds_toArray, List.set_cons_zero, List.set_cons_succ]
          refine wpAnyH_ready (rs := [15]) (by kernel_rfl) (by simp) ?_
          refine AllReadyH.cons (o := { dst := none, op := Op.store 25 (Operand.tmp 59) (Operand.tmp 58), type := 0, pos := "law.go:281", after := #[{ on := 14, ground := Ground.data }, { on := 13, ground := Ground.data }, { on := 13, ground := Ground.chain }, { on := 0, ground := Ground.phase }, { on := 1, ground := Ground.phase }, { on := 2, ground := Ground.phase }, { on := 3, ground := Ground.phase }, { on := 4, ground := Ground.phase }, { on := 5, ground := Ground.phase }, { on := 6, ground := Ground.phase }, { on := 7, ground := Ground.phase }, { on := 8, ground := Ground.phase }, { on := 9, ground := Ground.phase }, { on := 10, ground := Ground.phase }, { on := 11, ground := Ground.phase }, { on := 12, ground := Ground.phase }, { on := 13, ground := Ground.phase }], guard := none }) rfl (fun K hK => ?_) AllReadyH.nil
          go_simp
          go_wp2_with fail
          have hSnew := (Only.setCell (· = w.heap.size + 2) w1 (w.heap.size + 2) 4 (.slice (some ⟨g9, 0, none⟩) (i + 1) c9) rfl).cell hHeld hgM2
          refine hK.out _ _ hSnew (fun hHeld15 => ?_)
          clear hK K hSnew hHeld
          have hHeld := hHeld15
          clear hHeld15
          try simp only [Act.put, List.setIfInBounds_toArray, List.set_cons_zero, List.set_cons_succ]
          refine wpAnyH_done (by kernel_rfl) ?_ _
          clear hHeld x4 z4 fx1
          go_wp2
          go_roundw
          case rel => exact ⟨i + 1, _, by omega, by go_num, HA⟩
          case measure => simp [intOf]; omega
      · have di : decide ((i : Int) < (mn : Int)) = false := decide_eq_false (by omega)
        have hmv : false = ms.getD i false := by
          have h1 := HM.out.1
          rw [List.getD_eq_getElem?_getD, List.getElem?_eq_none (by omega)]
          rfl
        obtain ⟨mv, hmf⟩ : ∃ v, v = false := ⟨_, rfl⟩
        rw [← hmv] at HOM
        have HMV := hide hmv
        clear hmv
        refine wp_region_held_drew (S := (fun _ : World => True)) (by kernel_rfl) (trivial) (fun hHeld => ?_)
        refine wpAnyH_take (i := 0) (oi := { dst := some 45, op := Op.fieldAddr 27 (Operand.tmp 7) 2, type := 0, pos := "law.go:281", after := #[], guard := none }) (v := ?v0o) rfl (by kernel_rfl) (by kernel_rfl) (by kernel_rfl) (fun _ _ _ h => h) (Or.inl ⟨by rfl, ?y0o⟩) (by assumption) ?r0o
        case y0o => (intro x hx; (try dsimp only at hx); go_simp; try with_reducible rfl)
        try simp only [Act.put, List.setIfInBounds_toArray, List.set_cons_zero, List.set_cons_succ]
        refine wpAnyH_take (i := 2) (oi := { dst := some 47, op := Op.move (Operand.tmp 10), type := 3, pos := "law.go:281", after := #[], guard := none }) (v := ?v2o) rfl (by kernel_rfl) (by kernel_rfl) (by kernel_rfl) (fun _ _ _ h => h) (Or.inl ⟨by rfl, ?y2o⟩) (by assumption) ?r2o
        case y2o => (intro x hx; (try dsimp only at hx); go_simp; try with_reducible rfl)
        try simp only [Act.put, List.setIfInBounds_toArray, List.set_cons_zero, List.set_cons_succ]
        refine wpAnyH_take (i := 3) (oi := { dst := some 48, op := Op.move (Operand.tmp 2), type := 25, pos := "law.go:281", after := #[], guard := none }) (v := ?v3o) rfl (by kernel_rfl) (by kernel_rfl) (by kernel_rfl) (fun _ _ _ h => h) (Or.inl ⟨by rfl, ?y3o⟩) (by assumption) ?r3o
        case y3o => (intro x hx; (try dsimp only at hx); go_simp; try with_reducible rfl)
        try simp only [Act.put, List.setIfInBounds_toArray, List.set_cons_zero, List.set_cons_succ]
        refine wpAnyH_take (i := 4) (oi := { dst := some 49, op := Op.call { callee := Callee.builtin Builtin.len, args := #[Operand.tmp 48], argTypes := #[25] }, type := 3, pos := "law.go:281", after := #[{ on := 3, ground := Ground.data }], guard := none }) (v := ?v4o) rfl (by kernel_rfl) (by kernel_rfl) (by kernel_rfl) (fun _ _ _ h => h) (Or.inl ⟨by rfl, ?y4o⟩) (by assumption) ?r4o
        case y4o => (intro x hx; (try dsimp only at hx); go_simp; try with_reducible rfl)
        try simp only [Act.put, List.setIfInBounds_toArray, List.set_cons_zero, List.set_cons_succ]
        refine wpAnyH_take (i := 5) (oi := { dst := some 50, op := Op.binOp BinOp.lss 3 (Operand.tmp 47) (Operand.tmp 49) 3, type := 4, pos := "law.go:281", after := #[{ on := 2, ground := Ground.data }, { on := 4, ground := Ground.data }], guard := none }) (v := ?v5o) rfl (by kernel_rfl) (by kernel_rfl) (by kernel_rfl) (fun _ _ _ h => h) (Or.inl ⟨by rfl, ?y5o⟩) (by assumption) ?r5o
        case y5o => (intro x hx; (try dsimp only at hx); go_simp; try with_reducible rfl)
        try simp only [Act.put, List.setIfInBounds_toArray, List.set_cons_zero, List.set_cons_succ]
        refine wpAnyH_take (i := 6) (oi := { dst := some 51, op := Op.move (Operand.tmp 50), type := 4, pos := "law.go:281", after := #[{ on := 5, ground := Ground.data }], guard := none }) (v := ?v6o) rfl (by kernel_rfl) (by kernel_rfl) (by kernel_rfl) (fun _ _ _ h => h) (Or.inl ⟨by rfl, ?y6o⟩) (by assumption) ?r6o
        case y6o => (intro x hx; (try dsimp only at hx); go_simp; try with_reducible rfl)
        try simp only [Act.put, List.setIfInBounds_toArray, List.set_cons_zero, List.set_cons_succ]
        refine wpAnyH_take (i := 7) (oi := { dst := some 52, op := Op.move (Operand.tmp 2), type := 25, pos := "law.go:281", after := #[{ on := 6, ground := Ground.guard }], guard := some (6, true) }) (v := undef) rfl (by kernel_rfl) (by kernel_rfl) (by kernel_rfl) (fun _ _ _ h => h) (Or.inr ⟨by rfl, rfl⟩) (by assumption) ?_
        try simp only [Act.put, List.setIfInBounds_toArray, List.set_cons_zero, List.set_cons_succ]
        refine wpAnyH_take (i := 8) (oi := { dst := some 53, op := Op.move (Operand.tmp 10), type := 3, pos := "law.go:281", after := #[{ on := 6, ground := Ground.guard }], guard := some (6, true) }) (v := undef) rfl (by kernel_rfl) (by kernel_rfl) (by kernel_rfl) (fun _ _ _ h => h) (Or.inr ⟨by rfl, rfl⟩) (by assumption) ?_
        try simp only [Act.put, List.setIfInBounds_toArray, List.set_cons_zero, List.set_cons_succ]
        refine wpAnyH_take (i := 9) (oi := { dst := some 54, op := Op.indexAddr 25 (Operand.tmp 52) (Operand.tmp 53), type := 0, pos := "law.go:281", after := #[{ on := 7, ground := Ground.data }, { on := 8, ground := Ground.data }, { on := 6, ground := Ground.guard }], guard := some (6, true) }) (v := undef) rfl (by kernel_rfl) (by kernel_rfl) (by kernel_rfl) (fun _ _ _ h => h) (Or.inr ⟨by rfl, rfl⟩) (by assumption) ?_
        try simp only [Act.put, List.setIfInBounds_toArray, List.set_cons_zero, List.set_cons_succ]
        refine wpAnyH_take (i := 10) (oi := { dst := some 55, op := Op.load 4 (Operand.tmp 54), type := 4, pos := "law.go:281", after := #[{ on := 9, ground := Ground.data }, { on := 6, ground := Ground.guard }], guard := some (6, true) }) (v := undef) rfl (by kernel_rfl) (by kernel_rfl) (by kernel_rfl) (fun _ _ _ h => h) (Or.inr ⟨by rfl, rfl⟩) (by assumption) ?_
        try simp only [Act.put, List.setIfInBounds_toArray, List.set_cons_zero, List.set_cons_succ]
        refine wpAnyH_take (i := 11) (oi := { dst := some 56, op := Op.pick (Operand.tmp 51) (Operand.tmp 55) (Operand.const (Value.bool false)), type := 4, pos := "law.go:281", after := #[{ on := 6, ground := Ground.data }, { on := 10, ground := Ground.data }], guard := none }) (v := ?v11o) rfl (by kernel_rfl) (by kernel_rfl) (by kernel_rfl) (fun _ _ _ h => h) (Or.inl ⟨by rfl, ?y11o⟩) (by assumption) ?r11o
        case y11o => (intro x hx; (try dsimp only at hx); go_simp; try with_reducible rfl)
        try simp only [Act.put, List.setIfInBounds_toArray, List.set_cons_zero, List.set_cons_succ]
        refine wpAnyH_ready (rs := [1, 12]) (by kernel_rfl) (by simp) ?_
        refine AllReadyH.cons (o := { dst := some 46, op := Op.load 25 (Operand.tmp 45), type := 25, pos := "law.go:281", after := #[{ on := 0, ground := Ground.data }], guard := none }) rfl (fun K hK => ?_) (AllReadyH.cons (o := { dst := some 57, op := Op.buildSlice 25 1 #[(0, Operand.tmp 56)], type := 25, pos := "law.go:281", after := #[{ on := 11, ground := Ground.data }], guard := none }) rfl (fun K hK => ?_) AllReadyH.nil)
        · go_simp
          go_wp2_with fail
          have hSnew := hHeld
          refine hK.out _ _ hSnew (fun hHeld1 => ?_)
          clear hK K hSnew hHeld
          have hHeld := hHeld1
          clear hHeld1
          try simp only [Act.put, List.setIfInBounds_toArray, List.set_cons_zero, List.set_cons_succ]
          refine wpAnyH_ready (rs := [12]) (by kernel_rfl) (by simp) ?_
          refine AllReadyH.cons (o := { dst := some 57, op := Op.buildSlice 25 1 #[(0, Operand.tmp 56)], type := 25, pos := "law.go:281", after := #[{ on := 11, ground := Ground.data }], guard := none }) rfl (fun K hK => ?_) AllReadyH.nil
          go_simp
          go_wp2_with fail
          change K _ (wr.drew.alloc (.cells #[.bool false] 4))
          have hSnew := trivial
          refine hK.out _ _ hSnew (fun hHeld12 => ?_)
          clear hK K hSnew hHeld
          have hHeld := hHeld12
          clear hHeld12
          try simp only [Act.put, List.setIfInBounds_toArray, List.set_cons_zero, List.set_cons_succ]
          refine wpAnyH_ready (rs := [13]) (by kernel_rfl) (by simp) ?_
          refine AllReadyH.cons (o := { dst := some 58, op := Op.call { callee := Callee.builtin Builtin.append, args := #[Operand.tmp 46, Operand.tmp 57], argTypes := #[25, 25] }, type := 25, pos := "law.go:281", after := #[{ on := 1, ground := Ground.data }, { on := 12, ground := Ground.data }, { on := 6, ground := Ground.chain }], guard := none }) rfl (fun K hK => ?_) AllReadyH.nil
          refine wp_append_own _ (.tmp 46) (.tmp 57) 25 rfl (w.heap.size + 3) 4 j0 (.bool false) 1 1 Try.underlying25 kj kz0 kz1 kz2 rfl (by decide) _ i _ rfl HOM.out ⟨wr.heap.size, 0, none⟩ 1 1 [.bool false] rfl rfl (news_bool _ _) (by simp [Value.oneCell']) (by simp [maxLen]; omega) (by omega) (by have := lt_of_block HI.out.fb.bm; simp; omega) ?_
          intro v1 w1 ow1 gr1 _
          obtain ⟨g9, c9, rfl, _⟩ := ow1.form (by omega)
          have HA := hide (FU.app HI.out ow1 gr1 HMV.out)
          have hx1 := FU.app1 HI.out gr1
          have fx1 := fun j => frozen_of_row w1 (w.heap.size + 2) j _ 27 hx1
          obtain ⟨z0, z1, z2, z3, z4⟩ := cells5 hx1
          have hSnew := trivial
          clear ow1 gr1 hx1 z0 z1 z2 z3
          refine hK.out _ _ hSnew (fun hHeld13 => ?_)
          clear hK K hSnew hHeld
          have hHeld := hHeld13
          clear hHeld13
          try simp only [Act.put, List.setIfInBounds_toArray, List.set_cons_zero, List.set_cons_succ]
          refine wpAnyH_take (i := 14) (oi := { dst := some 59, op := Op.fieldAddr 27 (Operand.tmp 7) 2, type := 0, pos := "law.go:281", after := #[{ on := 0, ground := Ground.phase }, { on := 1, ground := Ground.phase }, { on := 2, ground := Ground.phase }, { on := 3, ground := Ground.phase }, { on := 4, ground := Ground.phase }, { on := 5, ground := Ground.phase }, { on := 6, ground := Ground.phase }, { on := 7, ground := Ground.phase }, { on := 8, ground := Ground.phase }, { on := 9, ground := Ground.phase }, { on := 10, ground := Ground.phase }, { on := 11, ground := Ground.phase }, { on := 12, ground := Ground.phase }, { on := 13, ground := Ground.phase }], guard := none }) (v := ?v14oA) rfl (by kernel_rfl) (by kernel_rfl) (by kernel_rfl) (fun _ _ _ h => h) (Or.inl ⟨by rfl, ?y14oA⟩) (by assumption) ?r14oA
          case y14oA => (intro x hx; (try dsimp only at hx); go_simp; try with_reducible rfl)
          try simp only [Act.put, List.setIfInBounds_toArray, List.set_cons_zero, List.set_cons_succ]
          refine wpAnyH_ready (rs := [15]) (by kernel_rfl) (by simp) ?_
          refine AllReadyH.cons (o := { dst := none, op := Op.store 25 (Operand.tmp 59) (Operand.tmp 58), type := 0, pos := "law.go:281", after := #[{ on := 14, ground := Ground.data }, { on := 13, ground := Ground.data }, { on := 13, ground := Ground.chain }, { on := 0, ground := Ground.phase }, { on := 1, ground := Ground.phase }, { on := 2, ground := Ground.phase }, { on := 3, ground := Ground.phase }, { on := 4, ground := Ground.phase }, { on := 5, ground := Ground.phase }, { on := 6, ground := Ground.phase }, { on := 7, ground := Ground.phase }, { on := 8, ground := Ground.phase }, { on := 9, ground := Ground.phase }, { on := 10, ground := Ground.phase }, { on := 11, ground := Ground.phase }, { on := 12, ground := Ground.phase }, { on := 13, ground := Ground.phase }], guard := none }) rfl (fun K hK => ?_) AllReadyH.nil
          go_simp
          go_wp2_with fail
          have hSnew := trivial
          refine hK.out _ _ hSnew (fun hHeld15 => ?_)
          clear hK K hSnew hHeld
          have hHeld := hHeld15
          clear hHeld15
          try simp only [Act.put, List.setIfInBounds_toArray, List.set_cons_zero, List.set_cons_succ]
          refine wpAnyH_done (by kernel_rfl) ?_ _
          clear hHeld x4 z4 fx1
          go_wp2
          go_roundw
          case rel => exact ⟨i + 1, _, by omega, by go_num, HA⟩
          case measure => simp [intOf]; omega
        · go_simp
          go_wp2_with fail
          change K _ (wr.drew.alloc (.cells #[.bool false] 4))
          have hSnew := trivial
          refine hK.out _ _ hSnew (fun hHeld12 => ?_)
          clear hK K hSnew hHeld
          have hHeld := hHeld12
          clear hHeld12
          try simp only [Act.put, List.setIfInBounds_toArray, List.set_cons_zero, List.set_cons_succ]
          refine wpAnyH_ready (rs := [1]) (by kernel_rfl) (by simp) ?_
          refine AllReadyH.cons (o := { dst := some 46, op := Op.load 25 (Operand.tmp 45), type := 25, pos := "law.go:281", after := #[{ on := 0, ground := Ground.data }], guard := none }) rfl (fun K hK => ?_) AllReadyH.nil
          have x4b := alloc_cell (.cells #[.bool false] 4) x4
          go_simp
          go_wp2_with fail
          change K _ (wr.drew.alloc (.cells #[.bool false] 4))
          have hSnew := hHeld
          refine hK.out _ _ hSnew (fun hHeld1 => ?_)
          clear hK K hSnew hHeld
          have hHeld := hHeld1
          clear hHeld1
          try simp only [Act.put, List.setIfInBounds_toArray, List.set_cons_zero, List.set_cons_succ]
          refine wpAnyH_ready (rs := [13]) (by kernel_rfl) (by simp) ?_
          refine AllReadyH.cons (o := { dst := some 58, op := Op.call { callee := Callee.builtin Builtin.append, args := #[Operand.tmp 46, Operand.tmp 57], argTypes := #[25, 25] }, type := 25, pos := "law.go:281", after := #[{ on := 1, ground := Ground.data }, { on := 12, ground := Ground.data }, { on := 6, ground := Ground.chain }], guard := none }) rfl (fun K hK => ?_) AllReadyH.nil
          refine wp_append_own _ (.tmp 46) (.tmp 57) 25 rfl (w.heap.size + 3) 4 j0 (.bool false) 1 1 Try.underlying25 kj kz0 kz1 kz2 rfl (by decide) _ i _ rfl HOM.out ⟨wr.heap.size, 0, none⟩ 1 1 [.bool false] rfl rfl (news_bool _ _) (by simp [Value.oneCell']) (by simp [maxLen]; omega) (by omega) (by have := lt_of_block HI.out.fb.bm; simp; omega) ?_
          intro v1 w1 ow1 gr1 _
          obtain ⟨g9, c9, rfl, _⟩ := ow1.form (by omega)
          have HA := hide (FU.app HI.out ow1 gr1 HMV.out)
          have hx1 := FU.app1 HI.out gr1
          have fx1 := fun j => frozen_of_row w1 (w.heap.size + 2) j _ 27 hx1
          obtain ⟨z0, z1, z2, z3, z4⟩ := cells5 hx1
          have hSnew := trivial
          clear ow1 gr1 hx1 z0 z1 z2 z3
          refine hK.out _ _ hSnew (fun hHeld13 => ?_)
          clear hK K hSnew hHeld
          have hHeld := hHeld13
          clear hHeld13
          try simp only [Act.put, List.setIfInBounds_toArray, List.set_cons_zero, List.set_cons_succ]
          refine wpAnyH_take (i := 14) (oi := { dst := some 59, op := Op.fieldAddr 27 (Operand.tmp 7) 2, type := 0, pos := "law.go:281", after := #[{ on := 0, ground := Ground.phase }, { on := 1, ground := Ground.phase }, { on := 2, ground := Ground.phase }, { on := 3, ground := Ground.phase }, { on := 4, ground := Ground.phase }, { on := 5, ground := Ground.phase }, { on := 6, ground := Ground.phase }, { on := 7, ground := Ground.phase }, { on := 8, ground := Ground.phase }, { on := 9, ground := Ground.phase }, { on := 10, ground := Ground.phase }, { on := 11, ground := Ground.phase }, { on := 12, ground := Ground.phase }, { on := 13, ground := Ground.phase }], guard := none }) (v := ?v14oB) rfl (by kernel_rfl) (by kernel_rfl) (by kernel_rfl) (fun _ _ _ h => h) (Or.inl ⟨by rfl, ?y14oB⟩) (by assumption) ?r14oB
          case y14oB => (intro x hx; (try dsimp only at hx); go_simp; try with_reducible rfl)
          try simp only [Act.put, List.setIfInBounds_toArray, List.set_cons_zero, List.set_cons_succ]
          refine wpAnyH_ready (rs := [15]) (by kernel_rfl) (by simp) ?_
          refine AllReadyH.cons (o := { dst := none, op := Op.store 25 (Operand.tmp 59) (Operand.tmp 58), type := 0, pos := "law.go:281", after := #[{ on := 14, ground := Ground.data }, { on := 13, ground := Ground.data }, { on := 13, ground := Ground.chain }, { on := 0, ground := Ground.phase }, { on := 1, ground := Ground.phase }, { on := 2, ground := Ground.phase }, { on := 3, ground := Ground.phase }, { on := 4, ground := Ground.phase }, { on := 5, ground := Ground.phase }, { on := 6, ground := Ground.phase }, { on := 7, ground := Ground.phase }, { on := 8, ground := Ground.phase }, { on := 9, ground := Ground.phase }, { on := 10, ground := Ground.phase }, { on := 11, ground := Ground.phase }, { on := 12, ground := Ground.phase }, { on := 13, ground := Ground.phase }], guard := none }) rfl (fun K hK => ?_) AllReadyH.nil
          go_simp
          go_wp2_with fail
          have hSnew := trivial
          refine hK.out _ _ hSnew (fun hHeld15 => ?_)
          clear hK K hSnew hHeld
          have hHeld := hHeld15
          clear hHeld15
          try simp only [Act.put, List.setIfInBounds_toArray, List.set_cons_zero, List.set_cons_succ]
          refine wpAnyH_done (by kernel_rfl) ?_ _
          clear hHeld x4 z4 fx1
          go_wp2
          go_roundw
          case rel => exact ⟨i + 1, _, by omega, by go_num, HA⟩
          case measure => simp [intOf]; omega
    · have dm : decide ((i : Int) < (B : Int)) = false := decide_eq_false (by omega)
      have ei : i = B := by omega
      subst ei
      obtain ⟨g9, c9, hvm, _⟩ := HI.out.om.form (by omega)
      subst hvm
      obtain ⟨y0, y1, y2, y3, y4⟩ := cells5 HI.out.fb.br
      have fz := fun j => frozen_of_row wr (w.heap.size + 1) j _ 27 HI.out.fb.br
      go_wp2
      have hs := set50 HI.out.fb.br (.int .i64 (i : Int)) (.int .i64 (P : Int)) (.int .i64 (S : Int)) (.slice (some ⟨gc, 0, none⟩) n0 cc) (.slice (some ⟨g9, 0, none⟩) i c9)
      have ho := only50 wr (w.heap.size + 1) (.int .i64 (i : Int)) (.int .i64 (P : Int)) (.int .i64 (S : Int)) (.slice (some ⟨gc, 0, none⟩) n0 cc) (.slice (some ⟨g9, 0, none⟩) i c9)
      generalize hT : World.setCell _ ⟨w.heap.size + 1, 4, none⟩ _ = v9 at hs ho ⊢
      clear x0 x1 x2 x3 x4 y0 y1 y2 y3 y4 fz
      obtain ⟨y0, y1, y2, y3, y4⟩ := cells5 hs
      refine bodyPost_ret (v := .agg #[.int .i64 (i : Int), .int .i64 (P : Int), .int .i64 (S : Int), .slice (some ⟨gc, 0, none⟩) n0 cc, .slice (some ⟨g9, 0, none⟩) i c9]) (by simp [results, Try.results9, go_sem, y0, y1, y2, y3, y4]) rfl ?_
      refine ⟨gc, cc, _, rfl, ?_, ?_, HI.out.fb.bel.trans (ho.below (fun j hj => by omega) HI.out.fb.bel.size)⟩
      · exact own_base (owns_keep HI.out.oc (fun g hg => by cases hg; exact ho.block gc HI.out.oc.lt.2 (by have := HI.out.oc.lt.1; omega))) (by omega)
      · have h9 := owns_keep (w' := v9) HI.out.om (fun g hg => by obtain ⟨cs, hc⟩ := own_tag HI.out.om hg; exact ho.block g (lt_of_block hc) (by have := own_in (w := w) HI.out.om hg; omega))
        exact ⟨h9.1, h9.2.imp (fun h => h) (fun ⟨g, cap, cur, a1, a2, a3⟩ => ⟨g, cap, cur, a1, by omega, a3⟩)⟩
end Go.Proofs.Ytadlkikjfonkgaa
