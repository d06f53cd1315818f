/-
  SEAT Ytgijbpkfheillaa: begun.
-/
import Derived.Test.YtgijbpkfheillaaBlR
namespace Go.Proofs.Ytgijbpkfheillaa
open Go.RowKit
set_option linter.unusedVariables false

/-- A block of cells that is written over. -/
theorem over_step {w : World} {g : Nat} {arr : Array Value} (h : w.heap[g]? = some (.cells arr 34 (0, 0))) (j0 j1 j2 j3 : Nat) (v0 v1 v2 v3 : Value) :
    ∃ arr', ((((w.setCell ⟨g, j0, none⟩ v0).setCell ⟨g, j1, none⟩ v1).setCell ⟨g, j2, none⟩ v2).setCell ⟨g, j3, none⟩ v3).heap[g]? = some (.cells arr' 34 (0, 0)) ∧ arr'.size = arr.size := by
  have g0 := heap_setCell_same w g j0 _ 34 v0 h
  have g1 := heap_setCell_same _ g j1 _ 34 v1 g0
  have g2 := heap_setCell_same _ g j2 _ 34 v2 g1
  have g3 := heap_setCell_same _ g j3 _ 34 v3 g2
  exact ⟨_, g3, by simp⟩
theorem over_grown (w : World) (g j0 j1 j2 j3 : Nat) (v0 v1 v2 v3 : Value) : w.grownBy ((((w.setCell ⟨g, j0, none⟩ v0).setCell ⟨g, j1, none⟩ v1).setCell ⟨g, j2, none⟩ v2).setCell ⟨g, j3, none⟩ v3) (some g) :=
  grownBy_trans (grownBy_trans (grownBy_trans (grown_set _ _ _ _) (grown_set _ _ _ _)) (grown_set _ _ _ _)) (grown_set _ _ _ _)
theorem cells_of {w : World} {g : Nat} {arr : Array Value} (h : w.heap[g]? = some (.cells arr 34 (0, 0))) (j : Nat) (hj : j < arr.size) : w.cell? ⟨g, j, none⟩ = some (arr[j]'hj) ∧ w.frozen? ⟨g, j, none⟩ = false := by
  refine ⟨?_, ?_⟩
  · simp [World.cell?, h, hj]
  · simp [World.frozen?, h]

theorem own_grown {w w' : World} {B n E S : Nat} {v : Value} {xs : List Value} (h : w.ownsRow B E S v n xs) (hg : w.grownBy w' none) : w'.ownsRow B E S v n xs := by
  refine ⟨h.1, ?_⟩
  rcases h.2 with hn | ⟨g, cap, cu, hv, hb, hh, rest⟩
  · exact Or.inl hn
  · exact Or.inr ⟨g, cap, cu, hv, hb, (hg.block g (lt_of_block hh) (by simp)).trans hh, rest⟩
theorem own_arr {w : World} {B n E S c g : Nat} {xs : List Value} (h : w.ownsRow B E S (.slice (some ⟨g, 0, none⟩) n c) n xs) : ∃ arr, w.heap[g]? = some (.cells arr E (0, 0)) ∧ n * S ≤ arr.size ∧ B ≤ g ∧ c ≤ maxLen := by
  rcases h.2 with ⟨hn, _⟩ | ⟨g', cap, cu, hv, hb, hh, hnc, hcm, hs, _⟩
  · cases hn
  · cases hv
    exact ⟨cu, hh, by rw [hs]; exact Nat.mul_le_mul_right _ hnc, hb, hcm⟩
theorem grown_trans {a b c : World} {r : Option Nat} (h : a.grownBy b none) (k : b.grownBy c r) : a.grownBy c r := grownBy_trans ⟨h.os, h.tape, h.output, h.size, fun j hj _ => h.block j hj (by simp)⟩ k

theorem own_base {w : World} {B B' n E S : Nat} {v : Value} {xs : List Value} (h : w.ownsRow B E S v n xs) (hb : B' ≤ B) : w.ownsRow B' E S v n xs := by
  refine ⟨h.1, ?_⟩
  rcases h.2 with hn | ⟨g, cap, cu, hv, hb', rest⟩
  · exact Or.inl hn
  · exact Or.inr ⟨g, cap, cu, hv, Nat.le_trans hb hb', rest⟩

set_option maxHeartbeats 4000000 in
theorem begun_bad (b P s3 : Int) (a : Option Addr) (len cap : Nat) (cur last : Int) (bs : List Bk) (w : World) (hr : ReadsK w a len bs) (hl : len * 32 ≤ 140737488351232) (h : newE b P s3 len cur last bs ≠ 0) :
    Calls Try.prog 8 #[.agg #[.int .i64 b, .int .i64 P, .int .i64 s3], .slice a len cap, .int .i64 cur, .int .i64 last] w fun e w' => e = .returned (.tuple #[.pointer none, .pointer none, .bool true]) ∧ Below w.heap.size w w' := by
  obtain ⟨E, hE⟩ : ∃ E, newE b P s3 len cur last bs = E := ⟨_, rfl⟩
  have e0 : (E != 0) = true := by rw [← hE]; simpa using h
  have HEE : Hid (newE b P s3 len cur last bs = E) := hE
  clear hE
  have HR : Hid (ReadsK w a len bs) := hr
  have HE : Hid (newE b P s3 len cur last bs ≠ 0) := h
  clear hr h
  go_enter Try.func8, Try.ntmps8
  go_wp2_with (first
    | (go_at_call 33; refine (rnew_bad b P s3 a len cap cur last bs _ (HR.out.below (ba (Below.refl _ _))) (by omega) HE.out).mono ?_; rintro e u1 ⟨rfl, q1⟩; rw [HEE.out]; obtain ⟨c0, c1, c2⟩ := box3 q1; have Q1 : Hid (Below (w.alloc (.cells #[.int .i64 b, .int .i64 P, .int .i64 s3] 23)).heap.size (w.alloc (.cells #[.int .i64 b, .int .i64 P, .int .i64 s3] 23)) u1) := q1; clear q1)
    | (go_at_call 27; refine (copied_any a len cap bs _ (by omega) (HR.out.below (below1 Q1.out))).mono ?_; rintro e u2 ⟨g, c, rfl, hc, own2, q2⟩; have QC : Hid (Below u1.heap.size u1 u2) := q2; have Q2 : Hid (Below (w.alloc (.cells #[.int .i64 b, .int .i64 P, .int .i64 s3] 23)).heap.size (w.alloc (.cells #[.int .i64 b, .int .i64 P, .int .i64 s3] 23)) u2) := Q1.out.trans (q2.mono Q1.out.size); clear c0 c1 c2; obtain ⟨c0, c1, c2⟩ := box3 Q2.out; have O2 : Hid (u2.ownsRow u1.heap.size 34 4 (.slice (some ⟨g, 0, none⟩) (len + 2) c) (len + 2) (flatK (bs ++ tailK))) := own2; clear q2 own2)
    | (go_at_call 26; refine (new_bad b P s3 _ len c cur last bs _ (copyR HR.out.1 HR.out.2.1 O2.out) (by omega) HE.out).mono ?_; rintro e u3 ⟨rfl, q3⟩; rw [HEE.out]; have Q3 : Hid (Below u2.heap.size u2 u3) := q3; clear q3)
    | (go_at_call 34; have O3 : Hid (u3.ownsRow u1.heap.size 34 4 (.slice (some ⟨g, 0, none⟩) (len + 2) c) (len + 2) (flatK (bs ++ tailK))) := own_grown O2.out (grown_of Q3.out none); have HCM : c ≤ 9223372036854775807 := (by obtain ⟨_, _, _, _, h9⟩ := own_arr O3.out; simpa [maxLen] using h9); have HW3 : Hid (Below w.heap.size w u3) := (below1 Q2.out).trans (Q3.out.mono (below1 Q2.out).size); refine (kept_any _ g c len cap a bs _ (HR.out.below HW3.out) (by omega) hc HCM O3.out).mono ?_; rintro e u4 ⟨rfl, q4, rfl⟩))
  obtain ⟨arr, harr, hsz, hg1, _⟩ := own_arr O3.out
  have HA : Hid (∃ arr, (u3.drewN q4).heap[g]? = some (.cells arr 34 (0, 0)) ∧ (len + 2) * 4 ≤ arr.size) := ⟨arr, harr, hsz⟩
  have hg2 : g < u2.heap.size := by obtain ⟨_, h9, _⟩ := own_arr O2.out; exact lt_of_block h9
  clear harr hsz
  go_loopw [17] (fun s17 wr => ∃ k : Nat, k ≤ len ∧ s17 = .int .i64 k ∧ Hid (∃ arr, wr.heap[g]? = some (.cells arr 34 (0, 0)) ∧ (len + 2) * 4 ≤ arr.size) ∧ u3.grownBy wr (some g))
    (fun i _ => len - (intOf i).toNat)
  case atStart => exact ⟨0, Nat.zero_le _, rfl, HA, gd1 _ _ _⟩
  case round =>
    obtain ⟨k, hk, rfl, ⟨arr, harr, hsz⟩, hgw⟩ := hrel
    by_cases hlt : k < len
    · obtain ⟨x0, f0⟩ := cells_of harr (k * 4) (by omega)
      obtain ⟨x1, f1⟩ := cells_of harr (k * 4 + 1) (by omega)
      obtain ⟨x2, f2⟩ := cells_of harr (k * 4 + 2) (by omega)
      obtain ⟨x3, f3⟩ := cells_of harr (k * 4 + 3) (by omega)
      have HO : Hid _ := over_step harr (k * 4) (k * 4 + 1) (k * 4 + 2) (k * 4 + 3) (.int .i64 73) (.int .u64 0) (.bool false) (.int .i64 0)
      have HG : Hid _ := grownBy_trans hgw (over_grown wr g (k * 4) (k * 4 + 1) (k * 4 + 2) (k * 4 + 3) (.int .i64 73) (.int .u64 0) (.bool false) (.int .i64 0))
      have d1 : (k : Int) < len := by omega
      obtain ⟨y0, h0⟩ : ∃ y, arr[k * 4]'(by omega) = y := ⟨_, rfl⟩
      obtain ⟨y1, h1⟩ : ∃ y, arr[k * 4 + 1]'(by omega) = y := ⟨_, rfl⟩
      obtain ⟨y2, h2⟩ : ∃ y, arr[k * 4 + 2]'(by omega) = y := ⟨_, rfl⟩
      obtain ⟨y3, h3⟩ : ∃ y, arr[k * 4 + 3]'(by omega) = y := ⟨_, rfl⟩
      rw [h0] at x0
      rw [h1] at x1
      rw [h2] at x2
      rw [h3] at x3
      clear harr h0 h1 h2 h3
      go_wp2
      go_roundw
      case rel => exact ⟨k + 1, by omega, by go_num, by obtain ⟨arr', a1, a2⟩ := HO.out; exact ⟨arr', a1, by omega⟩, HG.out⟩
      case measure => simp [intOf]; omega
    · have hkn : k = len := by omega
      subst hkn
      go_wp2
      go_ret3
      have bF : Below w.heap.size w wr := HW3.out.grown hgw HW3.out.size (fun j hj => by cases hj; have := (below1 Q1.out).size; omega)
      exact ⟨rfl, bF⟩

set_option maxHeartbeats 4000000 in
theorem begun_ok (b P s3 : Int) (a : Option Addr) (len cap : Nat) (cur last : Int) (bs : List Bk) (w : World) (hr : ReadsK w a len bs) (hl : len * 32 ≤ 140737488351232) (h : newE b P s3 len cur last bs = 0) :
    Calls Try.prog 8 #[.agg #[.int .i64 b, .int .i64 P, .int .i64 s3], .slice a len cap, .int .i64 cur, .int .i64 last] w fun e w' => ∃ gb gk gr gl v, e = .returned (.tuple #[.pointer (some ⟨gb, 0, none⟩), .pointer (some ⟨gr, 0, none⟩), .bool true]) ∧ BookAt w' gb gk P (bs.map Bk.ent) cur last (-1) ∧ RefAt w' w.heap.size gr gl P v bs (List.replicate len false) cur last (-1) ∧ Below w.heap.size w w' ∧ w.heap.size ≤ gb ∧ w.heap.size ≤ gk := by
  have HR : Hid (ReadsK w a len bs) := hr
  have HE : Hid (newE b P s3 len cur last bs = 0) := h
  clear hr h
  go_enter Try.func8, Try.ntmps8
  go_wp2_with (first
    | (go_at_call 33; refine (rnew_ok b P s3 a len cap cur last bs _ (HR.out.below (ba (Below.refl _ _))) HE.out).mono ?_; rintro e u1 ⟨gr, gl, v, rfl, R1, q1⟩; have HR1 : Hid _ := R1; clear R1; obtain ⟨c0, c1, c2⟩ := box3 q1; have Q1 : Hid (Below (w.alloc (.cells #[.int .i64 b, .int .i64 P, .int .i64 s3] 23)).heap.size (w.alloc (.cells #[.int .i64 b, .int .i64 P, .int .i64 s3] 23)) u1) := q1; clear q1)
    | (go_at_call 27; refine (copied_any a len cap bs _ (by omega) (HR.out.below (below1 Q1.out))).mono ?_; rintro e u2 ⟨g, c, rfl, hc, own2, q2⟩; have QC : Hid (Below u1.heap.size u1 u2) := q2; have Q2 : Hid (Below (w.alloc (.cells #[.int .i64 b, .int .i64 P, .int .i64 s3] 23)).heap.size (w.alloc (.cells #[.int .i64 b, .int .i64 P, .int .i64 s3] 23)) u2) := Q1.out.trans (q2.mono Q1.out.size); clear c0 c1 c2; obtain ⟨c0, c1, c2⟩ := box3 Q2.out; have O2 : Hid (u2.ownsRow u1.heap.size 34 4 (.slice (some ⟨g, 0, none⟩) (len + 2) c) (len + 2) (flatK (bs ++ tailK))) := own2; clear q2 own2)
    | (go_at_call 26; refine (new_ok b P s3 _ len c cur last bs _ (copyR HR.out.1 HR.out.2.1 O2.out) HE.out).mono ?_; rintro e u3 ⟨gb, gk, rfl, K3, q3, k1, k2⟩; have HK3 : Hid _ := K3; have HLE : Hid (u2.heap.size ≤ gb ∧ u2.heap.size ≤ gk) := ⟨k1, k2⟩; clear K3 k1 k2; have Q3 : Hid (Below u2.heap.size u2 u3) := q3; clear q3)
    | (go_at_call 34; have O3 : Hid (u3.ownsRow u1.heap.size 34 4 (.slice (some ⟨g, 0, none⟩) (len + 2) c) (len + 2) (flatK (bs ++ tailK))) := own_grown O2.out (grown_of Q3.out none); have HCM : c ≤ 9223372036854775807 := (by obtain ⟨_, _, _, _, h9⟩ := own_arr O3.out; simpa [maxLen] using h9); have HW3 : Hid (Below w.heap.size w u3) := (below1 Q2.out).trans (Q3.out.mono (below1 Q2.out).size); refine (kept_any _ g c len cap a bs _ (HR.out.below HW3.out) (by omega) hc HCM O3.out).mono ?_; rintro e u4 ⟨rfl, q4, rfl⟩))
  obtain ⟨arr, harr, hsz, hg1, _⟩ := own_arr O3.out
  have HA : Hid (∃ arr, (u3.drewN q4).heap[g]? = some (.cells arr 34 (0, 0)) ∧ (len + 2) * 4 ≤ arr.size) := ⟨arr, harr, hsz⟩
  have hg2 : g < u2.heap.size := by obtain ⟨_, h9, _⟩ := own_arr O2.out; exact lt_of_block h9
  clear harr hsz
  go_loopw [17] (fun s17 wr => ∃ k : Nat, k ≤ len ∧ s17 = .int .i64 k ∧ Hid (∃ arr, wr.heap[g]? = some (.cells arr 34 (0, 0)) ∧ (len + 2) * 4 ≤ arr.size) ∧ u3.grownBy wr (some g))
    (fun i _ => len - (intOf i).toNat)
  case atStart => exact ⟨0, Nat.zero_le _, rfl, HA, gd1 _ _ _⟩
  case round =>
    obtain ⟨k, hk, rfl, ⟨arr, harr, hsz⟩, hgw⟩ := hrel
    by_cases hlt : k < len
    · obtain ⟨x0, f0⟩ := cells_of harr (k * 4) (by omega)
      obtain ⟨x1, f1⟩ := cells_of harr (k * 4 + 1) (by omega)
      obtain ⟨x2, f2⟩ := cells_of harr (k * 4 + 2) (by omega)
      obtain ⟨x3, f3⟩ := cells_of harr (k * 4 + 3) (by omega)
      have HO : Hid _ := over_step harr (k * 4) (k * 4 + 1) (k * 4 + 2) (k * 4 + 3) (.int .i64 73) (.int .u64 0) (.bool false) (.int .i64 0)
      have HG : Hid _ := grownBy_trans hgw (over_grown wr g (k * 4) (k * 4 + 1) (k * 4 + 2) (k * 4 + 3) (.int .i64 73) (.int .u64 0) (.bool false) (.int .i64 0))
      have d1 : (k : Int) < len := by omega
      obtain ⟨y0, h0⟩ : ∃ y, arr[k * 4]'(by omega) = y := ⟨_, rfl⟩
      obtain ⟨y1, h1⟩ : ∃ y, arr[k * 4 + 1]'(by omega) = y := ⟨_, rfl⟩
      obtain ⟨y2, h2⟩ : ∃ y, arr[k * 4 + 2]'(by omega) = y := ⟨_, rfl⟩
      obtain ⟨y3, h3⟩ : ∃ y, arr[k * 4 + 3]'(by omega) = y := ⟨_, rfl⟩
      rw [h0] at x0
      rw [h1] at x1
      rw [h2] at x2
      rw [h3] at x3
      clear harr h0 h1 h2 h3
      go_wp2
      go_roundw
      case rel => exact ⟨k + 1, by omega, by go_num, by obtain ⟨arr', a1, a2⟩ := HO.out; exact ⟨arr', a1, by omega⟩, HG.out⟩
      case measure => simp [intOf]; omega
    · have hkn : k = len := by omega
      subst hkn
      go_wp2
      go_ret3
      have bF : Below w.heap.size w wr := HW3.out.grown hgw HW3.out.size (fun j hj => by cases hj; have := (below1 Q1.out).size; omega)
      have h1 := HR1.out.lt
      have h2 := HLE.out
      have h3 : RefAt u3 w.heap.size gr gl P v bs (List.replicate k false) cur last (-1) := by
        have h9 := (HR1.out.below QC.out).below Q3.out
        exact ⟨h9.box, h9.left, own_base h9.own (by simp), by have := h9.base; simp at this; omega⟩
      refine ⟨gb, gk, gr, gl, v, rfl, ?_, ?_, bF, ?_, ?_⟩
      · exact ⟨(hgw.block gb (lt_of_block HK3.out.box) (by simp; omega)).trans HK3.out.box, (hgw.block gk (lt_of_block HK3.out.row) (by simp; omega)).trans HK3.out.row⟩
      · refine h3.grown hgw (by simp; omega) (by simp; omega) (Or.inr ?_)
        intro e
        obtain ⟨cs, hcs⟩ := own_type HR1.out.own e.symm
        have := lt_of_block hcs
        omega
      · have := (below1 Q1.out).size; have := QC.out.size; omega
      · have := (below1 Q1.out).size; have := QC.out.size; omega
end Go.Proofs.Ytgijbpkfheillaa
