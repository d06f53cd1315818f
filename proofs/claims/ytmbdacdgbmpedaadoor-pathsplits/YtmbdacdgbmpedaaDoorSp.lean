/-
  SEAT YtmbdacdgbmpedaaDoor: PathSplits' walk.
-/
import Derived.Test.YtmbdacdgbmpedaaDoorEc
namespace Go.Proofs.YtmbdacdgbmpedaaDoor
open Go.RowKit
set_option linter.unusedVariables false

theorem sp_len (s : ByteArray) : (spN s).length ≤ 8796093010000 := by
  by_cases h : spE s = 0
  · have h2 := (sp_facts h).2.2.2.1
    rw [(sp_facts h).2.2.2.2.2]; omega
  · simp [spN, h]

set_option maxHeartbeats 4000000 in
set_option maxRecDepth 100000 in
theorem splits_walk (s t : ByteArray) (w : World) (hs0 : s.size ≤ 140737488351232) (ht0 : t.size ≤ 140737488351232) :
    Calls Tryd.prog 3 #[.string s, .string t] w fun e w' => e = .returned (.bool true) ∧ Below w.heap.size w w' := by
  have hs : s.size ≤ 9223372036854775807 := by omega
  have ht : t.size ≤ 9223372036854775807 := by omega
  have L1 : Hid ((spN s).length ≤ 8796093010000) := sp_len s
  have L2 : Hid ((spN t).length ≤ 8796093010000) := sp_len t
  obtain ⟨E, hE⟩ : ∃ E, spE s = E := ⟨_, rfl⟩
  obtain ⟨F, hF⟩ : ∃ F, spE t = F := ⟨_, rfl⟩
  obtain ⟨xs, hxs⟩ : ∃ xs, spN s = xs := ⟨_, rfl⟩
  obtain ⟨ys, hys⟩ : ∃ ys, spN t = ys := ⟨_, rfl⟩
  rw [hxs] at L1
  rw [hys] at L2
  have T1 : Hid True := trivial
  have T2 : Hid True := trivial
  have T3 : Hid True := trivial
  have T4 : Hid True := trivial
  have T5 : Hid True := trivial
  have T6 : Hid True := trivial
  have T7 : Hid True := trivial
  have T8 : Hid True := trivial
  have T9 : Hid True := trivial
  go_enter Tryd.func3, Tryd.ntmps3
  go_wp2_with (first
    | (go_at_call 8; have h9 := T1; clear h9; refine (rsplit_any s _ hs).mono ?_; rintro e u1 ⟨v1, rfl, ow, bel⟩; rw [hE]; rw [hxs] at ow; have O1 : Hid (Ow u1 w.heap.size v1 xs) := ow; have B1 : Hid (Below w.heap.size w u1) := bel; clear ow bel T1)
    | (go_at_call 8; have h9 := T2; clear h9; refine (rsplit_any t _ ht).mono ?_; rintro e u2 ⟨v2, rfl, ow, bel⟩; rw [hF]; rw [hys] at ow; have O2 : Hid (Ow u2 u1.heap.size v2 ys) := ow; have B2 : Hid (Below u1.heap.size u1 u2) := bel; clear ow bel T2)
    | (go_at_call 9; have h9 := T3; clear h9; refine (psplit_any s _ hs).mono ?_; rintro e u3 ⟨v3, rfl, ow, bel⟩; rw [hE]; rw [hxs] at ow; obtain ⟨a3, c3, rfl, _⟩ := ow.rd; have O3 : Hid (Ow u3 u2.heap.size (.slice a3 xs.length c3) xs) := ow; have B3 : Hid (Below u2.heap.size u2 u3) := bel; clear ow bel T3)
    | (go_at_call 9; have h9 := T4; clear h9; refine (psplit_any s _ hs).mono ?_; rintro e u4 ⟨v4, rfl, ow, bel⟩; rw [hE]; rw [hxs] at ow; obtain ⟨a4, c4, rfl, _⟩ := ow.rd; have O4 : Hid (Ow u4 u3.heap.size (.slice a4 xs.length c4) xs) := ow; have B4 : Hid (Below u3.heap.size u3 u4) := bel; clear ow bel T4)
    | (go_at_call 9; have h9 := T5; clear h9; refine (psplit_any t _ ht).mono ?_; rintro e u5 ⟨v5, rfl, ow, bel⟩; rw [hF]; rw [hys] at ow; obtain ⟨a5, c5, rfl, _⟩ := ow.rd; have O5 : Hid (Ow u5 u4.heap.size (.slice a5 ys.length c5) ys) := ow; have B5 : Hid (Below u4.heap.size u4 u5) := bel; clear ow bel T5)
    | (go_at_call 9; have h9 := T6; clear h9; refine (psplit_any s _ hs).mono ?_; rintro e u6 ⟨v6, rfl, ow, bel⟩; rw [hE]; rw [hxs] at ow; obtain ⟨a6, c6, rfl, _⟩ := ow.rd; have O6 : Hid (Ow u6 u5.heap.size (.slice a6 xs.length c6) xs) := ow; have B6 : Hid (Below u5.heap.size u5 u6) := bel; clear ow bel T6
       have q6 : Below u5.heap.size u5 u6 := B6.out
       have q5 : Below u4.heap.size u4 u6 := B5.out.trans (q6.mono B5.out.size)
       have q4 : Below u3.heap.size u3 u6 := B4.out.trans (q5.mono B4.out.size)
       have q3 : Below u2.heap.size u2 u6 := B3.out.trans (q4.mono B3.out.size)
       have q2 : Below u1.heap.size u1 u6 := B2.out.trans (q3.mono B2.out.size)
       have q1 : Below w.heap.size w u6 := B1.out.trans (q2.mono B1.out.size)
       have P1 : Hid (Ow u6 w.heap.size v1 xs) := O1.out.below q2
       have P2 : Hid (Ow u6 w.heap.size v2 ys) := (O2.out.below q3).lower B1.out.size
       have s2 : w.heap.size ≤ u2.heap.size := Nat.le_trans B1.out.size B2.out.size
       have s3 : w.heap.size ≤ u3.heap.size := Nat.le_trans s2 B3.out.size
       have s4 : w.heap.size ≤ u4.heap.size := Nat.le_trans s3 B4.out.size
       have s5 : w.heap.size ≤ u5.heap.size := Nat.le_trans s4 B5.out.size
       have P3 : Hid (Ow u6 w.heap.size (.slice a3 xs.length c3) xs) := (O3.out.below q4).lower s2
       have P4 : Hid (Ow u6 w.heap.size (.slice a4 xs.length c4) xs) := (O4.out.below q5).lower s3
       have P5 : Hid (Ow u6 w.heap.size (.slice a5 ys.length c5) ys) := (O5.out.below q6).lower s4
       have P6 : Hid (Ow u6 w.heap.size (.slice a6 xs.length c6) xs) := O6.out.lower s5
       have Q1 : Hid (Below w.heap.size w u6) := q1
       have t3 : u3.heap.size ≤ u4.heap.size := B4.out.size
       have t4 : u4.heap.size ≤ u5.heap.size := B5.out.size
       have D34 : Hid (FarV (.slice a3 xs.length c3) (.slice a4 xs.length c4)) := far_of O3.out O4.out (Nat.le_refl _)
       have D35 : Hid (FarV (.slice a3 xs.length c3) (.slice a5 ys.length c5)) := far_of O3.out O5.out t3
       have D36 : Hid (FarV (.slice a3 xs.length c3) (.slice a6 xs.length c6)) := far_of O3.out O6.out (Nat.le_trans t3 t4)
       have D45 : Hid (FarV (.slice a4 xs.length c4) (.slice a5 ys.length c5)) := far_of O4.out O5.out (Nat.le_refl _)
       have D46 : Hid (FarV (.slice a4 xs.length c4) (.slice a6 xs.length c6)) := far_of O4.out O6.out t4
       have D56 : Hid (FarV (.slice a5 ys.length c5) (.slice a6 xs.length c6)) := far_of O5.out O6.out (Nat.le_refl _)
       clear q1 q2 q3 q4 q5 q6 s2 s3 s4 s5 t3 t4 O1 O2 O3 O4 O5 O6 B1 B2 B3 B4 B5 B6)
    | (go_at_call 10; have h9 := T7; clear h9; refine (same_eq _ _ xs _ P3.out.vw P1.out.vw).mono ?_; rintro e u7 ⟨rfl, bel⟩; have B7 : Hid (Below u6.heap.size u6 u7) := bel; clear bel T7)
    | (go_at_call 10; have h9 := T8; clear h9; refine (same_eq _ _ xs _ (P4.out.below B7.out).vw (P1.out.below B7.out).vw).mono ?_; rintro e u8 ⟨rfl, bel⟩; have B8 : Hid (Below u6.heap.size u6 u8) := B7.out.trans (bel.mono B7.out.size); clear bel T8 B7)
    | (go_at_call 10; have h9 := T9; clear h9; refine (same_eq _ _ xs _ (P6.out.below B8.out).vw (P1.out.below B8.out).vw).mono ?_; rintro e u9 ⟨rfl, bel⟩; have B9 : Hid (Below u6.heap.size u6 u9) := B8.out.trans (bel.mono B8.out.size); clear bel T9 B8)
    | (go_at_call 10; refine (same_eq _ _ ys _ (P5.out.below B9.out).vw (P2.out.below B9.out).vw).mono ?_; rintro e u10 ⟨rfl, bel⟩; have B10 : Hid (Below u6.heap.size u6 u10) := B9.out.trans (bel.mono B9.out.size); clear bel B9)
    | (go_at_call 11; refine (owns_any (u10.alloc (.cells #[.slice a3 xs.length c3, .slice a4 xs.length c4, .slice a5 ys.length c5, .slice a6 xs.length c6] 22)) w.heap.size u10.heap.size 4 4 _ _ _ (apart4 u10 w.heap.size (.slice a3 xs.length c3) (.slice a4 xs.length c4) (.slice a5 ys.length c5) (.slice a6 xs.length c6) xs xs ys xs (P3.out.below B10.out) (P4.out.below B10.out) (P5.out.below B10.out) (P6.out.below B10.out) D34.out D35.out D36.out D45.out D46.out D56.out L1.out L1.out L2.out L1.out) (by decide) (by have h1 := Q1.out.size; have h2 := B10.out.size; simp; omega)).mono ?_; rintro e u11 ⟨rfl, bel⟩; have B11 : Hid (Below w.heap.size (u10.alloc (.cells #[.slice a3 xs.length c3, .slice a4 xs.length c4, .slice a5 ys.length c5, .slice a6 xs.length c6] 22)) u11) := bel; clear bel))
  go_ret
  have h1 : Below w.heap.size w u10 := Q1.out.trans (B10.out.mono Q1.out.size)
  have h2 : Below w.heap.size w (u10.alloc (.cells #[.slice a3 xs.length c3, .slice a4 xs.length c4, .slice a5 ys.length c5, .slice a6 xs.length c6] 22)) := h1.alloc h1.size _
  exact ⟨rfl, h2.trans B11.out⟩
end Go.Proofs.YtmbdacdgbmpedaaDoor
