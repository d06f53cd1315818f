/-
  SEAT YtmbdacdgbmpedaaDoor: PathCleans' walk.
-/
import Derived.Test.YtmbdacdgbmpedaaDoorPa
namespace Go.Proofs.YtmbdacdgbmpedaaDoor
open Go.RowKit
set_option linter.unusedVariables false

theorem pa_len (s : ByteArray) : (paN s).length ≤ 8796093010000 := by
  rcases pa_ways s with ⟨h0, hE, hN, hL⟩ | ⟨h0, hn, hE, hN, hL⟩ | ⟨h0, M, x, hn, ⟨hu, hE, hN, hL⟩ | ⟨hu, hE, hN, hL⟩⟩
  · rw [hN]; simp
  · rw [hN]; simp
  · rw [hN]; simp
  · rw [hN]; have := par_len h0 hn; omega

set_option maxHeartbeats 4000000 in
set_option maxRecDepth 100000 in
theorem cleans_walk (s t : ByteArray) (w : World) (hs0 : s.size ≤ 140737488351232) (ht0 : t.size ≤ 140737488351232) :
    Calls Tryd.prog 7 #[.string s, .string t] w fun e w' => e = .returned (.bool true) ∧ Below w.heap.size w w' := by
  have hs : s.size ≤ 9223372036854775807 := by omega
  have ht : t.size ≤ 9223372036854775807 := by omega
  have L1 : Hid ((paN s).length ≤ 8796093010000) := pa_len s
  have L2 : Hid ((paN t).length ≤ 8796093010000) := pa_len t
  obtain ⟨C, gC⟩ : ∃ C, clS s = C := ⟨_, rfl⟩
  obtain ⟨E, gE⟩ : ∃ E, spE s = E := ⟨_, rfl⟩
  obtain ⟨L, gL⟩ : ∃ L, paL s = L := ⟨_, rfl⟩
  obtain ⟨P, gP⟩ : ∃ P, paE s = P := ⟨_, rfl⟩
  obtain ⟨M, gM⟩ : ∃ M, paL t = M := ⟨_, rfl⟩
  obtain ⟨Q, gQ⟩ : ∃ Q, paE t = Q := ⟨_, rfl⟩
  obtain ⟨xs, hxs⟩ : ∃ xs, paN s = xs := ⟨_, rfl⟩
  obtain ⟨ys, hys⟩ : ∃ ys, paN t = ys := ⟨_, rfl⟩
  rw [hxs] at L1
  rw [hys] at L2
  have T3 : Hid True := trivial
  have T4 : Hid True := trivial
  have T5 : Hid True := trivial
  have T7 : Hid True := trivial
  have T8 : Hid True := trivial
  have T11 : Hid True := trivial
  have T12 : Hid True := trivial
  have T13 : Hid True := trivial
  go_enter Tryd.func7, Tryd.ntmps7
  go_wp2_with (first
    | (go_at_call 20; refine (rclean_any s _ hs).mono ?_; rintro e u1 ⟨rfl, bel⟩; rw [gC, gE]; have B1 : Hid (Below w.heap.size w u1) := bel; clear bel)
    | (go_at_call 19; refine (clean_any s _ hs).mono ?_; rintro e u2 ⟨rfl, bel⟩; rw [gC, gE]; have B2 : Hid (Below u1.heap.size u1 u2) := bel; clear bel)
    | (go_at_call 21; have h9 := T3; clear h9; refine (rparent_any s _ hs).mono ?_; rintro e u3 ⟨v3, rfl, ow, bel⟩; rw [gL, gP]; rw [hxs] at ow; have O3 : Hid (Ow u3 u2.heap.size v3 xs) := ow; have B3 : Hid (Below u2.heap.size u2 u3) := bel; clear ow bel T3)
    | (go_at_call 22; have h9 := T4; clear h9; refine (parent_any s _ hs).mono ?_; rintro e u4 ⟨v4, rfl, ow, bel⟩; rw [gL, gP]; rw [hxs] at ow; obtain ⟨a4, c4, rfl, _⟩ := ow.rd; have O4 : Hid (Ow u4 u3.heap.size (.slice a4 xs.length c4) xs) := ow; have B4 : Hid (Below u3.heap.size u3 u4) := bel; clear ow bel T4)
    | (go_at_call 22; have h9 := T5; clear h9; refine (parent_any s _ hs).mono ?_; rintro e u5 ⟨v5, rfl, ow, bel⟩; rw [gL, gP]; rw [hxs] at ow; obtain ⟨a5, c5, rfl, _⟩ := ow.rd; have O5 : Hid (Ow u5 u4.heap.size (.slice a5 xs.length c5) xs) := ow; have B5 : Hid (Below u4.heap.size u4 u5) := bel; clear ow bel T5)
    | (go_at_call 21; refine (rparent_any t _ ht).mono ?_; rintro e u6 ⟨v6, rfl, ow, bel⟩; rw [gM, gQ]; rw [hys] at ow; have O6 : Hid (Ow u6 u5.heap.size v6 ys) := ow; have B6 : Hid (Below u5.heap.size u5 u6) := bel; clear ow bel)
    | (go_at_call 22; have h9 := T7; clear h9; refine (parent_any t _ ht).mono ?_; rintro e u7 ⟨v7, rfl, ow, bel⟩; rw [gM, gQ]; rw [hys] at ow; obtain ⟨a7, c7, rfl, _⟩ := ow.rd; have O7 : Hid (Ow u7 u6.heap.size (.slice a7 ys.length c7) ys) := ow; have B7 : Hid (Below u6.heap.size u6 u7) := bel; clear ow bel T7)
    | (go_at_call 22; have h9 := T8; clear h9; refine (parent_any s _ hs).mono ?_; rintro e u8 ⟨v8, rfl, ow, bel⟩; rw [gL, gP]; rw [hxs] at ow; obtain ⟨a8, c8, rfl, _⟩ := ow.rd; have O8 : Hid (Ow u8 u7.heap.size (.slice a8 xs.length c8) xs) := ow; have B8 : Hid (Below u7.heap.size u7 u8) := bel; clear ow bel T8
       have q8 : Below u7.heap.size u7 u8 := B8.out
       have q7 : Below u6.heap.size u6 u8 := B7.out.trans (q8.mono B7.out.size)
       have q6 : Below u5.heap.size u5 u8 := B6.out.trans (q7.mono B6.out.size)
       have q5 : Below u4.heap.size u4 u8 := B5.out.trans (q6.mono B5.out.size)
       have q4 : Below u3.heap.size u3 u8 := B4.out.trans (q5.mono B4.out.size)
       have q3 : Below u2.heap.size u2 u8 := B3.out.trans (q4.mono B3.out.size)
       have q2 : Below u1.heap.size u1 u8 := B2.out.trans (q3.mono B2.out.size)
       have q1 : Below w.heap.size w u8 := B1.out.trans (q2.mono B1.out.size)
       have s1 : w.heap.size ≤ u1.heap.size := B1.out.size
       have s2 : w.heap.size ≤ u2.heap.size := Nat.le_trans s1 B2.out.size
       have s3 : w.heap.size ≤ u3.heap.size := Nat.le_trans s2 B3.out.size
       have s4 : w.heap.size ≤ u4.heap.size := Nat.le_trans s3 B4.out.size
       have s5 : w.heap.size ≤ u5.heap.size := Nat.le_trans s4 B5.out.size
       have s6 : w.heap.size ≤ u6.heap.size := Nat.le_trans s5 B6.out.size
       have s7 : w.heap.size ≤ u7.heap.size := Nat.le_trans s6 B7.out.size
       have s8 : w.heap.size ≤ u8.heap.size := Nat.le_trans s7 B8.out.size
       have P3 : Hid (Ow u8 w.heap.size v3 xs) := (O3.out.below q4).lower s2
       have P4 : Hid (Ow u8 w.heap.size (.slice a4 xs.length c4) xs) := (O4.out.below q5).lower s3
       have P5 : Hid (Ow u8 w.heap.size (.slice a5 xs.length c5) xs) := (O5.out.below q6).lower s4
       have P6 : Hid (Ow u8 w.heap.size v6 ys) := (O6.out.below q7).lower s5
       have P7 : Hid (Ow u8 w.heap.size (.slice a7 ys.length c7) ys) := (O7.out.below q8).lower s6
       have P8 : Hid (Ow u8 w.heap.size (.slice a8 xs.length c8) xs) := O8.out.lower s7
       have Q1 : Hid (Below w.heap.size w u8) := q1
       have t5 : u4.heap.size ≤ u5.heap.size := B5.out.size
       have t6 : u5.heap.size ≤ u6.heap.size := B6.out.size
       have t7 : u6.heap.size ≤ u7.heap.size := B7.out.size
       have D45 : Hid (FarV (.slice a4 xs.length c4) (.slice a5 xs.length c5)) := far_of O4.out O5.out (Nat.le_refl _)
       have D47 : Hid (FarV (.slice a4 xs.length c4) (.slice a7 ys.length c7)) := far_of O4.out O7.out (Nat.le_trans t5 t6)
       have D48 : Hid (FarV (.slice a4 xs.length c4) (.slice a8 xs.length c8)) := far_of O4.out O8.out (Nat.le_trans t5 (Nat.le_trans t6 t7))
       have D57 : Hid (FarV (.slice a5 xs.length c5) (.slice a7 ys.length c7)) := far_of O5.out O7.out t6
       have D58 : Hid (FarV (.slice a5 xs.length c5) (.slice a8 xs.length c8)) := far_of O5.out O8.out (Nat.le_trans t6 t7)
       have D78 : Hid (FarV (.slice a7 ys.length c7) (.slice a8 xs.length c8)) := far_of O7.out O8.out (Nat.le_refl _)
       clear q1 q2 q3 q4 q5 q6 q7 q8 s1 s2 s3 s4 s5 s6 s7 s8 t5 t6 t7 O3 O4 O5 O6 O7 O8 B1 B2 B3 B4 B5 B6 B7 B8)
    | (go_at_call 10; have h9 := T11; clear h9; refine (same_eq _ _ xs _ P4.out.vw P3.out.vw).mono ?_; rintro e u11 ⟨rfl, bel⟩; have B11 : Hid (Below u8.heap.size u8 u11) := bel; clear bel T11)
    | (go_at_call 10; have h9 := T12; clear h9; refine (same_eq _ _ xs _ (P5.out.below B11.out).vw (P3.out.below B11.out).vw).mono ?_; rintro e u12 ⟨rfl, bel⟩; have B12 : Hid (Below u8.heap.size u8 u12) := B11.out.trans (bel.mono B11.out.size); clear bel T12 B11)
    | (go_at_call 10; have h9 := T13; clear h9; refine (same_eq _ _ xs _ (P8.out.below B12.out).vw (P3.out.below B12.out).vw).mono ?_; rintro e u13 ⟨rfl, bel⟩; have B13 : Hid (Below u8.heap.size u8 u13) := B12.out.trans (bel.mono B12.out.size); clear bel T13 B12)
    | (go_at_call 10; refine (same_eq _ _ ys _ (P7.out.below B13.out).vw (P6.out.below B13.out).vw).mono ?_; rintro e u14 ⟨rfl, bel⟩; have B14 : Hid (Below u8.heap.size u8 u14) := B13.out.trans (bel.mono B13.out.size); clear bel B13)
    | (go_at_call 11; refine (owns_any (u14.alloc (.cells #[.slice a4 xs.length c4, .slice a5 xs.length c5, .slice a7 ys.length c7, .slice a8 xs.length c8] 22)) w.heap.size u14.heap.size 4 4 _ _ _ (apart4 u14 w.heap.size (.slice a4 xs.length c4) (.slice a5 xs.length c5) (.slice a7 ys.length c7) (.slice a8 xs.length c8) xs xs ys xs (P4.out.below B14.out) (P5.out.below B14.out) (P7.out.below B14.out) (P8.out.below B14.out) D45.out D47.out D48.out D57.out D58.out D78.out L1.out L1.out L2.out L1.out) (by decide) (by have h1 := Q1.out.size; have h2 := B14.out.size; simp; omega)).mono ?_; rintro e u15 ⟨rfl, bel⟩; have B15 : Hid (Below w.heap.size (u14.alloc (.cells #[.slice a4 xs.length c4, .slice a5 xs.length c5, .slice a7 ys.length c7, .slice a8 xs.length c8] 22)) u15) := bel; clear bel))
  go_ret
  have h1 : Below w.heap.size w u14 := Q1.out.trans (B14.out.mono Q1.out.size)
  have h2 : Below w.heap.size w (u14.alloc (.cells #[.slice a4 xs.length c4, .slice a5 xs.length c5, .slice a7 ys.length c7, .slice a8 xs.length c8] 22)) := h1.alloc h1.size _
  exact ⟨rfl, h2.trans B15.out⟩
end Go.Proofs.YtmbdacdgbmpedaaDoor
