/-
  SEAT YtgdmagmbkmgdfabDoor: Pack and Lay, both.
-/
import Derived.Test.YtgdmagmbkmgdfabDoorPc
namespace Go.Proofs.YtgdmagmbkmgdfabDoor
open Go.RowKit
set_option linter.unusedVariables false

theorem p8 : (2 : Int) ^ 8 = 256 := by decide
theorem p16 : (2 : Int) ^ 16 = 65536 := by decide
theorem p32 : (2 : Int) ^ 32 = 4294967296 := by decide
theorem p48 : (2 : Int) ^ 48 = 281474976710656 := by decide

theorem fit_int (n : Int) (k : Nat) (h0 : -9223372036854775808 ≤ n) (h1 : n ≤ 9223372036854775807) (hk : k = 8 ∨ k = 16 ∨ k = 32) : (un n / 2 ^ k == 0) = true ↔ (0 ≤ n ∧ n ≤ 2 ^ k - 1) := by
  rw [un_mod]
  simp only [beq_iff_eq]
  rcases hk with rfl | rfl | rfl <;> simp only [p8, p16, p32] <;> omega

theorem fit_u64 (n : Int) (h0 : 0 ≤ n) : (n / 2 ^ 48 == 0) = true ↔ n ≤ 281474976710655 := by
  simp only [beq_iff_eq]
  simp only [p48]
  omega

theorem fits_small (n0 n1 n2 n3 n4 n5 n6 n7 : Int) (h2 : 0 ≤ n2) (h3 : 0 ≤ n3) (a0 : -9223372036854775808 ≤ n0) (b0 : n0 ≤ 9223372036854775807) (a1 : -9223372036854775808 ≤ n1) (b1 : n1 ≤ 9223372036854775807) (a4 : -9223372036854775808 ≤ n4) (b4 : n4 ≤ 9223372036854775807) (a5 : -9223372036854775808 ≤ n5) (b5 : n5 ≤ 9223372036854775807) (a6 : -9223372036854775808 ≤ n6) (b6 : n6 ≤ 9223372036854775807) (a7 : -9223372036854775808 ≤ n7) (b7 : n7 ≤ 9223372036854775807) : Fits [un n0, un n1, n2, n3, un n4, un n5, un n6, un n7] 8 ↔ Small n0 n1 n2 n3 n4 n5 n6 n7 := by
  have e : Fits [un n0, un n1, n2, n3, un n4, un n5, un n6, un n7] 8 ↔ ((un n0 / 2 ^ 8 == 0) = true ∧ (un n1 / 2 ^ 8 == 0) = true ∧ (n2 / 2 ^ 48 == 0) = true ∧ (n3 / 2 ^ 48 == 0) = true ∧ (un n4 / 2 ^ 32 == 0) = true ∧ (un n5 / 2 ^ 32 == 0) = true ∧ (un n6 / 2 ^ 16 == 0) = true ∧ (un n7 / 2 ^ 16 == 0) = true) := by
    constructor
    · intro h
      exact ⟨h 0 (by omega), h 1 (by omega), h 2 (by omega), h 3 (by omega), h 4 (by omega), h 5 (by omega), h 6 (by omega), h 7 (by omega)⟩
    · rintro ⟨k0, k1, k2, k3, k4, k5, k6, k7⟩ i hi
      rcases (show i = 0 ∨ i = 1 ∨ i = 2 ∨ i = 3 ∨ i = 4 ∨ i = 5 ∨ i = 6 ∨ i = 7 by omega) with rfl | rfl | rfl | rfl | rfl | rfl | rfl | rfl
      · exact k0
      · exact k1
      · exact k2
      · exact k3
      · exact k4
      · exact k5
      · exact k6
      · exact k7
  rw [e, fit_int n0 8 a0 b0 (by simp), fit_int n1 8 a1 b1 (by simp), fit_u64 n2 h2, fit_u64 n3 h3, fit_int n4 32 a4 b4 (by simp), fit_int n5 32 a5 b5 (by simp), fit_int n6 16 a6 b6 (by simp), fit_int n7 16 a7 b7 (by simp)]
  simp only [p8, p16, p32, Small]
  simp only [show (256 : Int) - 1 = 255 from rfl, show (65536 : Int) - 1 = 65535 from rfl, show (4294967296 : Int) - 1 = 4294967295 from rfl]

theorem pk_eq (n0 n1 n2 n3 n4 n5 n6 n7 : Int) : pk [n0, n1, n2, n3, n4, n5, n6, n7] 8 = tagL n0 n1 n2 n3 n4 n5 n6 n7 := by
  kernel_rfl

theorem pk_small (n0 n1 n2 n3 n4 n5 n6 n7 : Int) (h2 : 0 ≤ n2) (h3 : 0 ≤ n3) (hs : Small n0 n1 n2 n3 n4 n5 n6 n7) : pk [un n0, un n1, n2, n3, un n4, un n5, un n6, un n7] 8 = tagL n0 n1 n2 n3 n4 n5 n6 n7 := by
  obtain ⟨⟨p0, q0⟩, ⟨p1, q1⟩, q2, q3, ⟨p4, q4⟩, ⟨p5, q5⟩, ⟨p6, q6⟩, ⟨p7, q7⟩⟩ := hs
  have u0 : un n0 = n0 := by rw [un_mod]; omega
  have u1 : un n1 = n1 := by rw [un_mod]; omega
  have u4 : un n4 = n4 := by rw [un_mod]; omega
  have u5 : un n5 = n5 := by rw [un_mod]; omega
  have u6 : un n6 = n6 := by rw [un_mod]; omega
  have u7 : un n7 = n7 := by rw [un_mod]; omega
  rw [u0, u1, u4, u5, u6, u7]
  exact pk_eq _ _ _ _ _ _ _ _

/-- What a laying of bytes is. -/
def railL (zs : List Int) : List Int := layL (zs ++ [colF zs])
theorem railL_length (zs : List Int) : (railL zs).length = 2 * zs.length + 2 := by rw [railL, layL_length]; simp; omega
theorem railL_range (zs : List Int) : ∀ x ∈ railL zs, 0 ≤ x ∧ x ≤ 255 := layL_range _

set_option maxHeartbeats 600000 in
theorem tlay_yes (n0 n1 n2 n3 n4 n5 n6 n7 : Int) (w : World) (hT : Tab w) (h2 : 0 ≤ n2) (h3 : 0 ≤ n3) (hf : Fits [un n0, un n1, n2, n3, un n4, un n5, un n6, un n7] 8) (hs : Small n0 n1 n2 n3 n4 n5 n6 n7) :
    Calls Tryd.prog 6 #[T8 n0 n1 n2 n3 n4 n5 n6 n7] w fun e w' => (∃ g c, e = .returned (.tuple #[.slice (some ⟨g, 0, none⟩) 54 c, .int .i64 0]) ∧ Own w' w.heap.size g 54 c (railL (tagL n0 n1 n2 n3 n4 n5 n6 n7))) ∧ Below w.heap.size w w' := by
  obtain ⟨P, hP⟩ : ∃ P, P = tagL n0 n1 n2 n3 n4 n5 n6 n7 := ⟨_, rfl⟩
  have hl : P.length = 26 := by rw [hP]; exact tagL_length _ _ _ _ _ _ _ _
  have hr : ∀ x ∈ P, 0 ≤ x ∧ x ≤ 255 := by rw [hP]; exact tagL_range _ _ _ _ _ _ _ _
  have HP : Hid (pk [un n0, un n1, n2, n3, un n4, un n5, un n6, un n7] 8 = P) := by unfold Hid; rw [hP]; exact pk_small n0 n1 n2 n3 n4 n5 n6 n7 h2 h3 hs
  have HR : Hid (P.length = 26 ∧ ∀ x ∈ P, 0 ≤ x ∧ x ≤ 255) := ⟨hl, hr⟩
  have HF : Hid (Fits [un n0, un n1, n2, n3, un n4, un n5, un n6, un n7] 8) := hf
  have HT : Hid (Tab w) := hT
  rw [← hP]
  clear hP hl hr hf hs hT
  go_enter Tryd.func6, Tryd.ntmps6
  go_wp2_with (first
    | (go_at_call 9; refine (pack_yes _ _ _ _ _ _ _ _ _ ?_ ?_ ?_ ?_).mono ?_; exact HT.out.below ((Below.refl _ _).alloc (Nat.le_refl _) _); exact h2; exact h3; exact HF.out; rintro e u1 ⟨⟨g1, c1, rfl, o1⟩, b1⟩; rw [HP.out] at o1; have r1 := o1.all HR.out.2; have bw1 := ((Below.refl w.heap.size w).alloc (Nat.le_refl _) _).trans (b1.mono (by simp)); clear o1 b1)
    | (go_at_call 16; refine (lay_ok _ 26 _ P _ ?_ ?_).mono ?_; omega; (with_reducible exact r1); rintro e u2 ⟨g2, c2, rfl, o2, b2⟩; have bw2 := bw1.trans (b2.mono bw1.size); have o3 := own_dn o2 bw1.size; clear r1 o2 b2))
  go_ret2
  exact ⟨⟨g2, c2, rfl, o3⟩, bw2⟩

set_option maxHeartbeats 600000 in
theorem tlay_no (n0 n1 n2 n3 n4 n5 n6 n7 : Int) (w : World) (hT : Tab w) (h2 : 0 ≤ n2) (h3 : 0 ≤ n3) (hf : ¬ Fits [un n0, un n1, n2, n3, un n4, un n5, un n6, un n7] 8) :
    Calls Tryd.prog 6 #[T8 n0 n1 n2 n3 n4 n5 n6 n7] w fun e w' => e = .returned (.tuple #[.slice none 0 0, .int .i64 61]) ∧ Below w.heap.size w w' := by
  have HF : Hid (¬ Fits [un n0, un n1, n2, n3, un n4, un n5, un n6, un n7] 8) := hf
  have HT : Hid (Tab w) := hT
  clear hf hT
  go_enter Tryd.func6, Tryd.ntmps6
  go_wp2_with (first
    | (go_at_call 9; refine (pack_no _ _ _ _ _ _ _ _ _ ?_ ?_ ?_ ?_).mono ?_; exact HT.out.below ((Below.refl _ _).alloc (Nat.le_refl _) _); exact h2; exact h3; exact HF.out; rintro e u1 ⟨rfl, b1⟩; have bw1 := ((Below.refl w.heap.size w).alloc (Nat.le_refl _) _).trans (b1.mono (by simp)); clear b1))
  go_ret2
  exact ⟨rfl, bw1⟩

end Go.Proofs.YtgdmagmbkmgdfabDoor
