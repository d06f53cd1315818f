/-
  SEAT Ytnopljjngbgpdaa: Page of both: the same answer.
-/
import Derived.Test.YtnopljjngbgpdaaHa
import Derived.Test.YtnopljjngbgpdaaHb
import Derived.Test.YtnopljjngbgpdaaHc
import Derived.Test.YtnopljjngbgpdaaHd
namespace Go.Proofs.Ytnopljjngbgpdaa
open Go.RowKit
set_option linter.unusedVariables false

/-- What a call of Page leaves. -/
def PgOut (w w' : World) (e : Ending) (E : Int) (C D : Nat) (d1 d2 : List Int) : Prop :=
  ∃ a1 k1 a2 k2, e = .returned (.tuple #[.agg #[.slice a1 C k1, .slice a2 D k2], .int .i64 E]) ∧ Reads w' a1 C d1 ∧ Reads w' a2 D d2 ∧ Below w.heap.size w w'

theorem reads_nil (w : World) : Reads w none 0 [] := ⟨rfl, by simp, fun _ => rfl, fun _ h => by cases h⟩

theorem chk_ok {b q s : Int} {n m : Nat} (h : chkE b q s n m = 0) : Fits b q s = true ∧ (n : Int) = b * q * pgL s ∧ (m : Int) = b := by
  unfold chkE at h
  split at h
  · rename_i hf
    split at h
    · rename_i h2; exact ⟨hf, h2.1, h2.2⟩
    · omega
  · omega

theorem page_num {b q s x y : Int} {n : Nat} (hf : Fits b q s = true) (hn : (n : Int) = b * q * pgL s) (hx0 : 0 ≤ x) (hx1 : x < b) (hy0 : 0 ≤ y) (hy1 : y < q) :
    ∃ k Ln : Nat, (Ln : Int) = 256 * s + (54 + 3 * s) ∧ x * q + y = (k : Int) ∧ (k + 1) * Ln ≤ n ∧ k ≤ 65536 := by
  obtain ⟨q1, q2, q3, q4, q5, q6, q7, q8⟩ := fits_all hf
  have h1 : (x + 1) * q ≤ b * q := Int.mul_le_mul_of_nonneg_right (by omega) (by omega)
  have h2 : (x + 1) * q = x * q + q := by rw [Int.add_mul]; omega
  have h3 : 0 ≤ x * q := Int.mul_nonneg hx0 (by omega)
  obtain ⟨X, hX⟩ : ∃ X, x * q = X := ⟨_, rfl⟩
  obtain ⟨k, hk⟩ := Int.eq_ofNat_of_zero_le (show 0 ≤ X + y by omega)
  obtain ⟨Ln, hL⟩ := Int.eq_ofNat_of_zero_le (show 0 ≤ 256 * s + (54 + 3 * s) by omega)
  refine ⟨k, Ln, hL.symm, by rw [hX]; exact hk, ?_, by omega⟩
  have h4 : ((k : Int) + 1) * (Ln : Int) ≤ (b * q) * (Ln : Int) := Int.mul_le_mul_of_nonneg_right (by omega) (by omega)
  have h5 : (n : Int) = b * q * (Ln : Int) := by rw [hn]; unfold pgL; rw [hL]
  have h6 : (((k + 1) * Ln : Nat) : Int) ≤ (n : Int) := by rw [h5]; simpa using h4
  omega

theorem pages_both (b q s : Int) (n m : Nat) (x y : Int) (zs : List Int) (hn : n ≤ 140737488355000) (hm : m ≤ 140737488355000) :
    ∃ (E : Int) (C D : Nat) (d1 d2 : List Int),
      (∀ (W : World) (a a' : Option Addr) (c c' : Nat), Reads W a n zs → Calls Try.prog 12 #[.agg #[.int .i64 b, .int .i64 q, .int .i64 s, .slice a n c, .slice a' m c'], .agg #[.int .i64 x, .int .i64 y]] W fun e w' => PgOut W w' e E C D d1 d2) ∧
      (∀ (W : World) (g : Nat) (a' : Option Addr) (c c' : Nat), Reads W (some ⟨g, 0, none⟩) n zs → n ≤ c → c ≤ 9223372036854775807 → Calls Try.prog 13 #[.agg #[.int .i64 b, .int .i64 q, .int .i64 s, .slice (some ⟨g, 0, none⟩) n c, .slice a' m c'], .agg #[.int .i64 x, .int .i64 y]] W fun e w' => PgOut W w' e E C D d1 d2) := by
  by_cases hE : chkE b q s n m = 0
  · by_cases hxy : 0 ≤ x ∧ x < b ∧ 0 ≤ y ∧ y < q
    · obtain ⟨hx0, hx1, hy0, hy1⟩ := hxy
      obtain ⟨hf, hnn, hmm⟩ := chk_ok hE
      obtain ⟨k, Ln, hLn, hXk, hK, hk⟩ := page_num hf hnn hx0 hx1 hy0 hy1
      obtain ⟨q1, q2, q3, q4, q5, q6, q7, q8⟩ := fits_all hf
      obtain ⟨C, hC⟩ := Int.eq_ofNat_of_zero_le (show 0 ≤ 256 * s by omega)
      have hnp : 0 < n := by
        have : 0 < (k + 1) * Ln := Nat.mul_pos (by omega) (by omega)
        omega
      refine ⟨0, C, Ln - C, ((zs.drop (k * Ln)).take Ln).take C, ((zs.drop (k * Ln)).take Ln).drop C, ?_, ?_⟩
      · intro W a a' c c' hr
        obtain ⟨bk, off, rfl, _, _⟩ := hr.pos hnp
        refine (rPage_ok b q s bk off a' n c m c' x y zs W k Ln (k * Ln) ((k + 1) * Ln) C (x * q) hn hm hE hf hr hLn hC rfl rfl hK hk rfl hXk hx0 hx1 hy0 hy1).mono ?_
        rintro e w' ⟨g1, k1, g2, k2, h1, h2, h3, h4⟩
        exact ⟨_, _, _, _, h1, h2, h3, h4⟩
      · intro W g a' c c' hr hnc hc
        refine (pPage_ok b q s g 0 a' n c m c' x y zs W k Ln (k * Ln) ((k + 1) * Ln) C (x * q) hnc hc hn hm hE hf hr hLn hC rfl rfl hK hk rfl hXk hx0 hx1 hy0 hy1).mono ?_
        rintro e w' ⟨g1, k1, g2, k2, h1, h2, h3, h4⟩
        exact ⟨_, _, _, _, h1, h2, h3, h4⟩
    · refine ⟨41, 0, 0, [], [], ?_, ?_⟩
      · intro W a a' c c' hr
        refine (rPage_bad b q s a a' n c m c' x y W hn hm hE hxy).mono ?_
        rintro e w' ⟨h1, h4⟩
        exact ⟨_, _, _, _, h1, reads_nil _, reads_nil _, h4⟩
      · intro W g a' c c' hr hnc hc
        refine (pPage_bad b q s _ a' n c m c' x y W hn hm hE hxy).mono ?_
        rintro e w' ⟨h1, h4⟩
        exact ⟨_, _, _, _, h1, reads_nil _, reads_nil _, h4⟩
  · refine ⟨chkE b q s n m, 0, 0, [], [], ?_, ?_⟩
    · intro W a a' c c' hr
      refine (rPage_err b q s a a' n c m c' x y W hn hm _ rfl hE).mono ?_
      rintro e w' ⟨h1, h4⟩
      exact ⟨_, _, _, _, h1, reads_nil _, reads_nil _, h4⟩
    · intro W g a' c c' hr hnc hc
      refine (pPage_err b q s _ a' n c m c' x y W hn hm _ rfl hE).mono ?_
      rintro e w' ⟨h1, h4⟩
      exact ⟨_, _, _, _, h1, reads_nil _, reads_nil _, h4⟩

end Go.Proofs.Ytnopljjngbgpdaa
