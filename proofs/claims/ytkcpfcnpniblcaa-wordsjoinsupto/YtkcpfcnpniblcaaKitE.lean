/-
  SEAT Ytkcpfcnpniblcaa: the two Puts, as one.
-/
import Derived.Test.YtkcpfcnpniblcaaKitD
namespace Go.Proofs.Ytkcpfcnpniblcaa
open Go.RowKit

theorem puts_any (l : Nat) (t n v : Int) (zs : List Int) (hz : zs.length = l) (hl : l ≤ 140737488355000) (hv : 0 ≤ v) (hv2 : v < 18446744073709551616) (hr : ∀ x ∈ zs, 0 ≤ x ∧ x ≤ 255) :
    ∃ (code : Int) (zs' : List Int), zs'.length = l ∧ (∀ x ∈ zs', 0 ≤ x ∧ x ≤ 255) ∧
      (∀ (w : World) (B g cap : Nat), Own w B g (l + 3) cap (zs ++ [161, 178, 195]) →
        Calls Try.prog 16 #[.slice (some ⟨g, 0, none⟩) l cap, .int .i64 t, .int .i64 n, .int .u64 v] w fun e w' => e = .returned (.int .i64 code) ∧ Own w' B g (l + 3) cap (zs' ++ [161, 178, 195]) ∧ w.grownBy w' (some g)) ∧
      (∀ (w : World) (a : Option Addr) (cap : Nat), Reads w a l zs →
        Calls Try.prog 17 #[.slice a l cap, .int .i64 t, .int .i64 n, .int .u64 v] w fun e w' => ∃ g c, e = .returned (.tuple #[.slice (some ⟨g, 0, none⟩) l c, .int .i64 code]) ∧ Own w' w.heap.size g l c zs' ∧ Below w.heap.size w w') := by
  by_cases hn : n < 1 ∨ 8 < n
  · refine ⟨11, zs, hz, hr, fun w B g cap ho => (put_size _ _ _ _ _ _ _ hn).mono ?_, fun w a cap h => rput_size _ _ _ _ _ _ _ _ hl hn h⟩
    rintro e w' ⟨rfl, rfl⟩
    exact ⟨rfl, ho, World.grownBy.refl _ _⟩
  · have h1 : 1 ≤ n := by omega
    have h2 : n ≤ 8 := by omega
    cases hf : (v / 2 ^ (8 * n).toNat == 0) with
    | false =>
      refine ⟨11, zs, hz, hr, fun w B g cap ho => (put_wide _ _ _ _ _ _ _ h1 h2 hf).mono ?_, fun w a cap h => rput_wide _ _ _ _ _ _ _ _ hl h1 h2 hf hv hv2 h⟩
      rintro e w' ⟨rfl, rfl⟩
      exact ⟨rfl, ho, World.grownBy.refl _ _⟩
    | true =>
      by_cases ht : t < 0 ∨ l - n < t
      · refine ⟨10, zs, hz, hr, fun w B g cap ho => (put_short _ _ _ _ _ _ _ (by omega) h1 h2 hf ht).mono ?_, fun w a cap h => rput_short _ _ _ _ _ _ _ _ hl h1 h2 hf hv hv2 ht h⟩
        rintro e w' ⟨rfl, rfl⟩
        exact ⟨rfl, ho, World.grownBy.refl _ _⟩
      · obtain ⟨t', rfl⟩ := Int.eq_ofNat_of_zero_le (show 0 ≤ t by omega)
        obtain ⟨n', rfl⟩ := Int.eq_ofNat_of_zero_le (show 0 ≤ n by omega)
        refine ⟨0, putL zs t' v n', by rw [putL_length, hz], putL_range _ _ _ _ hr, fun w B g cap ho => ?_, fun w a cap h => rput_ok _ _ _ _ _ _ _ _ hl (by omega) (by omega) hf (by omega) hv hv2 h⟩
        have := put_ok B g (l + 3) cap l t' n' v _ w (by omega) (by omega) (by omega) hf (by omega) (by omega) hv ho
        rwa [putL_append zs [161, 178, 195] t' n' v n' (Nat.le_refl _) (by omega)] at this

end Go.Proofs.Ytkcpfcnpniblcaa
