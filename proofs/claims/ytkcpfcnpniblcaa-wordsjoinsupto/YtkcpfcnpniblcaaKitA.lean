/-
  SEAT Ytkcpfcnpniblcaa: THE SMALL FUNCTIONS: no, sizeMayBe, fits, reaches, power, Mod.
-/
import Derived.Test.YtkcpfcnpniblcaaRows
import Derived.WalkKit
import Derived.WalkSpells
import Derived.Below
namespace Go.Proofs.Ytkcpfcnpniblcaa
open Go.RowKit

theorem ret_bool {a b : Bool} (h : a = b) : Ending.returned (.bool a) = .returned (.bool b) := by rw [h]
theorem ret_int {k : IntKind} {a b : Int} (h : a = b) : Ending.returned (.int k a) = .returned (.int k b) := by rw [h]

theorem no_any (n : Int) (w : World) : Calls Try.prog 14 #[.int .i64 n] w fun e w' => e = .returned (.int .i64 n) ∧ w = w' := by
  go_enter Try.func14, Try.ntmps14
  go_wp2
  go_ret
  exact ⟨rfl, rfl⟩

theorem sizeMayBe_yes (n : Int) (w : World) (h1 : 1 ≤ n) (h2 : n ≤ 8) : Calls Try.prog 18 #[.int .i64 n] w fun e w' => e = .returned (.bool true) ∧ w = w' := by
  go_enter Try.func18, Try.ntmps18
  go_wp2
  go_ret
  exact ⟨rfl, rfl⟩

theorem sizeMayBe_no (n : Int) (w : World) (h : n < 1 ∨ 8 < n) : Calls Try.prog 18 #[.int .i64 n] w fun e w' => e = .returned (.bool false) ∧ w = w' := by
  rcases h with h | h
  · go_enter Try.func18, Try.ntmps18
    go_wp2
    go_ret
    exact ⟨rfl, rfl⟩
  · have h1 : 1 ≤ n := by omega
    go_enter Try.func18, Try.ntmps18
    go_wp2
    go_ret
    exact ⟨ret_bool (decide_eq_false (by omega)), rfl⟩

theorem fits_any (v n : Int) (w : World) (h1 : 1 ≤ n) (h2 : n ≤ 8) : Calls Try.prog 20 #[.int .u64 v, .int .i64 n] w fun e w' => e = .returned (.bool (v / 2 ^ (8 * n).toNat == 0)) ∧ w = w' := by
  go_enter Try.func20, Try.ntmps20
  go_wp2
  go_ret
  exact ⟨rfl, rfl⟩

theorem power_any (v n : Int) (w : World) (h1 : 1 ≤ n) (h2 : n ≤ 8) (hv : v < 18446744073709551616) (hv0 : 0 ≤ v) : Calls Try.prog 21 #[.int .u64 v, .int .i64 n] w fun e w' => e = .returned (.bool (v / 2 ^ (8 * n).toNat == 0)) ∧ w = w' := by
  by_cases h : n = 8
  · subst h
    have hd : v / 18446744073709551616 = 0 := Int.ediv_eq_zero_of_lt hv0 hv
    go_enter Try.func21, Try.ntmps21
    go_wp2
    go_ret
    exact ⟨by simp [hd], rfl⟩
  · have hn : (n == 8) = false := by simpa using h
    go_enter Try.func21, Try.ntmps21
    go_wp2
    go_ret
    exact ⟨rfl, rfl⟩

theorem reaches_yes (a : Option Addr) (l c : Nat) (t n : Int) (w : World) (hl : (l : Int) ≤ 9223372036854775807) (h1 : 1 ≤ n) (h2 : n ≤ 8) (h3 : 0 ≤ t) (h4 : t ≤ l - n) :
    Calls Try.prog 19 #[.slice a l c, .int .i64 t, .int .i64 n] w fun e w' => e = .returned (.bool true) ∧ w = w' := by
  go_enter Try.func19, Try.ntmps19
  go_wp2
  go_ret
  exact ⟨rfl, rfl⟩

theorem reaches_no (a : Option Addr) (l c : Nat) (t n : Int) (w : World) (hl : (l : Int) ≤ 9223372036854775807) (h1 : 1 ≤ n) (h2 : n ≤ 8) (h : t < 0 ∨ l - n < t) :
    Calls Try.prog 19 #[.slice a l c, .int .i64 t, .int .i64 n] w fun e w' => e = .returned (.bool false) ∧ w = w' := by
  by_cases h3 : 0 ≤ t
  · go_enter Try.func19, Try.ntmps19
    go_wp2
    go_ret
    exact ⟨ret_bool (decide_eq_false (by omega)), rfl⟩
  · go_enter Try.func19, Try.ntmps19
    go_wp2
    go_ret
    exact ⟨rfl, rfl⟩

end Go.Proofs.Ytkcpfcnpniblcaa
