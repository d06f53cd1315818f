/-
  SEAT Ytgijbpkfheillaa: same.
-/
import Derived.Test.YtgijbpkfheillaaBlC
import Derived.Deep.QuietTactic
namespace Go.Proofs.Ytgijbpkfheillaa
open Go.RowKit
set_option linter.unusedVariables false

theorem ReadsK.drewN {w : World} {a : Option Addr} {len : Nat} {bs : List Bk} (h : ReadsK w a len bs) (k : Nat) : ReadsK (w.drewN k) a len bs := by
  obtain ⟨h1, h2, h3, h4⟩ := h
  exact ⟨h1, h2, h3, fun x hx i hi j hj => by simpa using h4 x hx i hi j hj⟩

set_option maxHeartbeats 1000000 in
theorem same_eq (a a' : Option Addr) (len cap cap' : Nat) (bs : List Bk) (w : World) (hr : ReadsK w a len bs) (hr' : ReadsK w a' len bs) (hl : len ≤ 140737488355000) :
    Calls Try.prog 23 #[.slice a len cap, .slice a' len cap'] w fun e w' => e = .returned (.bool true) ∧ ∃ q, w' = w.drewN q := by
  have HR : Hid (ReadsK w a len bs) := hr
  have HR' : Hid (ReadsK w a' len bs) := hr'
  have d0 : ((len : Int) != len) = false := by simp
  clear hr hr'
  go_enter Try.func23, Try.ntmps23
  go_wp2
  go_loopw [5] (fun s5 wr => ∃ k : Nat, k ≤ len ∧ s5 = .int .i64 k ∧ ∃ q, wr = w.drewN q)
    (fun i _ => len - (intOf i).toNat)
  case atStart => exact ⟨0, Nat.zero_le _, rfl, 0, rfl⟩
  case round =>
    obtain ⟨k, hk, rfl, q, rfl⟩ := hrel
    by_cases hlt : k < len
    · obtain ⟨g, off, rfl, hg, hcell⟩ := HR.out.pos (by omega)
      obtain ⟨g', off', rfl, hg', hcell'⟩ := HR'.out.pos (by omega)
      obtain ⟨B, hB⟩ : ∃ B, bs.getD k Bk.zero = B := ⟨_, rfl⟩
      have hc := hcell k hlt
      have hc' := hcell' k hlt
      rw [hB] at hc hc'
      obtain ⟨s, h, r, l⟩ := B
      obtain ⟨c0, c1, c2, c3⟩ := hc
      obtain ⟨e0, e1, e2, e3⟩ := hc'
      simp only at c0 c1 c2 c3 e0 e1 e2 e3
      have d1 : (k : Int) < len := by omega
      clear hcell hcell' hB
      go_wp2
      go_quiet (fail)
      go_wp2
      go_roundw
      case rel => exact ⟨k + 1, by omega, by go_num, _, rfl⟩
      case measure => simp [intOf]; omega
    · have hkn : k = len := by omega
      subst hkn
      go_wp2
      go_ret
      exact ⟨rfl, _, rfl⟩
end Go.Proofs.Ytgijbpkfheillaa
