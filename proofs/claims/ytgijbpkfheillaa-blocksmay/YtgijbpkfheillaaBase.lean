/-
  SEAT Ytgijbpkfheillaa: what a block may be.
-/
import Derived.Test.YtgijbpkfheillaaRows
import Derived.WalkKit
import Derived.WalkSpells
import Derived.WalkSmall
import Derived.ProofKit
import Derived.OpenShut
import Derived.ChangeOld
import Derived.Below
import Derived.BigQuiet
import Derived.Deep.RegionHeld3
namespace Go.Proofs.Ytgijbpkfheillaa
open Go.RowKit
set_option linter.unusedVariables false

theorem ret_bool {a b : Bool} (h : a = b) : Ending.returned (.bool a) = .returned (.bool b) := by rw [h]
theorem below1 {w u : World} {x : Obj} (h : Below (w.alloc x).heap.size (w.alloc x) u) : Below w.heap.size w u :=
  Below.trans ((Below.refl _ _).alloc (Nat.le_refl _) _) (h.mono (by simp))

def headOk (h : Int) : Bool := decide (1 ≤ h ∧ h ≤ 281474976710655)
def liveOk (p l : Int) : Bool := decide (0 ≤ l ∧ l ≤ p - 1)

theorem head_any (h : Int) (w : World) : Calls Try.prog 76 #[.int .u64 h] w fun e w' => e = .returned (.bool (headOk h)) ∧ w = w' := by
  by_cases h0 : 1 ≤ h
  · by_cases h1 : h ≤ 281474976710655
    · go_enter Try.func76, Try.ntmps76
      go_wp2
      go_ret
      exact ⟨ret_bool (by simp [headOk]; omega), rfl⟩
    · go_enter Try.func76, Try.ntmps76
      go_wp2
      go_ret
      exact ⟨ret_bool (by simp [headOk]; omega), rfl⟩
  · go_enter Try.func76, Try.ntmps76
    go_wp2
    go_ret
    exact ⟨ret_bool (by simp [headOk]; omega), rfl⟩

theorem live_any (b p s l : Int) (w : World) (hp : 4 ≤ p ∧ p ≤ 256) : Calls Try.prog 77 #[.agg #[.int .i64 b, .int .i64 p, .int .i64 s], .int .i64 l] w fun e w' => e = .returned (.bool (liveOk p l)) ∧ Below w.heap.size w w' := by
  by_cases h0 : 0 ≤ l
  · by_cases h1 : l ≤ p - 1
    · go_enter Try.func77, Try.ntmps77
      go_wp2
      go_ret
      exact ⟨ret_bool (by simp [liveOk]; omega), (Below.refl _ _).alloc (Nat.le_refl _) _⟩
    · go_enter Try.func77, Try.ntmps77
      go_wp2
      go_ret
      exact ⟨ret_bool (by simp [liveOk]; omega), (Below.refl _ _).alloc (Nat.le_refl _) _⟩
  · go_enter Try.func77, Try.ntmps77
    go_wp2
    go_ret
    exact ⟨ret_bool (by simp [liveOk]; omega), (Below.refl _ _).alloc (Nat.le_refl _) _⟩

def lastOk (s : Int) (isLast : Bool) : Bool := if isLast then (s != 0 && s != 6) else (s != 5)
theorem last_any (s : Int) (q : Bool) (w : World) : Calls Try.prog 71 #[.int .i64 s, .bool q] w fun e w' => e = .returned (.bool (lastOk s q)) ∧ w = w' := by
  cases q with
  | true =>
    by_cases h0 : s = 0
    · subst h0
      go_enter Try.func71, Try.ntmps71
      go_wp2
      go_ret
      exact ⟨ret_bool (by simp [lastOk]), rfl⟩
    · have d : (s != 0) = true := by simpa using h0
      go_enter Try.func71, Try.ntmps71
      go_wp2
      go_ret
      exact ⟨ret_bool (by simp [lastOk, h0, bne]), rfl⟩
  | false =>
    go_enter Try.func71, Try.ntmps71
    go_wp2
    go_ret
    exact ⟨ret_bool (by simp [lastOk, bne]), rfl⟩

def rowOk (P s h : Int) (r : Bool) (l : Int) : Bool :=
  if s = 0 ∨ s = 5 ∨ s = 6 then decide (h = 0 ∧ r = false ∧ l = 0)
  else if s = 3 then headOk h && (l == 0)
  else if s = 1 then headOk h && liveOk P l && (r || decide (0 < l))
  else if s = 2 ∨ s = 4 then headOk h && liveOk P l
  else false
end Go.Proofs.Ytgijbpkfheillaa
